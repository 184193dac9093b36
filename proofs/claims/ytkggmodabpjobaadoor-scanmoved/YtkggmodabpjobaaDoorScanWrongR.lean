/- What is told ahead of all else, with rules. What newMachine makes, whatever the rules. -/
import Derived.Test.YtkggmodabpjobaaDoorScanRulesG
import Derived.Test.YtkggmodabpjobaaDoorScanNewR
import Derived.Deep.QuietTactic
import Derived.BigQuiet
namespace Go.Proofs.YtkggmodabpjobaaDoor
open Go.RowKit

set_option maxRecDepth 100000 in
set_option maxHeartbeats 1000000 in
theorem rules_none {xa : Option Addr} {cap : Nat} (w : World) : Calls Tryd.prog 17 #[.slice xa 0 cap] w fun e w' => e = .returned (.int .i64 0) ∧ w' = w := by
  go_enter Tryd.func17, Tryd.ntmps17
  go_wp2_with fail
  go_loop [11] (fun i => i = .int .i64 0) (fun _ => 0)
  case atStart => rfl
  case round =>
    subst hrel
    go_wp2_with fail
    go_ret
    exact ⟨rfl, rfl⟩

/-- Rules as a value. -/
def RVal (w : World) (RL : List (ByteArray × PT)) (v : Value) : Prop := (∀ (i : Nat) (r : ByteArray × PT), RL[i]? = some r → r.1.size ≤ maxLen) ∧ ((RL = [] ∧ ∃ xa cap, v = .slice xa 0 cap) ∨ ∃ b o cap, v = .slice (some ⟨b, o, none⟩) RL.length cap ∧ RL.length ≤ cap ∧ RulesAt w b o RL)
theorem RVal.later {w w' : World} {RL : List (ByteArray × PT)} {v : Value} (h : RVal w RL v) (hb : Below w.heap.size w w') : RVal w' RL v := ⟨h.1, by
  rcases h.2 with q | ⟨b, o, cap, h1, h2, h3⟩
  · exact .inl q
  · exact .inr ⟨b, o, cap, h1, h2, h3.later hb⟩⟩
theorem rules_val {w : World} {RL : List (ByteArray × PT)} {v : Value} (h : RVal w RL v) (hS : Shapes w) : Calls Tryd.prog 17 #[v] w fun e w' => e = .returned (.int .i64 (rulesWrong RL)) ∧ Below w.heap.size w w' := by
  rcases h.2 with ⟨rfl, xa, cap, rfl⟩ | ⟨b, o, cap, rfl, h2, h3⟩
  · refine (rules_none w).mono ?_
    rintro e w' ⟨rfl, rfl⟩
    exact ⟨rfl, Below.refl _ _⟩
  · exact rules_any h3 h2 h.1 hS
theorem new_val {w : World} {RL : List (ByteArray × PT)} {v : Value} (T : PT) (s : ByteArray) (fuel room : Nat) (h : RVal w RL v) (hl : RL.length ≤ 64) (hT : T.In w) (hs : s.size ≤ 65536) (hcn : T.cnt ≤ 100000) (hNZ : NZ T) :
    Calls Tryd.prog 11 #[v, pv T, .string s, .int .i64 (fuel : Int), .int .i64 (room : Int)] w fun e w' => ∃ g m N, e = .returned (.pointer (some ⟨g, 0, none⟩)) ∧ Rep w' w.heap.size g m N (List.replicate RL.length (-1)) [] [] [] [] ∧ m.s = s ∧ (RL ≠ [] → m.rv = v) ∧ m.fuel = fuel ∧ m.room = room ∧ m.ticks = 0 ∧ m.told = 0 ∧ m.shut = false ∧ m.err = 0 ∧ m.begun = false ∧ m.root = 0 ∧ Lies (fun nm => ruleAt nm RL 0) N T 0 ∧ (Fresh 0 N ∧ N.length = T.cnt) ∧ Below w.heap.size w w' := by
  obtain ⟨xa, cap, rfl, hRN⟩ : ∃ xa cap, v = .slice xa RL.length cap ∧ RN (fun nm => ruleAt nm RL 0) (.slice xa RL.length cap) w := by
    rcases h.2 with ⟨rfl, xa, cap, rfl⟩ | ⟨b, o, cap, rfl, h2, h3⟩
    · exact ⟨xa, cap, rfl, rn_none w⟩
    · exact ⟨_, cap, rfl, rn_rules h3 (by omega)⟩
  refine (new_any T s fuel room w hRN (by omega) hT hs hcn hNZ).mono ?_
  rintro e w' ⟨g, m, N, rfl, r, m1, m2, m3, m4, m5, m6, m7, m8, m9, m10, l, fr, hb⟩
  exact ⟨g, m, N, rfl, r, m1, fun _ => m2, m3, m4, m5, m6, m7, m8, m9, m10, l, fr, hb⟩

/-- What is wrong. -/
def wrongR (RL : List (ByteArray × PT)) (T : PT) (s : ByteArray) (fuel : Int) : Int := if T.wrong ≠ 0 then T.wrong else if rulesWrong RL ≠ 0 then rulesWrong RL else if 65536 < s.size then 4 else if fuel < 0 ∨ 100000 < fuel then 3 else 0
theorem wrongR_ok {RL : List (ByteArray × PT)} {T : PT} {s : ByteArray} {fuel : Int} (h : wrongR RL T s fuel = 0) : T.wrong = 0 ∧ rulesWrong RL = 0 ∧ s.size ≤ 65536 ∧ 0 ≤ fuel ∧ fuel ≤ 100000 := by
  unfold wrongR at h
  split at h
  · contradiction
  · split at h
    · contradiction
    · split at h
      · cases h
      · split at h
        · cases h
        · omega

set_option maxRecDepth 100000 in
set_option maxHeartbeats 1000000 in
theorem wrong_rules (T : PT) (s : ByteArray) (fuel : Int) (w : World) {RL : List (ByteArray × PT)} {v : Value} (hV : RVal w RL v) (hT : T.In w) (hS : Shapes w) (hs : s.size ≤ maxLen) :
    Calls Tryd.prog 10 #[v, pv T, .string s, .int .i64 fuel] w fun e w' => e = .returned (.int .i64 (wrongR RL T s fuel)) ∧ Below w.heap.size w w' := by
  unfold maxLen at hs
  have HW := hide (fun W (h : Below w.heap.size w W) => wrong_any T W (PT.In.later h hT) (hS.later h))
  have HR := hide (fun W (h : Below w.heap.size w W) => rules_val (hV.later h) (hS.later h))
  have hb0 : Below w.heap.size w (w.alloc (.cells #[.int .i64 T.k, .string T.t, .int .i64 T.n, .string T.nm, .slice T.xa T.len T.cap] 24)) := (Below.refl _ _).alloc (Nat.le_refl _) _
  have HB0 := hide hb0
  unfold pv at HW ⊢
  clear hT hS hb0 hV
  obtain ⟨q, hq⟩ : ∃ q, q = T.wrong := ⟨_, rfl⟩
  obtain ⟨p, hp⟩ : ∃ p, p = rulesWrong RL := ⟨_, rfl⟩
  have HQ := hide (And.intro hq hp)
  rw [← hq] at HW
  rw [← hp] at HR
  clear hq hp
  by_cases h0 : q = 0
  · subst h0
    by_cases p0 : p = 0
    · subst p0
      rcases (show 65536 < s.size ∨ (s.size ≤ 65536 ∧ fuel < 0) ∨ (s.size ≤ 65536 ∧ 0 ≤ fuel ∧ 100000 < fuel) ∨ (s.size ≤ 65536 ∧ 0 ≤ fuel ∧ fuel ≤ 100000) by omega) with h | ⟨h, h1⟩ | ⟨h, h1, h2⟩ | ⟨h, h1, h2⟩
      · have hl : (65536 : Int) < (s.size : Int) := by omega
        have HE := hide (show wrongR RL T s fuel = 4 by unfold wrongR; rw [if_neg (by rw [← (unhide HQ).1]; simp), if_neg (by rw [← (unhide HQ).2]; simp), if_pos h])
        go_enter Tryd.func10, Tryd.ntmps10
        go_wp2_with (first | (go_at_call 16; refine (unhide HW _ (unhide HB0)).mono ?_; rintro e w1 ⟨rfl, hb1⟩) | (go_at_call 17; refine (unhide HR w1 (bnext (unhide HB0) hb1)).mono ?_; rintro e w2 ⟨rfl, hb2⟩))
        go_ret
        exact ⟨(by rw [unhide HE]; rfl), bnext (bnext (unhide HB0) hb1) hb2⟩
      · have hl : ¬ (65536 : Int) < (s.size : Int) := by omega
        have HE := hide (show wrongR RL T s fuel = 3 by unfold wrongR; rw [if_neg (by rw [← (unhide HQ).1]; simp), if_neg (by rw [← (unhide HQ).2]; simp), if_neg (by omega), if_pos (by omega)])
        go_enter Tryd.func10, Tryd.ntmps10
        go_wp2_with (first | (go_at_call 16; refine (unhide HW _ (unhide HB0)).mono ?_; rintro e w1 ⟨rfl, hb1⟩) | (go_at_call 17; refine (unhide HR w1 (bnext (unhide HB0) hb1)).mono ?_; rintro e w2 ⟨rfl, hb2⟩))
        go_ret
        exact ⟨(by rw [unhide HE]; rfl), bnext (bnext (unhide HB0) hb1) hb2⟩
      · have hl : ¬ (65536 : Int) < (s.size : Int) := by omega
        have h1' : decide (fuel < 0) = false := by simp; omega
        have HE := hide (show wrongR RL T s fuel = 3 by unfold wrongR; rw [if_neg (by rw [← (unhide HQ).1]; simp), if_neg (by rw [← (unhide HQ).2]; simp), if_neg (by omega), if_pos (by omega)])
        go_enter Tryd.func10, Tryd.ntmps10
        go_wp2_with (first | (go_at_call 16; refine (unhide HW _ (unhide HB0)).mono ?_; rintro e w1 ⟨rfl, hb1⟩) | (go_at_call 17; refine (unhide HR w1 (bnext (unhide HB0) hb1)).mono ?_; rintro e w2 ⟨rfl, hb2⟩))
        go_ret
        exact ⟨(by rw [unhide HE]; rfl), bnext (bnext (unhide HB0) hb1) hb2⟩
      · have hl : ¬ (65536 : Int) < (s.size : Int) := by omega
        have h1' : decide (fuel < 0) = false := by simp; omega
        have h2' : ¬ (100000 : Int) < fuel := by omega
        have HE := hide (show wrongR RL T s fuel = 0 by unfold wrongR; rw [if_neg (by rw [← (unhide HQ).1]; simp), if_neg (by rw [← (unhide HQ).2]; simp), if_neg (by omega), if_neg (by omega)])
        go_enter Tryd.func10, Tryd.ntmps10
        go_wp2_with (first | (go_at_call 16; refine (unhide HW _ (unhide HB0)).mono ?_; rintro e w1 ⟨rfl, hb1⟩) | (go_at_call 17; refine (unhide HR w1 (bnext (unhide HB0) hb1)).mono ?_; rintro e w2 ⟨rfl, hb2⟩))
        go_ret
        exact ⟨(by rw [unhide HE]; rfl), bnext (bnext (unhide HB0) hb1) hb2⟩
    · have h3 : (p != 0) = true := by rw [bne_iff_ne]; exact p0
      have HE := hide (show wrongR RL T s fuel = p by unfold wrongR; rw [if_neg (by rw [← (unhide HQ).1]; simp), if_pos (by rw [← (unhide HQ).2]; exact p0), ← (unhide HQ).2])
      clear p0
      go_enter Tryd.func10, Tryd.ntmps10
      go_wp2_with (first | (go_at_call 16; refine (unhide HW _ (unhide HB0)).mono ?_; rintro e w1 ⟨rfl, hb1⟩) | (go_at_call 17; refine (unhide HR w1 (bnext (unhide HB0) hb1)).mono ?_; rintro e w2 ⟨rfl, hb2⟩))
      go_ret
      exact ⟨(by rw [unhide HE]; rfl), bnext (bnext (unhide HB0) hb1) hb2⟩
  · have h3 : (q != 0) = true := by rw [bne_iff_ne]; exact h0
    have HE := hide (show wrongR RL T s fuel = q by unfold wrongR; rw [if_pos (by rw [← (unhide HQ).1]; exact h0), ← (unhide HQ).1])
    clear h0
    go_enter Tryd.func10, Tryd.ntmps10
    go_wp2_with (go_at_call 16; refine (unhide HW _ (unhide HB0)).mono ?_; rintro e w1 ⟨rfl, hb1⟩)
    go_ret
    exact ⟨(by rw [unhide HE]; rfl), bnext (unhide HB0) hb1⟩
end Go.Proofs.YtkggmodabpjobaaDoor
