/- Which rule has a name. What is wrong with rules; rules as a value. What is right: patterns and rules of which nothing is told. -/
import Derived.Test.YtkggmodabpjobaaDoorScanFillG
import Derived.Test.YtkggmodabpjobaaDoorScanFurther
import Derived.Test.YtkggmodabpjobaaDoorPatBelow
import Derived.Deep.RegionHeld3
import Derived.Deep.QuietTactic
import Derived.BigQuiet
import Derived.Test.YtkggmodabpjobaaDoorScanSimR
namespace Go.Proofs.YtkggmodabpjobaaDoor
open Go.RowKit

/-- Rules as they lie in memory. -/
structure RulesAt (w : World) (b o : Nat) (RL : List (ByteArray × PT)) : Prop where
  cells : ∀ (i : Nat) (r : ByteArray × PT), RL[i]? = some r → w.cell? ⟨b, o + i * 6, none⟩ = some (.string r.1) ∧ w.cell? ⟨b, o + i * 6 + 1, none⟩ = some (.int .i64 r.2.k) ∧ w.cell? ⟨b, o + i * 6 + 2, none⟩ = some (.string r.2.t) ∧ w.cell? ⟨b, o + i * 6 + 3, none⟩ = some (.int .i64 r.2.n) ∧ w.cell? ⟨b, o + i * 6 + 4, none⟩ = some (.string r.2.nm) ∧ w.cell? ⟨b, o + i * 6 + 5, none⟩ = some r.2.kv
  pats : ∀ (i : Nat) (r : ByteArray × PT), RL[i]? = some r → r.2.In w
theorem RulesAt.later {w w' : World} {b o : Nat} {RL : List (ByteArray × PT)} (h : RulesAt w b o RL) (hb : Below w.heap.size w w') : RulesAt w' b o RL :=
  ⟨fun i r hr => by
    obtain ⟨h0, h1, h2, h3, h4, h5⟩ := h.cells i r hr
    exact ⟨cell_later hb h0, cell_later hb h1, cell_later hb h2, cell_later hb h3, cell_later hb h4, cell_later hb h5⟩, fun i r hr => PT.In.later hb (h.pats i r hr)⟩
/-- The first rule of a name, from a place on. -/
def ruleAt (nm : ByteArray) : List (ByteArray × PT) → Nat → Int
  | [], _ => -1
  | r :: l, i => if r.1 = nm then (i : Int) else ruleAt nm l (i + 1)
theorem ruleAt_drop (nm : ByteArray) {RL : List (ByteArray × PT)} {k : Nat} {r : ByteArray × PT} (h : RL[k]? = some r) : ruleAt nm (RL.drop k) k = if r.1 = nm then (k : Int) else ruleAt nm (RL.drop (k + 1)) (k + 1) := by
  obtain ⟨hk, hr⟩ := List.getElem?_eq_some_iff.1 h
  rw [List.drop_eq_getElem_cons hk, ruleAt, hr]

theorem size_rule : (Tryd.prog.info? 66).map (·.size) = some 6 := by kernel_rfl
theorem idx_run' {b o n cap i : Nat} (hi : i < n) (w : World) :
    (Instr.indexAt 42 (.slice (some ⟨b, o, none⟩) n cap) (.int .i64 (i : Int))).run Tryd.prog w = .ok (.pointer (some ⟨b, o + i * 6, none⟩)) w := by
  have h0 : (0 : Int) ≤ (i : Int) ∧ (i : Int) < (n : Int) := by omega
  cases hq : Tryd.prog.info? 66 with
  | none => have := size_rule; simp [hq] at this
  | some x =>
    have hz : x.size = 6 := by have := size_rule; simpa [hq] using this
    simp [Instr.indexAt, asIntOf, run_underlying Tryd.underlying42, h0, sizeOf, typeInfo, hq, hz, Addr.add_lit]
    intro h
    omega

set_option maxRecDepth 100000 in
set_option maxHeartbeats 1000000 in
theorem clo_any (nm a : ByteArray) (k n : Int) (t m : ByteArray) (x : Option Addr) (l c nb : Nat) (w : World) (hn : nb < w.heap.size) (h : w.cell? ⟨nb, 0, none⟩ = some (.string nm)) : Calls Tryd.prog 41 #[.agg #[.string a, .int .i64 k, .string t, .int .i64 n, .string m, .slice x l c], .pointer (some ⟨nb, 0, none⟩)] w fun e w' => e = .returned (.bool (decide (a = nm))) ∧ Below w.heap.size w w' := by
  have hz : ¬ nb = w.heap.size := by omega
  have hz' : ¬ w.heap.size = nb := by omega
  go_enter Tryd.func41, Tryd.ntmps41
  go_wp2_with fail
  go_ret
  exact ⟨(by rw [← toList_beq]; rfl), (Below.refl _ _).alloc (Nat.le_refl _) _⟩

set_option maxRecDepth 100000 in
set_option maxHeartbeats 1000000 in
theorem index_rules {w : World} {b o cap nb : Nat} {RL : List (ByteArray × PT)} {nm : ByteArray} (h : RulesAt w b o RL) (hl : RL.length ≤ 1000000) (hn : nb < w.heap.size) (hnb : w.cell? ⟨nb, 0, none⟩ = some (.string nm)) :
    Calls Tryd.prog 40 #[.slice (some ⟨b, o, none⟩) RL.length cap, .func (.func 41) #[] #[.pointer (some ⟨nb, 0, none⟩)]] w fun e w' => e = .returned (.int .i64 (ruleAt nm RL 0)) ∧ Below w.heap.size w w' := by
  have HA := hide h
  have HN := hide (And.intro hn hnb)
  clear h hn hnb
  go_enter Tryd.func40, Tryd.ntmps40
  go_wp2_with fail
  go_loopw [8] (fun i wr => ∃ k : Nat, k ≤ RL.length ∧ i = .int .i64 (k : Int) ∧ Below w.heap.size w wr ∧ Hid (ruleAt nm RL 0 = ruleAt nm (RL.drop k) k)) (fun i _ => RL.length - (intOf i).toNat)
  case atStart => exact ⟨0, Nat.zero_le _, rfl, Below.refl _ _, rfl⟩
  case round =>
    obtain ⟨k, hk, rfl, hb, HK⟩ := hrel
    rcases Nat.lt_or_ge k RL.length with hlt | hge
    · have hlt' : (k : Int) < (RL.length : Int) := by omega
      obtain ⟨r, hr⟩ : ∃ r, RL[k]? = some r := ⟨_, List.getElem?_eq_getElem hlt⟩
      obtain ⟨q0, q1, q2, q3, q4, q5⟩ := ((unhide HA).later hb).cells k r hr
      unfold PT.kv at q5
      have hia := idx_run' (b := b) (o := o) (n := RL.length) (cap := cap) hlt
      have HC := hide (clo_any nm r.1 r.2.k r.2.n r.2.t r.2.nm r.2.xa r.2.len r.2.cap nb wr (Nat.lt_of_lt_of_le (unhide HN).1 hb.size) (cell_later hb (unhide HN).2))
      have HB := hide hb
      have HD := hide (ruleAt_drop nm hr)
      clear hb hr
      go_wp2_with fail
      refine (unhide HC).mono ?_
      rintro e w1 ⟨rfl, hb1⟩
      have HB1 := hide hb1
      clear hb1
      by_cases hq : r.1 = nm
      · have hd : decide (r.1 = nm) = true := by simpa using hq
        have HD' := hide (show ruleAt nm RL 0 = (k : Int) by rw [unhide HK, unhide HD, if_pos hq])
        clear HK HD
        simp only [hd]
        go_wp2_with fail
        go_ret
        exact ⟨(by rw [unhide HD']; rfl), (unhide HB).trans ((unhide HB1).mono (unhide HB).size)⟩
      · have hd : decide (r.1 = nm) = false := by simpa using hq
        have HD' := hide (show ruleAt nm RL 0 = ruleAt nm (RL.drop (k + 1)) (k + 1) by rw [unhide HK, unhide HD, if_neg hq])
        clear HK HD
        simp only [hd]
        go_wp2_with fail
        exact ⟨⟨k + 1, hlt, by simp, (unhide HB).trans ((unhide HB1).mono (unhide HB).size), HD'⟩, by simp [intOf]; omega⟩
    · have hge' : ¬ (k : Int) < (RL.length : Int) := by omega
      have HD := hide (show ruleAt nm RL 0 = -1 by rw [unhide HK, List.drop_eq_nil_of_le hge]; rfl)
      clear HK
      go_wp2_with fail
      go_ret
      exact ⟨(by rw [unhide HD]; rfl), hb⟩

set_option maxRecDepth 100000 in
set_option maxHeartbeats 1000000 in
theorem rule_any {w : World} {b o cap : Nat} {RL : List (ByteArray × PT)} {nm : ByteArray} (h : RulesAt w b o RL) (hl : RL.length ≤ 1000000) : Calls Tryd.prog 26 #[.slice (some ⟨b, o, none⟩) RL.length cap, .string nm] w fun e w' => e = .returned (.int .i64 (ruleAt nm RL 0)) ∧ Below w.heap.size w w' := by
  have HI := hide h
  clear h
  go_enter Tryd.func26, Tryd.ntmps26
  go_wp2_with fail
  have hba : Below w.heap.size w (w.alloc (Obj.cells #[Value.string nm] 9)) := (Below.refl _ _).alloc (Nat.le_refl _) _
  refine (index_rules (nm := nm) ((unhide HI).later hba) hl (by simp) (by simp)).mono ?_
  rintro e w1 ⟨rfl, hb1⟩
  go_wp2_with fail
  go_ret
  exact ⟨rfl, hba.trans (hb1.mono (by simp))⟩
theorem rn_rules {Wd : World} {b o cap : Nat} {RL : List (ByteArray × PT)} (h : RulesAt Wd b o RL) (hl : RL.length ≤ 1000000) : RN (fun nm => ruleAt nm RL 0) (.slice (some ⟨b, o, none⟩) RL.length cap) Wd := fun _ hb _ _ => rule_any (h.later hb) hl
end Go.Proofs.YtkggmodabpjobaaDoor

namespace Go.Proofs.YtkggmodabpjobaaDoor
open Go.RowKit

/-- What is wrong with one rule, behind those ahead of it. -/
def rwAt (RL : List (ByteArray × PT)) (k : Nat) : Int := match RL[k]? with
  | none => 0
  | some r => if named r.1 = false ∨ 0 ≤ ruleAt r.1 (RL.take k) 0 then 7 else r.2.wrong
def rulesWrong (RL : List (ByteArray × PT)) : Int := if 64 < RL.length then 5 else firstTo (rwAt RL) RL.length
theorem RulesAt.take {w : World} {b o : Nat} {RL : List (ByteArray × PT)} (h : RulesAt w b o RL) (k : Nat) : RulesAt w b o (RL.take k) :=
  ⟨fun i r hr => h.cells i r (by rw [List.getElem?_take] at hr; split at hr; exact hr; cases hr), fun i r hr => h.pats i r (by rw [List.getElem?_take] at hr; split at hr; exact hr; cases hr)⟩

theorem slice_rules {b o n cap k : Nat} (hk : k ≤ n) (hc : n ≤ cap) (w : World) :
    (Instr.sliceAt 42 (.slice (some ⟨b, o, none⟩) n cap) none (some (.int .i64 (k : Int))) none).run Tryd.prog w = .ok (.slice (some ⟨b, o, none⟩) k cap) w := by
  have hs := size_rule
  cases hq : Tryd.prog.info? 66 with
  | none => simp [hq] at hs
  | some i =>
    have hz : i.size = 6 := by simpa [hq] using hs
    have he : Tryd.prog.underlying 42 = some (.slice (Tryd.prog.elem 42)) := by kernel_rfl
    have he2 : Tryd.prog.elem 42 = 66 := by kernel_rfl
    rw [run_sliceAt_slice _ _ _ _ _ _ he, run_slice_h _ _ _ _ _ he .i64 (k : Int) (by omega) (by omega), he2]
    by_cases h1 : cap = 0
    · simp [sizeOf, typeInfo, sliced, hq, hz, h1]
    · simp [sizeOf, typeInfo, sliced, hq, hz, h1, Addr.add_lit]

set_option maxRecDepth 100000 in
set_option maxHeartbeats 1000000 in
theorem rules_any {w : World} {b o cap : Nat} {RL : List (ByteArray × PT)} (h : RulesAt w b o RL) (hc : RL.length ≤ cap) (hN : ∀ (i : Nat) (r : ByteArray × PT), RL[i]? = some r → r.1.size ≤ maxLen) (hS : Shapes w) :
    Calls Tryd.prog 17 #[.slice (some ⟨b, o, none⟩) RL.length cap] w fun e w' => e = .returned (.int .i64 (rulesWrong RL)) ∧ Below w.heap.size w w' := by
  by_cases hl : 64 < RL.length
  · have hl' : (64 : Int) < (RL.length : Int) := by omega
    have HE := hide (show rulesWrong RL = 5 by unfold rulesWrong; rw [if_pos hl])
    clear h hN hS hl
    go_enter Tryd.func17, Tryd.ntmps17
    go_wp2_with fail
    go_ret
    exact ⟨(by rw [unhide HE]; rfl), Below.refl _ _⟩
  have hl' : ¬ (64 : Int) < (RL.length : Int) := by omega
  have HE := hide (show rulesWrong RL = firstTo (rwAt RL) RL.length by unfold rulesWrong; rw [if_neg hl])
  have HA := hide (And.intro h (And.intro hN hS))
  clear h hN hS
  go_enter Tryd.func17, Tryd.ntmps17
  go_wp2_with fail
  go_loopw [11] (fun i wr => ∃ k : Nat, k ≤ RL.length ∧ i = .int .i64 (k : Int) ∧ Below w.heap.size w wr ∧ Hid (firstTo (rwAt RL) k = 0)) (fun i _ => RL.length - (intOf i).toNat)
  case atStart => exact ⟨0, Nat.zero_le _, rfl, Below.refl _ _, rfl⟩
  case round =>
    obtain ⟨k, hk, rfl, hb, HK⟩ := hrel
    rcases Nat.lt_or_ge k RL.length with hlt | hge
    · have hlt' : (k : Int) < (RL.length : Int) := by omega
      obtain ⟨r, hr⟩ : ∃ r, RL[k]? = some r := ⟨_, List.getElem?_eq_getElem hlt⟩
      obtain ⟨q0, q1, q2, q3, q4, q5⟩ := ((unhide HA).1.later hb).cells k r hr
      unfold PT.kv at q5
      have hia := idx_run' (b := b) (o := o) (n := RL.length) (cap := cap) hlt
      have HB := hide hb
      have HD := hide (And.intro hr (show rwAt RL k = if named r.1 = false ∨ 0 ≤ ruleAt r.1 (RL.take k) 0 then 7 else r.2.wrong by unfold rwAt; rw [hr]))
      clear hb hr
      go_wp2_with fail
      obtain ⟨w5, hw5⟩ : ∃ w5, w5 = wr.alloc (.cells #[.string r.1, .int .i64 r.2.k, .string r.2.t, .int .i64 r.2.n, .string r.2.nm, .slice r.2.xa r.2.len r.2.cap] 66) := ⟨_, rfl⟩
      rw [← hw5]
      have hb5 : Below wr.heap.size wr w5 := by rw [hw5]; exact (Below.refl _ _).alloc (Nat.le_refl _) _
      have hbx : w5.heap[wr.heap.size]? = some (.cells #[.string r.1, .int .i64 r.2.k, .string r.2.t, .int .i64 r.2.n, .string r.2.nm, .slice r.2.xa r.2.len r.2.cap] 66 (0, 0)) := by rw [hw5]; exact at_new rfl
      clear hw5
      have HB5 := hide (bnext (unhide HB) hb5)
      have HX := hide hbx
      obtain ⟨z, hz⟩ : ∃ z, z = wr.heap.size := ⟨_, rfl⟩
      rw [← hz] at hbx HX ⊢
      have z0 : w5.cell? ⟨z, 0, none⟩ = some (.string r.1) := by rw [cell_of_row _ _ _ _ _ _ hbx]; rfl
      clear hz hbx hb5 q0 q1 q2 q3 q4 q5
      have HNm := hide (fun W => named_any r.1 W ((unhide HA).2.1 k r (unhide HD).1))
      have hkl : (RL.take k).length = k := by rw [List.length_take]; omega
      have HRn := hide (fun W (hb : Below w5.heap.size w5 W) => rule_any (nm := r.1) (cap := cap) (((unhide HA).1.later (bnext (unhide HB5) hb)).take k) (by omega))
      rw [hkl] at HRn
      clear hkl
      have hsl : ∀ W, (Instr.sliceAt 42 (.slice (some ⟨b, o, none⟩) RL.length cap) none (some (.int .i64 (k : Int))) none).run Tryd.prog W = .ok (.slice (some ⟨b, o, none⟩) k cap) W := slice_rules hk hc
      obtain ⟨nb, hnb⟩ : ∃ nb, nb = named r.1 := ⟨_, rfl⟩
      obtain ⟨ra, hra⟩ : ∃ ra, ra = ruleAt r.1 (RL.take k) 0 := ⟨_, rfl⟩
      rw [← hra] at HRn HD
      rw [← hnb] at HNm HD
      clear hnb hra
      cases nb with
      | false =>
        go_quiet (first | (go_at_call 25; exact Calls.quiet_of_same (unhide HNm _)))
        go_wp2_with fail
        go_ret
        exact ⟨(by rw [unhide HE, firstTo_stays (rwAt RL) (show k + 1 ≤ RL.length by omega) (by rw [firstTo, unhide HK, if_pos rfl, (unhide HD).2, if_pos (by simp)]; decide), firstTo, unhide HK, if_pos rfl, (unhide HD).2, if_pos (by simp)]; rfl), below_drewN (unhide HB5) _⟩
      | true =>
        have hkg : (0 : Int) ≤ (k : Int) := by omega
        have hkr : (k : Int) ≤ (RL.length : Int) := by omega
        by_cases h0 : 0 ≤ ra
        · have hd : decide (0 ≤ ra) = true := by simpa using h0
          go_region_held3 (fun w' => w'.cell? ⟨z, 0, none⟩ = some (.string r.1)) (go_keep) (first | (go_at_call 25; refine (unhide HNm _).mono ?_; rintro e w7 ⟨rfl, rfl⟩) | (go_at_call 26; refine (unhide HRn _ ((Below.refl _ _).drew)).mono ?_; rintro e w7 ⟨rfl, hb7⟩; have k0 := cell_later hb7 (show w5.drew.cell? ⟨z, 0, none⟩ = some (.string r.1) from z0); have H7 := hide hb7; clear hb7))
          go_wp2_with fail
          go_ret
          exact ⟨(by rw [unhide HE, firstTo_stays (rwAt RL) (show k + 1 ≤ RL.length by omega) (by rw [firstTo, unhide HK, if_pos rfl, (unhide HD).2, if_pos (.inr h0)]; decide), firstTo, unhide HK, if_pos rfl, (unhide HD).2, if_pos (.inr h0)]; rfl), bnext (unhide HB5).drew (unhide H7)⟩
        · have hd : decide (0 ≤ ra) = false := by simpa using h0
          go_region_held3 (fun w' => w'.cell? ⟨z, 0, none⟩ = some (.string r.1)) (go_keep) (first | (go_at_call 25; refine (unhide HNm _).mono ?_; rintro e w7 ⟨rfl, rfl⟩) | (go_at_call 26; refine (unhide HRn _ ((Below.refl _ _).drew)).mono ?_; rintro e w7 ⟨rfl, hb7⟩; have k0 := cell_later hb7 (show w5.drew.cell? ⟨z, 0, none⟩ = some (.string r.1) from z0); have H7 := hide hb7; clear hb7))
          have HW := hide (fun W (h : Below w5.heap.size w5 W) => wrong_any r.2 W (PT.In.later (bnext (unhide HB5) h) ((unhide HA).1.pats k r (unhide HD).1)) ((unhide HA).2.2.later (bnext (unhide HB5) h)))
          have hbx := row_below (unhide HX) (bnext ((Below.refl w5.heap.size w5).drew) (unhide H7))
          have z1 : w7.cell? ⟨z, 1, none⟩ = some (.int .i64 r.2.k) := by rw [cell_of_row _ _ _ _ _ _ hbx]; rfl
          have z2 : w7.cell? ⟨z, 2, none⟩ = some (.string r.2.t) := by rw [cell_of_row _ _ _ _ _ _ hbx]; rfl
          have z3 : w7.cell? ⟨z, 3, none⟩ = some (.int .i64 r.2.n) := by rw [cell_of_row _ _ _ _ _ _ hbx]; rfl
          have z4 : w7.cell? ⟨z, 4, none⟩ = some (.string r.2.nm) := by rw [cell_of_row _ _ _ _ _ _ hbx]; rfl
          have z5 : w7.cell? ⟨z, 5, none⟩ = some (.slice r.2.xa r.2.len r.2.cap) := by rw [cell_of_row _ _ _ _ _ _ hbx]; rfl
          obtain ⟨p, hp⟩ : ∃ p, p = r.2.wrong := ⟨_, rfl⟩
          have HF := hide (show firstTo (rwAt RL) (k + 1) = p by rw [firstTo, unhide HK, if_pos rfl, (unhide HD).2, if_neg (by simp; omega), hp])
          rw [← hp] at HW
          unfold pv at HW
          clear hbx hp HRn HNm hsl k0
          go_wp2_with fail
          refine (unhide HW w7 (bnext ((Below.refl w5.heap.size w5).drew) (unhide H7))).mono ?_
          rintro e w8 ⟨rfl, hb8⟩
          have H8 := hide (bnext (bnext (unhide HB5).drew (unhide H7)) hb8)
          clear hb8 z1 z2 z3 z4 z5 HW
          by_cases p0 : p = 0
          · subst p0
            go_wp2_with fail
            exact ⟨⟨k + 1, by omega, by simp, unhide H8, hide (unhide HF)⟩, by simp [intOf]; omega⟩
          · have h3 : (p != 0) = true := by rw [bne_iff_ne]; exact p0
            have HG := hide (show rulesWrong RL = p by rw [unhide HE, firstTo_stays (rwAt RL) (show k + 1 ≤ RL.length by omega) (by rw [unhide HF]; exact p0), unhide HF])
            clear p0
            go_wp2_with fail
            go_ret
            exact ⟨(by rw [unhide HG]; rfl), unhide H8⟩
    · have hge' : ¬ (k : Int) < (RL.length : Int) := by omega
      have hkk : k = RL.length := by omega
      subst hkk
      go_wp2_with fail
      go_ret
      exact ⟨(by rw [unhide HE, unhide HK]; rfl), hb⟩
end Go.Proofs.YtkggmodabpjobaaDoor

namespace Go.Proofs.YtkggmodabpjobaaDoor
open Go.RowKit

theorem named_size {s : ByteArray} (h : named s = true) : s.size ≤ 16 := by
  unfold named at h
  rw [Bool.and_eq_true, decide_eq_true_eq] at h
  exact h.1
theorem errN_ok {T : PT} (h : errN T = 0) : okS T.k T.t T.n T.len ∧ T.k ≠ 0 ∧ ((21 ≤ T.k ∧ T.k ≤ 24) → T.nm.size ≤ 1000000) := by
  unfold errN at h
  split at h
  · exact absurd h (by decide)
  split at h
  · exact absurd h (by decide)
  split at h
  · exact absurd h (by decide)
  split at h
  · exact absurd h (by decide)
  split at h
  · exact absurd h (by decide)
  split at h
  · exact absurd h (by decide)
  rename_i h1 h2 h3 h4 h5 h6
  have hk : 1 ≤ T.k ∧ T.k ≤ 24 := by omega
  refine ⟨⟨hk, fun q => ?_, fun q => ?_, fun q => ?_, fun q => ?_⟩, by omega, fun q => ?_⟩
  · have : hasK T.k = 1 := by unfold hasK; rw [if_pos q]
    have := fun z => h2 ⟨this, z⟩
    omega
  · have : hasK T.k = 2 := by unfold hasK; rw [if_neg (by omega), if_pos q]
    have := fun z => h4 ⟨this, z⟩
    omega
  · have : leastK T.k = 2 := by unfold leastK; rw [if_pos q]
    omega
  · have e1 : leastK T.k = 1 := by unfold leastK; rw [if_neg (by omega), if_pos (by omega)]
    have e2 : mostK T.k = 1 := by unfold mostK; rw [if_neg (by omega), if_pos (by omega)]
    omega
  · have : hasK T.k = 3 := by unfold hasK; rw [if_neg (by omega), if_neg (by omega), if_pos q]
    have hn : named T.nm = true := by
      cases z : named T.nm with
      | true => rfl
      | false => exact absurd ⟨this, z⟩ h5
    have := named_size hn
    omega
theorem firstTo_zero {f : Nat → Int} : ∀ {n : Nat}, firstTo f n = 0 → ∀ i, i < n → f i = 0
  | 0, _, i, hi => by omega
  | n + 1, h, i, hi => by
    rw [firstTo] at h
    split at h
    · rename_i h0
      rcases Nat.lt_or_ge i n with q | q
      · exact firstTo_zero h0 i q
      · rw [show i = n by omega]; exact h
    · contradiction
theorem fine_of : ∀ T : PT, T.bad = 0 → FineS T ∧ NZ T := PT.ind fun T ih h => by
  rw [T.bad_eq] at h
  split at h
  · rename_i h0
    obtain ⟨h1, h2⟩ := errN_ok h0
    have hk := fun i hi => ih i hi (firstTo_zero h i hi)
    obtain ⟨k, t, n, nm, xa, b, o, len, cap, kids⟩ := T
    exact ⟨⟨h1, fun j => by have := (hk j.1 j.2).1; rwa [PT.kid_at (T := .node k t n nm xa b o len cap kids) j.2] at this⟩, ⟨h2, fun j => by have := (hk j.1 j.2).2; rwa [PT.kid_at (T := .node k t n nm xa b o len cap kids) j.2] at this⟩⟩
  · contradiction
theorem right_of {T : PT} (h : T.wrong = 0) : FineS T ∧ NZ T ∧ T.cnt ≤ 4096 := by
  unfold PT.wrong at h
  split at h
  · rename_i q
    unfold PT.fits at q
    rw [Bool.and_eq_true, decide_eq_true_eq] at q
    exact ⟨(fine_of T h).1, (fine_of T h).2, q.1⟩
  · exact absurd h (by decide)
theorem rules_right {RL : List (ByteArray × PT)} (h : rulesWrong RL = 0) : RL.length ≤ 64 ∧ ∀ (i : Nat) (r : ByteArray × PT), RL[i]? = some r → named r.1 = true ∧ ruleAt r.1 (RL.take i) 0 < 0 ∧ r.2.wrong = 0 := by
  unfold rulesWrong at h
  split at h
  · exact absurd h (by decide)
  · refine ⟨by omega, fun i r hr => ?_⟩
    have hi : i < RL.length := (List.getElem?_eq_some_iff.1 hr).1
    have := firstTo_zero h i hi
    unfold rwAt at this
    rw [hr] at this
    simp only at this
    split at this
    · exact absurd this (by decide)
    · rename_i q
      refine ⟨?_, ?_, this⟩
      · cases z : named r.1 with
        | true => rfl
        | false => exact absurd (.inl z) q
      · have := fun z => q (.inr z)
        omega
end Go.Proofs.YtkggmodabpjobaaDoor
