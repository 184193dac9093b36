/- What pats.wrongBelow and Wrong do, for every pattern. Which rule has a name. What is wrong with rules; rules as a value. What is right: patterns and rules of which nothing is told. What lay does with any pattern; which rule has a name, where there are none. The machine as it is made where there are rules; a root is stored. -/
import Derived.Test.YtbmngbpillihaaaDoorPatWrongP
import Derived.Test.YtbmngbpillihaaaDoorScanFillGP
import Derived.Test.YtbmngbpillihaaaDoorScanHasM
import Derived.Deep.RegionHeld3
import Derived.Deep.QuietTactic
import Derived.BigQuiet
import Derived.Test.YtbmngbpillihaaaDoorSimpQuickM
import Derived.Test.YtbmngbpillihaaaDoorClone4M
import Derived.Deep.RegionWith
import Derived.Deep.OwnRows
namespace Go.Proofs.YtbmngbpillihaaaDoor
open Go.RowKit

def BadSays (T : PT) : Prop := ∀ (w : World), T.In w → Shapes w →
  Calls Tryd.prog 38 #[.agg #[.int .i64 T.k, .string T.t, .int .i64 T.n, .string T.nm, .slice T.xa T.len T.cap]] w fun e w' => e = .returned (.int .i64 T.bad) ∧ Below w.heap.size w w'
theorem firstTo_stays (f : Nat → Int) {i n : Nat} (h : i ≤ n) (hf : firstTo f i ≠ 0) : firstTo f n = firstTo f i := by
  induction n with
  | zero => congr 1; omega
  | succ n ih =>
    rcases Nat.lt_or_ge i (n + 1) with h1 | h1
    · rw [firstTo, ih (by omega), if_neg hf]
    · congr 1; omega
set_option maxRecDepth 100000 in
set_option maxHeartbeats 1000000 in
theorem bad_step (T : PT) (ih : ∀ i, i < T.len → BadSays (T.kid i)) : BadSays T := by
  intro w hT hS
  have HN := hide (fun W (h : Below w.heap.size w W) => node_any T W (PT.In.later h hT) (hS.later h))
  unfold pv at HN
  have hmax := hT.max
  unfold maxLen at hmax
  have HD := hide (And.intro hT (And.intro hS (And.intro ih T.bad_eq)))
  clear hT hS ih
  have hk0 := (Below.refl w.heap.size w).alloc (Nat.le_refl _) (.cells #[.int .i64 T.k, .string T.t, .int .i64 T.n, .string T.nm, .slice T.xa T.len T.cap] 24)
  go_enter Tryd.func38, Tryd.ntmps38
  go_wp2_with fail
  refine (unhide HN _ hk0).mono ?_
  rintro e w1 ⟨rfl, hb1⟩
  have hb := bnext hk0 hb1
  have c4 : w1.cell? ⟨w.heap.size, 4, none⟩ = some (.slice T.xa T.len T.cap) := cell_later hb1 (by rw [cell_of_row _ _ _ _ _ _ (at_new rfl)]; rfl)
  have HB := hide hb
  clear hk0 hb1 hb HN
  by_cases he : errN T = 0
  · have H0 := hide (show T.bad = firstTo (fun i => (T.kid i).bad) T.len by rw [(unhide HD).2.2.2, if_pos he])
    rw [he]
    clear he
    go_wp2_with fail
    go_loopw [15] (fun i wr => ∃ k : Nat, k ≤ T.len ∧ i = .int .i64 (k : Int) ∧ Below w.heap.size w wr ∧ firstTo (fun i => (T.kid i).bad) k = 0) (fun i _ => T.len - (intOf i).toNat)
    case atStart => exact ⟨0, by omega, rfl, unhide HB, rfl⟩
    case round =>
      obtain ⟨k, hk, rfl, hbr, hf⟩ := hrel
      clear c4
      have HF := hide hf
      clear hf
      rcases Nat.lt_or_ge k T.len with hkt | hkt
      · obtain ⟨hT, hS, ih, -⟩ := unhide HD
        obtain ⟨k0, k1, k2, k3, k4⟩ := hT.cells hkt
        have k0 := cell_later hbr k0
        have k1 := cell_later hbr k1
        have k2 := cell_later hbr k2
        have k3 := cell_later hbr k3
        have k4 := cell_later hbr k4
        unfold PT.kv at k4
        have hia := kid_at hT hkt
        have HX := hide (And.intro (PT.In.later hbr (hT.kids hkt)) (hS.later hbr))
        have HI := hide (ih k hkt)
        have HBR := hide hbr
        clear hT hS ih hbr
        go_wp2_with fail
        have hn := (Below.refl wr.heap.size wr).alloc (Nat.le_refl _) (.cells #[.int .i64 (T.kid k).k, .string (T.kid k).t, .int .i64 (T.kid k).n, .string (T.kid k).nm, .slice (T.kid k).xa (T.kid k).len (T.kid k).cap] 24)
        refine (unhide HI _ (PT.In.later hn (unhide HX).1) ((unhide HX).2.later hn)).mono ?_
        rintro e w2 ⟨rfl, hb2⟩
        have HB2 := hide (bnext (bnext (unhide HBR) hn) hb2)
        clear hn hb2
        by_cases he : (T.kid k).bad = 0
        · have HW := hide (show firstTo (fun i => (T.kid i).bad) (k + 1) = 0 by rw [firstTo, if_pos (unhide HF)]; exact he)
          rw [he]
          clear he
          go_wp2_with fail
          exact ⟨⟨k + 1, by omega, by go_num, unhide HB2, unhide HW⟩, by simp [intOf]; omega⟩
        · have HW := hide (show T.bad = (T.kid k).bad by
            have h1 : firstTo (fun i => (T.kid i).bad) (k + 1) = (T.kid k).bad := by rw [firstTo, if_pos (unhide HF)]
            rw [unhide H0, firstTo_stays _ (show k + 1 ≤ T.len from hkt) (by rw [h1]; exact he), h1])
          have hne : ((T.kid k).bad != 0) = true := by rw [bne_iff_ne]; exact he
          clear he
          go_wp2_with fail
          go_ret
          exact ⟨by rw [unhide HW]; rfl, unhide HB2⟩
      · have hk' : k = T.len := by omega
        have HBR := hide hbr
        clear hbr
        go_wp2_with fail
        go_ret
        exact ⟨by rw [unhide H0, ← hk', unhide HF]; rfl, unhide HBR⟩
  · have H0 := hide (show T.bad = errN T by rw [(unhide HD).2.2.2, if_neg he])
    have hne : (errN T != 0) = true := by rw [bne_iff_ne]; exact he
    clear he
    go_wp2_with fail
    go_ret
    exact ⟨by rw [unhide H0]; rfl, unhide HB⟩
theorem bad_any : ∀ T : PT, BadSays T := PT.ind bad_step
set_option maxRecDepth 100000 in
set_option maxHeartbeats 1000000 in
theorem wrong_any (T : PT) (w : World) (hT : T.In w) (hS : Shapes w) :
    Calls Tryd.prog 19 #[pv T] w fun e w' => e = .returned (.int .i64 T.wrong) ∧ Below w.heap.size w w' := by
  have HZ := hide (fun W (h : Below w.heap.size w W) => size_any T W (PT.In.later h hT))
  have HB := hide (fun W (h : Below w.heap.size w W) => bad_any T W (PT.In.later h hT) (hS.later h))
  clear hT hS
  unfold pv at HZ
  unfold pv
  have hk0 := (Below.refl w.heap.size w).alloc (Nat.le_refl _) (.cells #[.int .i64 T.k, .string T.t, .int .i64 T.n, .string T.nm, .slice T.xa T.len T.cap] 24)
  go_enter Tryd.func19, Tryd.ntmps19
  go_wp2_with fail
  refine (unhide HZ _ hk0).mono ?_
  rintro e w1 ⟨rfl, hb1⟩
  have H1 := hide (bnext hk0 hb1)
  have hrow : w1.heap[w.heap.size]? = some (.cells #[.int .i64 T.k, .string T.t, .int .i64 T.n, .string T.nm, .slice T.xa T.len T.cap] 24 (0, 0)) := row_below (at_new rfl) hb1
  have c0 : w1.cell? ⟨w.heap.size, 0, none⟩ = some (.int .i64 T.k) := by rw [cell_of_row _ _ _ _ _ _ hrow]; rfl
  have c1 : w1.cell? ⟨w.heap.size, 1, none⟩ = some (.string T.t) := by rw [cell_of_row _ _ _ _ _ _ hrow]; rfl
  have c2 : w1.cell? ⟨w.heap.size, 2, none⟩ = some (.int .i64 T.n) := by rw [cell_of_row _ _ _ _ _ _ hrow]; rfl
  have c3 : w1.cell? ⟨w.heap.size, 3, none⟩ = some (.string T.nm) := by rw [cell_of_row _ _ _ _ _ _ hrow]; rfl
  have c4 : w1.cell? ⟨w.heap.size, 4, none⟩ = some (.slice T.xa T.len T.cap) := by rw [cell_of_row _ _ _ _ _ _ hrow]; rfl
  clear hk0 hb1 hrow HZ
  unfold sizeSaid
  cases hf : T.fits
  · have HW := hide (show T.wrong = 4 by unfold PT.wrong; rw [hf]; rfl)
    clear hf
    go_wp2_with fail
    go_ret
    exact ⟨by rw [unhide HW]; rfl, unhide H1⟩
  · have HW := hide (show T.wrong = T.bad by unfold PT.wrong; rw [hf]; rfl)
    clear hf
    go_wp2_with fail
    refine (unhide HB _ (unhide H1)).mono ?_
    rintro e w2 ⟨rfl, hb2⟩
    have H2 := hide (bnext (unhide H1) hb2)
    clear hb2
    go_wp2_with fail
    go_ret
    exact ⟨by rw [unhide HW]; rfl, unhide H2⟩
end Go.Proofs.YtbmngbpillihaaaDoor

namespace Go.Proofs.YtbmngbpillihaaaDoor
open Go.RowKit

structure RulesAt (w : World) (b o : Nat) (RL : List (ByteArray × PT)) : Prop where
  cells : ∀ (i : Nat) (r : ByteArray × PT), RL[i]? = some r → w.cell? ⟨b, o + i * 6, none⟩ = some (.string r.1) ∧ w.cell? ⟨b, o + i * 6 + 1, none⟩ = some (.int .i64 r.2.k) ∧ w.cell? ⟨b, o + i * 6 + 2, none⟩ = some (.string r.2.t) ∧ w.cell? ⟨b, o + i * 6 + 3, none⟩ = some (.int .i64 r.2.n) ∧ w.cell? ⟨b, o + i * 6 + 4, none⟩ = some (.string r.2.nm) ∧ w.cell? ⟨b, o + i * 6 + 5, none⟩ = some r.2.kv
  pats : ∀ (i : Nat) (r : ByteArray × PT), RL[i]? = some r → r.2.In w
theorem RulesAt.later {w w' : World} {b o : Nat} {RL : List (ByteArray × PT)} (h : RulesAt w b o RL) (hb : Below w.heap.size w w') : RulesAt w' b o RL :=
  ⟨fun i r hr => by
    obtain ⟨h0, h1, h2, h3, h4, h5⟩ := h.cells i r hr
    exact ⟨cell_later hb h0, cell_later hb h1, cell_later hb h2, cell_later hb h3, cell_later hb h4, cell_later hb h5⟩, fun i r hr => PT.In.later hb (h.pats i r hr)⟩
def ruleAt (nm : ByteArray) : List (ByteArray × PT) → Nat → Int
  | [], _ => -1
  | r :: l, i => if r.1 = nm then (i : Int) else ruleAt nm l (i + 1)
theorem ruleAt_drop (nm : ByteArray) {RL : List (ByteArray × PT)} {k : Nat} {r : ByteArray × PT} (h : RL[k]? = some r) : ruleAt nm (RL.drop k) k = if r.1 = nm then (k : Int) else ruleAt nm (RL.drop (k + 1)) (k + 1) := by
  obtain ⟨hk, hr⟩ := List.getElem?_eq_some_iff.1 h
  rw [List.drop_eq_getElem_cons hk, ruleAt, hr]
theorem size_rule : (Tryd.prog.info? 117).map (·.size) = some 6 := by kernel_rfl
theorem idx_run' {b o n cap i : Nat} (hi : i < n) (w : World) :
    (Instr.indexAt 37 (.slice (some ⟨b, o, none⟩) n cap) (.int .i64 (i : Int))).run Tryd.prog w = .ok (.pointer (some ⟨b, o + i * 6, none⟩)) w := by
  have h0 : (0 : Int) ≤ (i : Int) ∧ (i : Int) < (n : Int) := by omega
  cases hq : Tryd.prog.info? 117 with
  | none => have := size_rule; simp [hq] at this
  | some x =>
    have hz : x.size = 6 := by have := size_rule; simpa [hq] using this
    simp [Instr.indexAt, asIntOf, run_underlying Tryd.underlying37, h0, sizeOf, typeInfo, hq, hz, Addr.add_lit]
    intro h
    omega
set_option maxRecDepth 100000 in
set_option maxHeartbeats 1000000 in
theorem clo_any (nm a : ByteArray) (k n : Int) (t m : ByteArray) (x : Option Addr) (l c nb : Nat) (w : World) (hn : nb < w.heap.size) (h : w.cell? ⟨nb, 0, none⟩ = some (.string nm)) : Calls Tryd.prog 111 #[.agg #[.string a, .int .i64 k, .string t, .int .i64 n, .string m, .slice x l c], .pointer (some ⟨nb, 0, none⟩)] w fun e w' => e = .returned (.bool (decide (a = nm))) ∧ Below w.heap.size w w' := by
  have hz : ¬ nb = w.heap.size := by omega
  have hz' : ¬ w.heap.size = nb := by omega
  go_enter Tryd.func111, Tryd.ntmps111
  go_wp2_with fail
  go_ret
  exact ⟨(by rw [← toList_beq]; rfl), (Below.refl _ _).alloc (Nat.le_refl _) _⟩
set_option maxRecDepth 100000 in
set_option maxHeartbeats 1000000 in
theorem index_rules {w : World} {b o cap nb : Nat} {RL : List (ByteArray × PT)} {nm : ByteArray} (h : RulesAt w b o RL) (hl : RL.length ≤ 1000000) (hn : nb < w.heap.size) (hnb : w.cell? ⟨nb, 0, none⟩ = some (.string nm)) :
    Calls Tryd.prog 110 #[.slice (some ⟨b, o, none⟩) RL.length cap, .func (.func 111) #[] #[.pointer (some ⟨nb, 0, none⟩)]] w fun e w' => e = .returned (.int .i64 (ruleAt nm RL 0)) ∧ Below w.heap.size w w' := by
  have HA := hide h
  have HN := hide (And.intro hn hnb)
  clear h hn hnb
  go_enter Tryd.func110, Tryd.ntmps110
  go_wp2_with fail
  go_loopw [8] (fun i wr => ∃ k : Nat, k ≤ RL.length ∧ i = .int .i64 (k : Int) ∧ Below w.heap.size w wr ∧ Hid (ruleAt nm RL 0 = ruleAt nm (RL.drop k) k)) (fun i _ => RL.length - (intOf i).toNat)
  case atStart => exact ⟨0, Nat.zero_le _, rfl, Below.refl _ _, rfl⟩
  case round =>
    obtain ⟨k, hk, rfl, hb, HK⟩ := hrel
    rcases Nat.lt_or_ge k RL.length with hlt | hge
    · have hlt' : (k : Int) < (RL.length : Int) := by omega
      obtain ⟨r, hr⟩ : ∃ r, RL[k]? = some r := ⟨_, List.getElem?_eq_getElem hlt⟩
      obtain ⟨q0, q1, q2, q3, q4, q5⟩ := ((unhide HA).later hb).cells k r hr
      unfold PT.kv at q5
      have hia := idx_run' (b := b) (o := o) (n := RL.length) (cap := cap) hlt
      have HC := hide (clo_any nm r.1 r.2.k r.2.n r.2.t r.2.nm r.2.xa r.2.len r.2.cap nb wr (Nat.lt_of_lt_of_le (unhide HN).1 hb.size) (cell_later hb (unhide HN).2))
      have HB := hide hb
      have HD := hide (ruleAt_drop nm hr)
      clear hb hr
      go_wp2_with fail
      refine (unhide HC).mono ?_
      rintro e w1 ⟨rfl, hb1⟩
      have HB1 := hide hb1
      clear hb1
      by_cases hq : r.1 = nm
      · have hd : decide (r.1 = nm) = true := by simpa using hq
        have HD' := hide (show ruleAt nm RL 0 = (k : Int) by rw [unhide HK, unhide HD, if_pos hq])
        clear HK HD
        simp only [hd]
        go_wp2_with fail
        go_ret
        exact ⟨(by rw [unhide HD']; rfl), (unhide HB).trans ((unhide HB1).mono (unhide HB).size)⟩
      · have hd : decide (r.1 = nm) = false := by simpa using hq
        have HD' := hide (show ruleAt nm RL 0 = ruleAt nm (RL.drop (k + 1)) (k + 1) by rw [unhide HK, unhide HD, if_neg hq])
        clear HK HD
        simp only [hd]
        go_wp2_with fail
        exact ⟨⟨k + 1, hlt, by simp, (unhide HB).trans ((unhide HB1).mono (unhide HB).size), HD'⟩, by simp [intOf]; omega⟩
    · have hge' : ¬ (k : Int) < (RL.length : Int) := by omega
      have HD := hide (show ruleAt nm RL 0 = -1 by rw [unhide HK, List.drop_eq_nil_of_le hge]; rfl)
      clear HK
      go_wp2_with fail
      go_ret
      exact ⟨(by rw [unhide HD]; rfl), hb⟩
set_option maxRecDepth 100000 in
set_option maxHeartbeats 1000000 in
theorem rule_any {w : World} {b o cap : Nat} {RL : List (ByteArray × PT)} {nm : ByteArray} (h : RulesAt w b o RL) (hl : RL.length ≤ 1000000) : Calls Tryd.prog 91 #[.slice (some ⟨b, o, none⟩) RL.length cap, .string nm] w fun e w' => e = .returned (.int .i64 (ruleAt nm RL 0)) ∧ Below w.heap.size w w' := by
  have HI := hide h
  clear h
  go_enter Tryd.func91, Tryd.ntmps91
  go_wp2_with fail
  have hba : Below w.heap.size w (w.alloc (Obj.cells #[Value.string nm] 9)) := (Below.refl _ _).alloc (Nat.le_refl _) _
  refine (index_rules (nm := nm) ((unhide HI).later hba) hl (by simp) (by simp)).mono ?_
  rintro e w1 ⟨rfl, hb1⟩
  go_wp2_with fail
  go_ret
  exact ⟨rfl, hba.trans (hb1.mono (by simp))⟩
theorem rn_rules {Wd : World} {b o cap : Nat} {RL : List (ByteArray × PT)} (h : RulesAt Wd b o RL) (hl : RL.length ≤ 1000000) : RN (fun nm => ruleAt nm RL 0) (.slice (some ⟨b, o, none⟩) RL.length cap) Wd := fun _ hb _ _ => rule_any (h.later hb) hl
end Go.Proofs.YtbmngbpillihaaaDoor

namespace Go.Proofs.YtbmngbpillihaaaDoor
open Go.RowKit

def rwAt (RL : List (ByteArray × PT)) (k : Nat) : Int := match RL[k]? with
  | none => 0
  | some r => if named r.1 = false ∨ 0 ≤ ruleAt r.1 (RL.take k) 0 then 7 else r.2.wrong
def rulesWrong (RL : List (ByteArray × PT)) : Int := if 64 < RL.length then 5 else firstTo (rwAt RL) RL.length
theorem RulesAt.take {w : World} {b o : Nat} {RL : List (ByteArray × PT)} (h : RulesAt w b o RL) (k : Nat) : RulesAt w b o (RL.take k) :=
  ⟨fun i r hr => h.cells i r (by rw [List.getElem?_take] at hr; split at hr; exact hr; cases hr), fun i r hr => h.pats i r (by rw [List.getElem?_take] at hr; split at hr; exact hr; cases hr)⟩
theorem slice_rules {b o n cap k : Nat} (hk : k ≤ n) (hc : n ≤ cap) (w : World) :
    (Instr.sliceAt 37 (.slice (some ⟨b, o, none⟩) n cap) none (some (.int .i64 (k : Int))) none).run Tryd.prog w = .ok (.slice (some ⟨b, o, none⟩) k cap) w := by
  have hs := size_rule
  cases hq : Tryd.prog.info? 117 with
  | none => simp [hq] at hs
  | some i =>
    have hz : i.size = 6 := by simpa [hq] using hs
    have he : Tryd.prog.underlying 37 = some (.slice (Tryd.prog.elem 37)) := by kernel_rfl
    have he2 : Tryd.prog.elem 37 = 117 := by kernel_rfl
    rw [run_sliceAt_slice _ _ _ _ _ _ he, run_slice_h _ _ _ _ _ he .i64 (k : Int) (by omega) (by omega), he2]
    by_cases h1 : cap = 0
    · simp [sizeOf, typeInfo, sliced, hq, hz, h1]
    · simp [sizeOf, typeInfo, sliced, hq, hz, h1, Addr.add_lit]
set_option maxRecDepth 100000 in
set_option maxHeartbeats 1000000 in
theorem rules_any {w : World} {b o cap : Nat} {RL : List (ByteArray × PT)} (h : RulesAt w b o RL) (hc : RL.length ≤ cap) (hN : ∀ (i : Nat) (r : ByteArray × PT), RL[i]? = some r → r.1.size ≤ maxLen) (hS : Shapes w) :
    Calls Tryd.prog 65 #[.slice (some ⟨b, o, none⟩) RL.length cap] w fun e w' => e = .returned (.int .i64 (rulesWrong RL)) ∧ Below w.heap.size w w' := by
  by_cases hl : 64 < RL.length
  · have hl' : (64 : Int) < (RL.length : Int) := by omega
    have HE := hide (show rulesWrong RL = 5 by unfold rulesWrong; rw [if_pos hl])
    clear h hN hS hl
    go_enter Tryd.func65, Tryd.ntmps65
    go_wp2_with fail
    go_ret
    exact ⟨(by rw [unhide HE]; rfl), Below.refl _ _⟩
  have hl' : ¬ (64 : Int) < (RL.length : Int) := by omega
  have HE := hide (show rulesWrong RL = firstTo (rwAt RL) RL.length by unfold rulesWrong; rw [if_neg hl])
  have HA := hide (And.intro h (And.intro hN hS))
  clear h hN hS
  go_enter Tryd.func65, Tryd.ntmps65
  go_wp2_with fail
  go_loopw [11] (fun i wr => ∃ k : Nat, k ≤ RL.length ∧ i = .int .i64 (k : Int) ∧ Below w.heap.size w wr ∧ Hid (firstTo (rwAt RL) k = 0)) (fun i _ => RL.length - (intOf i).toNat)
  case atStart => exact ⟨0, Nat.zero_le _, rfl, Below.refl _ _, rfl⟩
  case round =>
    obtain ⟨k, hk, rfl, hb, HK⟩ := hrel
    rcases Nat.lt_or_ge k RL.length with hlt | hge
    · have hlt' : (k : Int) < (RL.length : Int) := by omega
      obtain ⟨r, hr⟩ : ∃ r, RL[k]? = some r := ⟨_, List.getElem?_eq_getElem hlt⟩
      obtain ⟨q0, q1, q2, q3, q4, q5⟩ := ((unhide HA).1.later hb).cells k r hr
      unfold PT.kv at q5
      have hia := idx_run' (b := b) (o := o) (n := RL.length) (cap := cap) hlt
      have HB := hide hb
      have HD := hide (And.intro hr (show rwAt RL k = if named r.1 = false ∨ 0 ≤ ruleAt r.1 (RL.take k) 0 then 7 else r.2.wrong by unfold rwAt; rw [hr]))
      clear hb hr
      go_wp2_with fail
      obtain ⟨w5, hw5⟩ : ∃ w5, w5 = wr.alloc (.cells #[.string r.1, .int .i64 r.2.k, .string r.2.t, .int .i64 r.2.n, .string r.2.nm, .slice r.2.xa r.2.len r.2.cap] 117) := ⟨_, rfl⟩
      rw [← hw5]
      have hb5 : Below wr.heap.size wr w5 := by rw [hw5]; exact (Below.refl _ _).alloc (Nat.le_refl _) _
      have hbx : w5.heap[wr.heap.size]? = some (.cells #[.string r.1, .int .i64 r.2.k, .string r.2.t, .int .i64 r.2.n, .string r.2.nm, .slice r.2.xa r.2.len r.2.cap] 117 (0, 0)) := by rw [hw5]; exact at_new rfl
      clear hw5
      have HB5 := hide (bnext (unhide HB) hb5)
      have HX := hide hbx
      obtain ⟨z, hz⟩ : ∃ z, z = wr.heap.size := ⟨_, rfl⟩
      rw [← hz] at hbx HX ⊢
      have z0 : w5.cell? ⟨z, 0, none⟩ = some (.string r.1) := by rw [cell_of_row _ _ _ _ _ _ hbx]; rfl
      clear hz hbx hb5 q0 q1 q2 q3 q4 q5
      have HNm := hide (fun W => named_any r.1 W ((unhide HA).2.1 k r (unhide HD).1))
      have hkl : (RL.take k).length = k := by rw [List.length_take]; omega
      have HRn := hide (fun W (hb : Below w5.heap.size w5 W) => rule_any (nm := r.1) (cap := cap) (((unhide HA).1.later (bnext (unhide HB5) hb)).take k) (by omega))
      rw [hkl] at HRn
      clear hkl
      have hsl : ∀ W, (Instr.sliceAt 37 (.slice (some ⟨b, o, none⟩) RL.length cap) none (some (.int .i64 (k : Int))) none).run Tryd.prog W = .ok (.slice (some ⟨b, o, none⟩) k cap) W := slice_rules hk hc
      obtain ⟨nb, hnb⟩ : ∃ nb, nb = named r.1 := ⟨_, rfl⟩
      obtain ⟨ra, hra⟩ : ∃ ra, ra = ruleAt r.1 (RL.take k) 0 := ⟨_, rfl⟩
      rw [← hra] at HRn HD
      rw [← hnb] at HNm HD
      clear hnb hra
      cases nb with
      | false =>
        go_quiet (first | (go_at_call 90; exact Calls.quiet_of_same (unhide HNm _)))
        go_wp2_with fail
        go_ret
        exact ⟨(by rw [unhide HE, firstTo_stays (rwAt RL) (show k + 1 ≤ RL.length by omega) (by rw [firstTo, unhide HK, if_pos rfl, (unhide HD).2, if_pos (by simp)]; decide), firstTo, unhide HK, if_pos rfl, (unhide HD).2, if_pos (by simp)]; rfl), below_drewN (unhide HB5) _⟩
      | true =>
        have hkg : (0 : Int) ≤ (k : Int) := by omega
        have hkr : (k : Int) ≤ (RL.length : Int) := by omega
        by_cases h0 : 0 ≤ ra
        · have hd : decide (0 ≤ ra) = true := by simpa using h0
          go_region_held3 (fun w' => w'.cell? ⟨z, 0, none⟩ = some (.string r.1)) (go_keep) (first | (go_at_call 90; refine (unhide HNm _).mono ?_; rintro e w7 ⟨rfl, rfl⟩) | (go_at_call 91; refine (unhide HRn _ ((Below.refl _ _).drew)).mono ?_; rintro e w7 ⟨rfl, hb7⟩; have k0 := cell_later hb7 (show w5.drew.cell? ⟨z, 0, none⟩ = some (.string r.1) from z0); have H7 := hide hb7; clear hb7))
          go_wp2_with fail
          go_ret
          exact ⟨(by rw [unhide HE, firstTo_stays (rwAt RL) (show k + 1 ≤ RL.length by omega) (by rw [firstTo, unhide HK, if_pos rfl, (unhide HD).2, if_pos (.inr h0)]; decide), firstTo, unhide HK, if_pos rfl, (unhide HD).2, if_pos (.inr h0)]; rfl), bnext (unhide HB5).drew (unhide H7)⟩
        · have hd : decide (0 ≤ ra) = false := by simpa using h0
          go_region_held3 (fun w' => w'.cell? ⟨z, 0, none⟩ = some (.string r.1)) (go_keep) (first | (go_at_call 90; refine (unhide HNm _).mono ?_; rintro e w7 ⟨rfl, rfl⟩) | (go_at_call 91; refine (unhide HRn _ ((Below.refl _ _).drew)).mono ?_; rintro e w7 ⟨rfl, hb7⟩; have k0 := cell_later hb7 (show w5.drew.cell? ⟨z, 0, none⟩ = some (.string r.1) from z0); have H7 := hide hb7; clear hb7))
          have HW := hide (fun W (h : Below w5.heap.size w5 W) => wrong_any r.2 W (PT.In.later (bnext (unhide HB5) h) ((unhide HA).1.pats k r (unhide HD).1)) ((unhide HA).2.2.later (bnext (unhide HB5) h)))
          have hbx := row_below (unhide HX) (bnext ((Below.refl w5.heap.size w5).drew) (unhide H7))
          have z1 : w7.cell? ⟨z, 1, none⟩ = some (.int .i64 r.2.k) := by rw [cell_of_row _ _ _ _ _ _ hbx]; rfl
          have z2 : w7.cell? ⟨z, 2, none⟩ = some (.string r.2.t) := by rw [cell_of_row _ _ _ _ _ _ hbx]; rfl
          have z3 : w7.cell? ⟨z, 3, none⟩ = some (.int .i64 r.2.n) := by rw [cell_of_row _ _ _ _ _ _ hbx]; rfl
          have z4 : w7.cell? ⟨z, 4, none⟩ = some (.string r.2.nm) := by rw [cell_of_row _ _ _ _ _ _ hbx]; rfl
          have z5 : w7.cell? ⟨z, 5, none⟩ = some (.slice r.2.xa r.2.len r.2.cap) := by rw [cell_of_row _ _ _ _ _ _ hbx]; rfl
          obtain ⟨p, hp⟩ : ∃ p, p = r.2.wrong := ⟨_, rfl⟩
          have HF := hide (show firstTo (rwAt RL) (k + 1) = p by rw [firstTo, unhide HK, if_pos rfl, (unhide HD).2, if_neg (by simp; omega), hp])
          rw [← hp] at HW
          unfold pv at HW
          clear hbx hp HRn HNm hsl k0
          go_wp2_with fail
          refine (unhide HW w7 (bnext ((Below.refl w5.heap.size w5).drew) (unhide H7))).mono ?_
          rintro e w8 ⟨rfl, hb8⟩
          have H8 := hide (bnext (bnext (unhide HB5).drew (unhide H7)) hb8)
          clear hb8 z1 z2 z3 z4 z5 HW
          by_cases p0 : p = 0
          · subst p0
            go_wp2_with fail
            exact ⟨⟨k + 1, by omega, by simp, unhide H8, hide (unhide HF)⟩, by simp [intOf]; omega⟩
          · have h3 : (p != 0) = true := by rw [bne_iff_ne]; exact p0
            have HG := hide (show rulesWrong RL = p by rw [unhide HE, firstTo_stays (rwAt RL) (show k + 1 ≤ RL.length by omega) (by rw [unhide HF]; exact p0), unhide HF])
            clear p0
            go_wp2_with fail
            go_ret
            exact ⟨(by rw [unhide HG]; rfl), unhide H8⟩
    · have hge' : ¬ (k : Int) < (RL.length : Int) := by omega
      have hkk : k = RL.length := by omega
      subst hkk
      go_wp2_with fail
      go_ret
      exact ⟨(by rw [unhide HE, unhide HK]; rfl), hb⟩
end Go.Proofs.YtbmngbpillihaaaDoor

namespace Go.Proofs.YtbmngbpillihaaaDoor
open Go.RowKit

theorem named_size {s : ByteArray} (h : named s = true) : s.size ≤ 16 := by
  unfold named at h
  rw [Bool.and_eq_true, decide_eq_true_eq] at h
  exact h.1
theorem errN_ok {T : PT} (h : errN T = 0) : okS T.k T.t T.n T.len ∧ T.k ≠ 0 ∧ ((21 ≤ T.k ∧ T.k ≤ 24) → T.nm.size ≤ 1000000) := by
  unfold errN at h
  split at h
  · exact absurd h (by decide)
  split at h
  · exact absurd h (by decide)
  split at h
  · exact absurd h (by decide)
  split at h
  · exact absurd h (by decide)
  split at h
  · exact absurd h (by decide)
  split at h
  · exact absurd h (by decide)
  rename_i h1 h2 h3 h4 h5 h6
  have hk : 1 ≤ T.k ∧ T.k ≤ 24 := by omega
  refine ⟨⟨hk, fun q => ?_, fun q => ?_, fun q => ?_, fun q => ?_⟩, by omega, fun q => ?_⟩
  · have : hasK T.k = 1 := by unfold hasK; rw [if_pos q]
    have := fun z => h2 ⟨this, z⟩
    omega
  · have : hasK T.k = 2 := by unfold hasK; rw [if_neg (by omega), if_pos q]
    have := fun z => h4 ⟨this, z⟩
    omega
  · have : leastK T.k = 2 := by unfold leastK; rw [if_pos q]
    omega
  · have e1 : leastK T.k = 1 := by unfold leastK; rw [if_neg (by omega), if_pos (by omega)]
    have e2 : mostK T.k = 1 := by unfold mostK; rw [if_neg (by omega), if_pos (by omega)]
    omega
  · have : hasK T.k = 3 := by unfold hasK; rw [if_neg (by omega), if_neg (by omega), if_pos q]
    have hn : named T.nm = true := by
      cases z : named T.nm with
      | true => rfl
      | false => exact absurd ⟨this, z⟩ h5
    have := named_size hn
    omega
theorem firstTo_zero {f : Nat → Int} : ∀ {n : Nat}, firstTo f n = 0 → ∀ i, i < n → f i = 0
  | 0, _, i, hi => by omega
  | n + 1, h, i, hi => by
    rw [firstTo] at h
    split at h
    · rename_i h0
      rcases Nat.lt_or_ge i n with q | q
      · exact firstTo_zero h0 i q
      · rw [show i = n by omega]; exact h
    · contradiction
theorem fine_of : ∀ T : PT, T.bad = 0 → FineS T ∧ NZ T := PT.ind fun T ih h => by
  rw [T.bad_eq] at h
  split at h
  · rename_i h0
    obtain ⟨h1, h2⟩ := errN_ok h0
    have hk := fun i hi => ih i hi (firstTo_zero h i hi)
    obtain ⟨k, t, n, nm, xa, b, o, len, cap, kids⟩ := T
    exact ⟨⟨h1, fun j => by have := (hk j.1 j.2).1; rwa [PT.kid_at (T := .node k t n nm xa b o len cap kids) j.2] at this⟩, ⟨h2, fun j => by have := (hk j.1 j.2).2; rwa [PT.kid_at (T := .node k t n nm xa b o len cap kids) j.2] at this⟩⟩
  · contradiction
theorem right_of {T : PT} (h : T.wrong = 0) : FineS T ∧ NZ T ∧ T.cnt ≤ 4096 := by
  unfold PT.wrong at h
  split at h
  · rename_i q
    unfold PT.fits at q
    rw [Bool.and_eq_true, decide_eq_true_eq] at q
    exact ⟨(fine_of T h).1, (fine_of T h).2, q.1⟩
  · exact absurd h (by decide)
theorem rules_right {RL : List (ByteArray × PT)} (h : rulesWrong RL = 0) : RL.length ≤ 64 ∧ ∀ (i : Nat) (r : ByteArray × PT), RL[i]? = some r → named r.1 = true ∧ ruleAt r.1 (RL.take i) 0 < 0 ∧ r.2.wrong = 0 := by
  unfold rulesWrong at h
  split at h
  · exact absurd h (by decide)
  · refine ⟨by omega, fun i r hr => ?_⟩
    have hi : i < RL.length := (List.getElem?_eq_some_iff.1 hr).1
    have := firstTo_zero h i hi
    unfold rwAt at this
    rw [hr] at this
    simp only at this
    split at this
    · exact absurd this (by decide)
    · rename_i q
      refine ⟨?_, ?_, this⟩
      · cases z : named r.1 with
        | true => rfl
        | false => exact absurd (.inl z) q
      · have := fun z => q (.inr z)
        omega
end Go.Proofs.YtbmngbpillihaaaDoor

namespace Go.Proofs.YtbmngbpillihaaaDoor
open Go.RowKit

def LayPost (rn : ByteArray → Int) (T : PT) (w : World) (B g : Nat) (m : MS) (N : List Nd) (O : List Int) (W : List Wr) (C : List Cr) (G S : List Gft) (e : Ending) (w' : World) : Prop :=
  e = .returned (.int .i64 (N.length : Int)) ∧ ∃ v N', Rep w' B g { m with nv := v } N' O W C G S ∧ Fr g m { m with nv := v } w w' ∧ Lies rn N' T N.length ∧ (∀ i, i < N.length → N'[i]? = N[i]?) ∧ (N'.length = N.length + T.cnt ∧ (∀ {A : Nat}, Fresh A N → Fresh A N'))
set_option maxRecDepth 100000 in
set_option maxHeartbeats 1000000 in
theorem index_none {xa : Option Addr} {cap : Nat} (v : Value) (w : World) : Calls Tryd.prog 110 #[.slice xa 0 cap, v] w fun e w' => e = .returned (.int .i64 (-1)) ∧ w' = w := by
  go_enter Tryd.func110, Tryd.ntmps110
  go_wp2_with fail
  go_loop [8] (fun i => i = .int .i64 0) (fun _ => 0)
  case atStart => rfl
  case round =>
    subst hrel
    go_wp2_with fail
    go_ret
    exact ⟨rfl, rfl⟩
set_option maxRecDepth 100000 in
set_option maxHeartbeats 1000000 in
theorem rule_none {xa : Option Addr} {cap : Nat} (nm : ByteArray) (w : World) : Calls Tryd.prog 91 #[.slice xa 0 cap, .string nm] w fun e w' => e = .returned (.int .i64 (-1)) ∧ Below w.heap.size w w' := by
  go_enter Tryd.func91, Tryd.ntmps91
  go_wp2_with (go_at_call 110; refine (index_none _ _).mono ?_; rintro e w1 ⟨rfl, rfl⟩)
  go_ret
  exact ⟨rfl, (Below.refl _ _).alloc (Nat.le_refl _) _⟩
theorem rn_none {xa : Option Addr} {cap : Nat} (Wd : World) : RN (fun _ => -1) (.slice xa 0 cap) Wd := fun W _ nm _ => rule_none nm W
set_option maxRecDepth 100000 in
set_option maxHeartbeats 4000000 in
theorem lay_anyG (rn : ByteArray → Int) (T : PT) {Wd w : World} {B g : Nat} {m : MS} {N : List Nd} {O : List Int} {W : List Wr} {C : List Cr} {G S : List Gft} (hT : T.In Wd) (hbel : Below Wd.heap.size Wd w) (hWB : Wd.heap.size ≤ B) (h : Rep w B g m N O W C G S) (hcn : N.length + T.cnt ≤ 800000) (hBare : NZ T) (hRN : RN rn m.rv Wd) :
    Calls Tryd.prog 66 #[.pointer (some ⟨g, 0, none⟩), pv T] w fun e w' => LayPost rn T w B g m N O W C G S e w' := by
  unfold pv
  have hgl := h.lt
  have hgz : ¬ g = w.heap.size := by omega
  have hzg : ¬ w.heap.size = g := by omega
  have hcp := T.cnt_pos
  obtain ⟨na, nc, hnv, -, -⟩ := h.nodes.len
  have c2 := h.c2
  rw [hnv] at c2
  have hb1 : Below w.heap.size w ((w.alloc (.cells #[.int .i64 T.k, .string T.t, .int .i64 T.n, .string T.nm, .slice T.xa T.len T.cap] 24)).alloc (.cells #[.int .i64 0, .string ⟨#[]⟩, .int .i64 0, .string ⟨#[]⟩, .int .i64 0, .int .i64 0, .int .i64 0, .pointer none, .int .i64 0, .int .i64 0] 121)) := ((Below.refl _ _).alloc (Nat.le_refl _) _).alloc (by simp) _
  have HRow := hide (show Row ((w.alloc (.cells #[.int .i64 T.k, .string T.t, .int .i64 T.n, .string T.nm, .slice T.xa T.len T.cap] 24)).alloc (.cells #[.int .i64 0, .string ⟨#[]⟩, .int .i64 0, .string ⟨#[]⟩, .int .i64 0, .int .i64 0, .int .i64 0, .pointer none, .int .i64 0, .int .i64 0] 121)) B 121 10 ndV (.slice na N.length nc) N from (show Row w B 121 10 ndV (.slice na N.length nc) N from by rw [← hnv]; exact h.nodes).later hb1)
  have hne : some g ≠ (Value.slice na N.length nc).ownBlock := by rw [← hnv]; exact h.nodes.neBlk h.blk (by decide)
  have hbx : ((w.alloc (.cells #[.int .i64 T.k, .string T.t, .int .i64 T.n, .string T.nm, .slice T.xa T.len T.cap] 24)).alloc (.cells #[.int .i64 0, .string ⟨#[]⟩, .int .i64 0, .string ⟨#[]⟩, .int .i64 0, .int .i64 0, .int .i64 0, .pointer none, .int .i64 0, .int .i64 0] 121)).heap[w.heap.size]? = some (.cells #[.int .i64 T.k, .string T.t, .int .i64 T.n, .string T.nm, .slice T.xa T.len T.cap] 24 (0, 0)) := at_old (by simp) (at_new rfl)
  have HR := hide h
  have HI := hide (And.intro hT (And.intro hbel (And.intro (And.intro hBare hRN) (And.intro hb1 (And.intro hbx hnv)))))
  have hB1 : B ≤ ((w.alloc (.cells #[.int .i64 T.k, .string T.t, .int .i64 T.n, .string T.nm, .slice T.xa T.len T.cap] 24)).alloc (.cells #[.int .i64 0, .string ⟨#[]⟩, .int .i64 0, .string ⟨#[]⟩, .int .i64 0, .int .i64 0, .int .i64 0, .pointer none, .int .i64 0, .int .i64 0] 121)).heap.size := Nat.le_trans h.base hb1.size
  have hc2' := cell_later hb1 c2
  have hblk1 := hide (row_below h.blk hb1)
  clear h hT hbel hBare hRN hb1 hbx hnv
  go_enter Tryd.func66, Tryd.ntmps66
  go_wp2_with (refine wpList_row Tryd.underlying66 info_node rfl (by decide) (by decide) ndV_len ndV_one rfl (.tmp 15) (.tmp 17) rfl (B := B) (v := .slice na N.length nc) (l := N) (unhide HRow) hB1 nd0 (w.heap.size + 1) 1 (by simp [Act.eval]) (by simp [Act.eval]) (made_cells (at_new (w := w.alloc (.cells #[.int .i64 T.k, .string T.t, .int .i64 T.n, .string T.nm, .slice T.xa T.len T.cap] 24)) (by simp)) rfl) (by omega) ?_; intro v' w9 hr9 hg9 hv9; obtain ⟨gn, gcap, hv', hcl, -⟩ := hr9.form (by simp); rw [List.length_append, List.length_singleton] at hv'; subst hv'; have d2 := hg9.cell hc2' hne; have e2 : w9.frozen? ⟨g, 2, none⟩ = false := frozen_of_row w9 g 2 _ _ (grown_blk (unhide hblk1) (fun j hj => (unhide HRow).type hj) (by decide) hg9); have hbx9 := grown_blk (unhide HI).2.2.2.2.1 (fun j hj => (unhide HRow).type hj) (by decide) hg9; have z0 : w9.cell? ⟨w.heap.size, 0, none⟩ = some (.int .i64 T.k) := (by rw [cell_of_row _ _ _ _ _ _ hbx9]; rfl); have z1 : w9.cell? ⟨w.heap.size, 1, none⟩ = some (.string T.t) := (by rw [cell_of_row _ _ _ _ _ _ hbx9]; rfl); have z2 : w9.cell? ⟨w.heap.size, 2, none⟩ = some (.int .i64 T.n) := (by rw [cell_of_row _ _ _ _ _ _ hbx9]; rfl); have z3 : w9.cell? ⟨w.heap.size, 3, none⟩ = some (.string T.nm) := (by rw [cell_of_row _ _ _ _ _ _ hbx9]; rfl); have z4 : w9.cell? ⟨w.heap.size, 4, none⟩ = some (.slice T.xa T.len T.cap) := (by rw [cell_of_row _ _ _ _ _ _ hbx9]; rfl); have H9 := hide (And.intro hr9 (And.intro hg9 hv9)); clear hr9 hg9 hv9 hbx9)
  obtain ⟨hT, hbel, hBare, hb1, -, hnv⟩ := unhide HI
  obtain ⟨hr9, hg9, hv9⟩ := unhide H9
  rw [← hnv] at hg9 hv9
  have r2 := ((unhide HR).later hb1).grownN hg9 hr9
  have f2 := (Fr.later (g := g) (m := m) hb1).trans (Fr.growN hg9 hv9)
  have HC := hide (fill_anyG rn T Wd _ B g _ _ O W C G S N.length hT (hbel.trans ((Fr.below (unhide HR) f2).mono hWB)) hWB r2 (by simp) (by simp; omega) hBare.1 hBare.2)
  unfold pv at HC
  have HF2 := hide f2
  clear r2 f2 hr9 hg9 hv9 hT hbel hBare hb1 hnv
  refine (unhide HC).mono ?_
  rintro e w6 ⟨rfl, v6, N6, r6, f6, l6, o6, n6⟩
  have H6 := hide (And.intro r6 (And.intro f6 (And.intro l6 (And.intro o6 n6))))
  clear r6 f6 l6 o6 n6 HC
  go_wp2_with fail
  go_ret
  obtain ⟨r6, f6, l6, o6, n6⟩ := unhide H6
  refine ⟨rfl, v6, N6, r6, (unhide HF2).trans f6, l6, fun i hi => ?_, ?_, fun hfr => o6.2 (hfr.zeros 1)⟩
  · rw [o6.1 i (by simp; omega) (by omega), List.getElem?_append_left hi]
  · simp at n6; omega
end Go.Proofs.YtbmngbpillihaaaDoor

namespace Go.Proofs.YtbmngbpillihaaaDoor
open Go.RowKit

theorem info_int : (Tryd.prog.info? 3).map (fun i => (i.zero, i.size, i.bytes)) = some (some (.int .i64 0), 1, 8) := by kernel_rfl
theorem made_ints (n : Nat) : madeCells #[Value.int .i64 0] n = (flat inV (List.replicate n 0)).toArray := by
  apply Array.ext'
  simp only [madeCells]
  induction n with
  | zero => simp [flat]
  | succ n ih => rw [Array.range_succ, Array.map_append, Array.toList_append, ih, List.replicate_succ', flat_append]; simp [flat, inV, Nat.mod_one]
theorem make_ints (n : Nat) (hn : n ≤ 1000000) (W : World) : (Instr.makeSlice 67 (.int .i64 (n : Int)) (.int .i64 (n : Int))).run Tryd.prog W = .ok (.slice (some ⟨W.heap.size, 0, none⟩) n n) (W.alloc (.cells (flat inV (List.replicate n 0)).toArray 3)) := by
  have := run_make_row' (P := Tryd.prog) 67 3 (.int .i64 0) 8 Tryd.underlying67 info_int rfl .i64 .i64 n (by omega) (by omega) W
  rw [made_ints] at this
  exact this
def msNewR (s : ByteArray) (rv : Value) (rg n fuel room : Nat) : MS := ⟨s, rv, .slice none 0 0, 0, .slice (some ⟨rg, 0, none⟩) n n, false, 0, 0, 0, .slice none 0 0, .slice none 0 0, .slice none 0 0, .slice none 0 0, 0, room, fuel, 0, false, 0⟩
theorem rep_newR {w : World} {B g rg n : Nat} {s : ByteArray} {rv : Value} {fuel room : Nat} (hn : n ≤ 1000000) (hg : w.heap[g]? = some (.cells (msNewR s rv rg n fuel room).row 71 (0, 0))) (hr : w.heap[rg]? = some (.cells (flat inV (List.replicate n 0)).toArray 3 (0, 0))) (h1 : B ≤ g) (h2 : B ≤ rg) : Rep w B g (msNewR s rv rg n fuel room) [] (List.replicate n 0) [] [] [] [] :=
  have hl : (flat inV (List.replicate n 0)).length = n := by rw [flat_len inV_len]; simp
  ⟨h1, hg, World.ownsRow_nil w B _ 10, ⟨by rw [flat_len inV_len], .inr ⟨rg, n, (flat inV (List.replicate n 0)).toArray, by simp [msNewR], h2, hr, by simp, Nat.le_trans hn (by decide), by simp [hl], by rw [List.take_of_length_le (by simp [hl])]⟩⟩, World.ownsRow_nil w B _ 4, World.ownsRow_nil w B _ 6, World.ownsRow_nil w B _ 2, World.ownsRow_nil w B _ 2, (fun k hk => by cases hk), by have := (Array.getElem?_eq_some_iff.1 hg).1; omega⟩
theorem RepOset {w : World} {B g : Nat} {m : MS} {N : List Nd} {O : List Int} {W : List Wr} {C : List Cr} {G S : List Gft} (h : Rep w B g m N O W C G S) {gn n cap a : Nat} (hv : m.ro = .slice (some ⟨gn, 0, none⟩) n cap) (ha : a < O.length) (y : Int) : Rep (w.setCell ⟨gn, a, none⟩ (.int .i64 y)) B g m N (O.set a y) W C G S := by
  have ho : m.ro.ownBlock = some gn := by rw [hv]; rfl
  obtain ⟨cur, hcur⟩ := h.roots.type ho
  have hb : But gn w (w.setCell ⟨gn, a, none⟩ (.int .i64 y)) := (But.refl gn w).setCell _ _
  have hne : g ≠ gn := fun e => h.roots.neBlk h.blk (by decide) (by rw [ho, e])
  have hs := h.roots.set inV_len (k := 0) (u := .int .i64 y) (y := y) hv (List.getElem?_eq_getElem ha) (by decide) rfl
  rw [Nat.mul_one, Nat.add_zero] at hs
  exact ⟨h.low, hb.row hne h.blk, h.nodes.keepBut hcur (by decide) hb, hs, h.works.keepBut hcur (by decide) hb, h.choices.keepBut hcur (by decide) hb, h.given.keepBut hcur (by decide) hb, h.said.keepBut hcur (by decide) hb, h.apart, Nat.le_trans h.base hb.size⟩
theorem FrOset {w : World} {g : Nat} {m : MS} {gn : Nat} (ho : m.ro.ownBlock = some gn) (k : Nat) (v : Value) : Fr g m m w (w.setCell ⟨gn, k, none⟩ v) :=
  ⟨rfl, rfl, rfl, by simp, fun i _ hn => heap_setCell_other w ⟨gn, k, none⟩ i v (fun e => hn (.inr (.inr (.inl (by rw [ho]; exact congrArg some e.symm))))), fun _ h => .inl h⟩
end Go.Proofs.YtbmngbpillihaaaDoor
