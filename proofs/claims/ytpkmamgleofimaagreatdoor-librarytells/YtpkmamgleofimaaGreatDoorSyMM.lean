/- The reader of lines: a label in brackets; a statement in memory; where a line goes on. The reader of lines: where a line goes on. -/
import Derived.Test.YtpkmamgleofimaaGreatDoorSyKM
namespace Go.Proofs.YtpkmamgleofimaaGreatDoor
open Go.RowKit

set_option maxRecDepth 100000 in
set_option maxHeartbeats 4000000 in
theorem swayOn_any {C : SyC} {l : List Tk} {o : Nat} (w : World) (hR : Syr C w l o) : Calls Tryz.prog 75 #[.pointer (some ⟨C.z, 0, none⟩)] w fun e w' => SyPost strV C o w (woS C.E l) e w' ∧ ∀ t r, woS C.E l = .ok (t, r) → t.size ≤ 2000 := by
  have HN1 := hide (sneed_any (sgn 40) w hR)
  have HN2 := hide (fun w l h => sneed_any (C := C) (l := l) (o := o) (sgn 41) w h)
  have HNM := hide (fun w l h => sname_any (C := C) (l := l) (o := o) w h)
  obtain ⟨RR, hRR⟩ : ∃ RR, RR = woS C.E l := ⟨_, rfl⟩
  rw [← hRR]
  have HQ : Hid (RR = sbd (ndS C.E (sgn 40) l) fun _ r => sbd (nmS C.E r) fun t q => sbd (ndS C.E (sgn 41) q) fun _ m => .ok (t, m)) := hide (hRR)
  clear hR hRR
  unfold sgn at HN1 HN2 HQ
  go_enter Tryz.func75, Tryz.ntmps75
  go_wp2_with fail
  refine (unhide HN1).mono ?_
  intro e w1 hp
  cases hq : ndS C.E ⟨#[40]⟩ l with
  | error x =>
    obtain ⟨er, i⟩ := x
    obtain ⟨hb1, rfl⟩ := sof_err hp hq
    have HB1 := hide hb1
    have HQ2 : Hid (RR = .error (er, i)) := hide (by rw [unhide HQ, hq, sbd_err])
    clear hp hb1 hq
    unfold thr
    go_wp2_with fail
    exact ⟨rfl, spost_err (unhide HQ2) (unhide HB1) rfl, fun t r h => by rw [unhide HQ2] at h; cases h⟩
  | ok x =>
    obtain ⟨xu, r⟩ := x
    obtain ⟨hb1, rfl, hR1⟩ := sof_ok hp hq
    have HB1 := hide hb1
    have HQ2 : Hid (RR = sbd (nmS C.E r) fun t q => sbd (ndS C.E ⟨#[41]⟩ q) fun _ m => .ok (t, m)) := hide (by rw [unhide HQ, hq, sbd_ok])
    have HNM1 := hide (unhide HNM w1 r hR1)
    have HSM := hide (fun t q h => nmS_sm (t := t) (r := q) hR1 h)
    clear hp hb1 hq hR1 HNM HN1 HQ
    go_wp2_with fail
    refine (unhide HNM1).mono ?_
    intro e w2 hp
    cases hq : nmS C.E r with
    | error x =>
      obtain ⟨er, i⟩ := x
      obtain ⟨hb2, rfl⟩ := sof_err hp hq
      have HB2 := hide ((unhide HB1).trans hb2)
      have HQ3 : Hid (RR = .error (er, i)) := hide (by rw [unhide HQ2, hq, sbd_err])
      clear hp hb2 hq
      unfold thr
      go_wp2_with fail
      exact ⟨rfl, spost_err (unhide HQ3) (unhide HB2) rfl, fun t r h => by rw [unhide HQ3] at h; cases h⟩
    | ok x =>
      obtain ⟨t, q⟩ := x
      obtain ⟨hb2, rfl, hR2⟩ := sof_ok hp hq
      have HB2 := hide ((unhide HB1).trans hb2)
      have HT := hide (unhide HSM t q hq)
      have HQ3 : Hid (RR = sbd (ndS C.E ⟨#[41]⟩ q) fun _ m => .ok (t, m)) := hide (by rw [unhide HQ2, hq, sbd_ok])
      have HN3 := hide (unhide HN2 w2 q hR2)
      clear hp hb2 hq hR2 HN2 HNM1 HSM HQ2
      go_wp2_with fail
      refine (unhide HN3).mono ?_
      intro e w3 hp
      cases hq : ndS C.E ⟨#[41]⟩ q with
      | error x =>
        obtain ⟨er, i⟩ := x
        obtain ⟨hb3, rfl⟩ := sof_err hp hq
        have HB3 := hide ((unhide HB2).trans hb3)
        have HQ4 : Hid (RR = .error (er, i)) := hide (by rw [unhide HQ3, hq, sbd_err])
        clear hp hb3 hq
        unfold thr
        go_wp2_with fail
        exact ⟨rfl, spost_err (unhide HQ4) (unhide HB3) rfl, fun t r h => by rw [unhide HQ4] at h; cases h⟩
      | ok x =>
        obtain ⟨xu2, m⟩ := x
        obtain ⟨hb3, rfl, hR3⟩ := sof_ok hp hq
        have HZ := hide (And.intro ((unhide HB2).trans hb3) hR3)
        have HQ4 : Hid (RR = .ok (t, m)) := hide (by rw [unhide HQ3, hq, sbd_ok])
        clear hp hb3 hq hR3
        go_wp2_with fail
        go_ret
        exact ⟨spost_ok (unhide HQ4) (unhide HZ).1 rfl (unhide HZ).2, fun t' r' h => by rw [unhide HQ4] at h; injection h with h; injection h with h _; rw [← h]; exact unhide HT⟩
def BoxS (s : Nat) (w : World) : Prop := ∃ C : Array Value, w.heap[s]? = some (.cells C 47 (0, 0)) ∧ C.size = 24 ∧ C.all (·.oneCell') = true
structure But2 (z s : Nat) (w w' : World) : Prop where
  os : w'.os = w.os
  tape : w'.tape = w.tape
  output : w'.output = w.output
  size : w.heap.size ≤ w'.heap.size
  block : ∀ k, k < w.heap.size → k ≠ z → k ≠ s → w'.heap[k]? = w.heap[k]?
  box : s ≠ z → BoxS s w → BoxS s w'
theorem But2.of {z s : Nat} {w w' : World} (h : But z w w') : But2 z s w w' := ⟨h.os, h.tape, h.output, h.size, fun k h1 h2 _ => h.block k h1 h2, fun hn ⟨C, h1, h2, h3⟩ => ⟨C, (h.block s (Array.getElem?_eq_some_iff.1 h1).1 hn).trans h1, h2, h3⟩⟩
theorem But2.trans {z s : Nat} {a b c : World} (h : But2 z s a b) (k : But2 z s b c) : But2 z s a c :=
  ⟨k.os.trans h.os, k.tape.trans h.tape, k.output.trans h.output, Nat.le_trans h.size k.size, fun i h1 h2 h3 => (k.block i (Nat.lt_of_lt_of_le h1 h.size) h2 h3).trans (h.block i h1 h2 h3), fun hn q => k.box hn (h.box hn q)⟩
theorem But2.set {z s : Nat} {a b : World} (h : But2 z s a b) (k : Nat) (v : Value) (hv : v.oneCell' = true := by rfl) : But2 z s a (b.setCell ⟨s, k, none⟩ v) :=
  ⟨h.os, h.tape, h.output, by rw [World.size_setCell]; exact h.size, fun i h1 h2 h3 => (heap_setCell_other b ⟨s, k, none⟩ i v h3).trans (h.block i h1 h2 h3), fun hn q => by
    obtain ⟨C, h1, h2, h3⟩ := h.box hn q
    refine ⟨C.setIfInBounds k v, heap_setCell_same b s k _ _ v h1, by rw [Array.size_setIfInBounds]; exact h2, ?_⟩
    rw [Array.all_eq_true'] at h3 ⊢
    intro u hu
    rcases Array.mem_or_eq_of_mem_setIfInBounds hu with q | q
    · exact h3 u q
    · rw [q]; exact hv⟩
structure StIn (B sb : Nat) (w : World) (S P : SV) : Prop where
  box : w.heap[sb]? = some (.cells S.cells 47 (0, 0))
  can : S.can = P
  txt : S.lab.size ≤ 2000 ∧ S.nm.size ≤ 2000 ∧ S.en.size ≤ 2000 ∧ S.al.size ≤ 2000 ∧ S.ye.size ≤ 2000 ∧ S.no.size ≤ 2000
  tg : Lies B w S.tg
  va : Lies B w S.va
  pa : Lies B w S.pa
  ps : NLies B w S.ps
  ls : NLies B w S.ls
theorem NLies.step {B : Nat} {w w' : World} {N : NL} (h : NLies B w N) (hs : w.heap.size ≤ w'.heap.size) (hb : ∀ i, B ≤ i → i < w.heap.size → w'.heap[i]? = w.heap[i]?) : NLies B w' N :=
  fun X hX => h X fun i h1 h2 => (hX i h1 (by omega)).trans (hb i h1 h2)
section
variable {B sb : Nat} {w w' : World} {S P : SV}
theorem StIn.next (h : StIn B sb w S P) (hx : w'.heap[sb]? = some (.cells S.cells 47 (0, 0))) (hs : w.heap.size ≤ w'.heap.size) (hb : ∀ i, B ≤ i → i < w.heap.size → w'.heap[i]? = w.heap[i]?) : StIn B sb w' S P :=
  ⟨hx, h.can, h.txt, h.tg.step hs hb, h.va.step hs hb, h.pa.step hs hb, h.ps.step hs hb, h.ls.step hs hb⟩
theorem StIn.but {z : Nat} (h : StIn B sb w S P) (hb : But z w w') (hz : z < B) (hne : sb ≠ z) : StIn B sb w' S P := h.next (hb.row hne h.box) hb.size fun i h1 h2 => hb.block i h2 (by omega)
theorem StIn.below (h : StIn B sb w S P) (hb : Below w.heap.size w w') : StIn B sb w' S P := h.next (row_below h.box hb) hb.size fun i _ h2 => hb.block i h2
theorem StIn.fz (h : StIn B sb w S P) (k : Nat) : w.frozen? ⟨sb, k, none⟩ = false := frozen_of_row w sb k _ _ h.box
theorem StIn.cell (h : StIn B sb w S P) {k : Nat} {v : Value} (hv : S.cells[k]? = some v) : w.cell? ⟨sb, k, none⟩ = some v := by rw [cell_of_row _ _ _ _ _ _ h.box]; exact hv
theorem StIn.put {S' P' : SV} {k : Nat} {v : Value} (h : StIn B sb w S P) (hsb : sb < B) (hc : S.cells.setIfInBounds k v = S'.cells) (hcan : S'.can = P') (ht : S'.lab.size ≤ 2000 ∧ S'.nm.size ≤ 2000 ∧ S'.en.size ≤ 2000 ∧ S'.al.size ≤ 2000 ∧ S'.ye.size ≤ 2000 ∧ S'.no.size ≤ 2000)
    (h1 : S'.tg = S.tg) (h2 : S'.va = S.va) (h3 : S'.pa = S.pa) (h4 : S'.ps = S.ps) (h5 : S'.ls = S.ls) : StIn B sb (w.setCell ⟨sb, k, none⟩ v) S' P' := by
  have hs : w.heap.size ≤ (w.setCell ⟨sb, k, none⟩ v).heap.size := by rw [World.size_setCell]; exact Nat.le_refl _
  have hb : ∀ i, B ≤ i → i < w.heap.size → (w.setCell ⟨sb, k, none⟩ v).heap[i]? = w.heap[i]? := fun i h1 _ => heap_setCell_other w ⟨sb, k, none⟩ i v (by show i ≠ sb; omega)
  refine ⟨?_, hcan, ht, by rw [h1]; exact h.tg.step hs hb, by rw [h2]; exact h.va.step hs hb, by rw [h3]; exact h.pa.step hs hb, by rw [h4]; exact h.ps.step hs hb, by rw [h5]; exact h.ls.step hs hb⟩
  rw [← hc]
  exact heap_setCell_same w sb k _ _ v h.box
end
def StPost (C : SyC) (o B sb : Nat) (w : World) (R : Sy SV) (e : Ending) (w' : World) : Prop :=
  But2 C.z sb w w' ∧ (match R with | .ok x => e = .returned (.tuple #[]) ∧ Syr C w' x.2 o ∧ ∃ S, StIn B sb w' S x.1 | .error x => e = thr x.1 x.2)
section
variable {C : SyC} {o B sb : Nat} {w w' : World} {R : Sy SV} {e : Ending}
theorem tpost_ok {S P : SV} {j : List Tk} (h : R = .ok (P, j)) (hb : But2 C.z sb w w') (he : e = .returned (.tuple #[])) (hr : Syr C w' j o) (hs : StIn B sb w' S P) : StPost C o B sb w R e w' := by subst h; exact ⟨hb, he, hr, S, hs⟩
theorem tpost_err {er : Int} {i : Nat} (h : R = .error (er, i)) (hb : But2 C.z sb w w') (he : e = thr er i) : StPost C o B sb w R e w' := by subst h; exact ⟨hb, he⟩
theorem tof_ok {P : SV} {j : List Tk} (h : StPost C o B sb w R e w') (hr : R = .ok (P, j)) : But2 C.z sb w w' ∧ e = .returned (.tuple #[]) ∧ Syr C w' j o ∧ ∃ S, StIn B sb w' S P := by subst hr; exact ⟨h.1, h.2.1, h.2.2.1, h.2.2.2⟩
theorem tof_err {er : Int} {i : Nat} (h : StPost C o B sb w R e w') (hr : R = .error (er, i)) : But2 C.z sb w w' ∧ e = thr er i := by subst hr; exact h
end
structure SyS (C : SyC) (B sb : Nat) : Prop where
  z : C.z < B
  s : sb < B
  ne : sb ≠ C.z
  ng : sb ≠ C.g
  nb : sb ≠ C.bb
theorem Syr.stm {C : SyC} {w : World} {l : List Tk} {o B sb k : Nat} {v : Value} (h : Syr C w l o) (hS : SyS C B sb) : Syr C (w.setCell ⟨sb, k, none⟩ v) l o :=
  h.same (heap_setCell_other w ⟨sb, k, none⟩ _ v (Ne.symm hS.ne)) (heap_setCell_other w ⟨sb, k, none⟩ _ v (Ne.symm hS.ng)) (heap_setCell_other w ⟨sb, k, none⟩ _ v (Ne.symm hS.nb))
end Go.Proofs.YtpkmamgleofimaaGreatDoor

namespace Go.Proofs.YtpkmamgleofimaaGreatDoor
open Go.RowKit

theorem isW_ne {E : Nat} {l : List Tk} {s : ByteArray} (h : isW (ahd E 0 l) s = true) : l ≠ [] := by
  rintro rfl
  revert h
  exact (fun h => by unfold isW ahd at h; simp at h)
section
variable {E : Nat} {S : SV} {l r : List Tk} {t : ByteArray}
theorem wyS_none (h : isS (ahd E 0 l) (sgn 58) = false) : wyS E S l = .ok (S, l) := by unfold wyS; rw [if_neg (by rw [h]; decide)]
theorem wyS_al (h : isS (ahd E 0 l) (sgn 58) = true) (h1 : isS (ahd E 0 l.tail) (sgn 40) = true) : wyS E S l = sbd (woS E l.tail) fun t r => .ok ({ S with al := t }, r) := by unfold wyS; rw [if_pos h, if_pos h1]
theorem wyS_ye (h : isS (ahd E 0 l) (sgn 58) = true) (h1 : isS (ahd E 0 l.tail) (sgn 40) = false) (h2 : isW (ahd E 0 l.tail) (sgn 83) = true) : wyS E S l = sbd (woS E l.tail.tail) fun t r => wfS E true { S with ye := t } r := by unfold wyS; rw [if_pos h, if_neg (by rw [h1]; decide), if_pos h2]
theorem wyS_no (h : isS (ahd E 0 l) (sgn 58) = true) (h1 : isS (ahd E 0 l.tail) (sgn 40) = false) (h2 : isW (ahd E 0 l.tail) (sgn 83) = false) : wyS E S l = wfS E false S l.tail := by unfold wyS; rw [if_pos h, if_neg (by rw [h1]; decide), if_neg (by rw [h2]; decide)]
theorem wfS_f {y : Bool} (h : isW (ahd E 0 l) (sgn 70) = true) : wfS E y S l = sbd (woS E l.tail) fun t r => .ok ({ S with no := t }, r) := by unfold wfS; rw [if_pos h]
theorem wfS_yes (h : isW (ahd E 0 l) (sgn 70) = false) : wfS E true S l = .ok (S, l) := by unfold wfS; rw [if_neg (by rw [h]; decide), if_pos rfl]
theorem wfS_not (h : isW (ahd E 0 l) (sgn 70) = false) : wfS E false S l = .error (2, (ahd E 0 l).a) := by unfold wfS; rw [if_neg (by rw [h]; decide), if_neg (by decide)]
end
structure StR (C : SyC) (o B sb : Nat) (w W : World) (l : List Tk) (S P : SV) : Prop where
  but : But2 C.z sb w W
  rdr : Syr C W l o
  stm : StIn B sb W S P
section
variable {C : SyC} {o B sb : Nat} {w W W' : World} {l l' : List Tk} {S P : SV}
theorem StR.next (h : StR C o B sb w W l S P) (hS : SyS C B sb) (hb : But C.z W W') (hR : Syr C W' l' o) : StR C o B sb w W' l' S P := ⟨h.but.trans (But2.of hb), hR, h.stm.but hb hS.z hS.ne⟩
theorem StR.below (h : StR C o B sb w W l S P) (hb : Below W.heap.size W W') : StR C o B sb w W' l S P := ⟨h.but.trans (But2.of (But.of_below hb)), h.rdr.below hb, h.stm.below hb⟩
theorem But2.refl (z s : Nat) (w : World) : But2 z s w w := ⟨rfl, rfl, rfl, Nat.le_refl _, fun _ _ _ _ => rfl, fun _ q => q⟩
theorem StR.al (h : StR C o B sb w W l S P) (hS : SyS C B sb) {t : ByteArray} (ht : t.size ≤ 2000) : StR C o B sb w (W.setCell ⟨sb, 21, none⟩ (.string t)) l { S with al := t } { P with al := t } :=
  ⟨h.but.set _ _, h.rdr.stm hS, h.stm.put hS.s rfl (by rw [← h.stm.can]; rfl) ⟨h.stm.txt.1, h.stm.txt.2.1, h.stm.txt.2.2.1, ht, h.stm.txt.2.2.2.2.1, h.stm.txt.2.2.2.2.2⟩ rfl rfl rfl rfl rfl⟩
theorem StR.ye (h : StR C o B sb w W l S P) (hS : SyS C B sb) {t : ByteArray} (ht : t.size ≤ 2000) : StR C o B sb w (W.setCell ⟨sb, 22, none⟩ (.string t)) l { S with ye := t } { P with ye := t } :=
  ⟨h.but.set _ _, h.rdr.stm hS, h.stm.put hS.s rfl (by rw [← h.stm.can]; rfl) ⟨h.stm.txt.1, h.stm.txt.2.1, h.stm.txt.2.2.1, h.stm.txt.2.2.2.1, ht, h.stm.txt.2.2.2.2.2⟩ rfl rfl rfl rfl rfl⟩
theorem StR.no (h : StR C o B sb w W l S P) (hS : SyS C B sb) {t : ByteArray} (ht : t.size ≤ 2000) : StR C o B sb w (W.setCell ⟨sb, 23, none⟩ (.string t)) l { S with no := t } { P with no := t } :=
  ⟨h.but.set _ _, h.rdr.stm hS, h.stm.put hS.s rfl (by rw [← h.stm.can]; rfl) ⟨h.stm.txt.1, h.stm.txt.2.1, h.stm.txt.2.2.1, h.stm.txt.2.2.2.1, h.stm.txt.2.2.2.2.1, ht⟩ rfl rfl rfl rfl rfl⟩
theorem StR.done {RR : Sy SV} (h : StR C o B sb w W l S P) (hq : RR = .ok (P, l)) : StPost C o B sb w RR (.returned (.tuple #[])) W := tpost_ok hq h.but rfl h.rdr h.stm
end
set_option maxRecDepth 100000 in
set_option maxHeartbeats 8000000 in
theorem swaysOn_any {C : SyC} {l : List Tk} {o B sb : Nat} {S P : SV} (w : World) (hS : SyS C B sb) (hR : Syr C w l o) (hI : StIn B sb w S P) : Calls Tryz.prog 37 #[.pointer (some ⟨C.z, 0, none⟩), .pointer (some ⟨sb, 0, none⟩)] w fun e w' => StPost C o B sb w (wyS C.E P l) e w' := by
  have H0 : Hid (StR C o B sb w w l S P) := hide (⟨But2.refl _ _ _, hR, hI⟩)
  have HS := hide hS
  have HTK := hide (fun w l h => stoken_any (C := C) (l := l) (o := o) w h)
  have HWO := hide (fun w l h => swayOn_any (C := C) (l := l) (o := o) w h)
  have HPS := hide (fun w l h (q : l ≠ []) => spass_any (C := C) (l := l) (o := o) w h q)
  have HST := hide (fun w l h => sstop_any (C := C) (l := l) (o := o) w h)
  obtain ⟨RR, hRR⟩ : ∃ RR, RR = wyS C.E P l := ⟨_, rfl⟩
  rw [← hRR]
  have HQ := hide hRR
  clear hR hI hS hRR
  cases h1 : isS (ahd C.E 0 l) (sgn 58)
  · have HC := hide (stake_no (sgn 58) w (unhide H0).rdr h1)
    have HQ1 : Hid (RR = .ok (P, l)) := hide (by rw [unhide HQ]; exact wyS_none h1)
    clear HQ h1 HTK HWO HPS HST
    unfold sgn at HC
    go_enter Tryz.func37, Tryz.ntmps37
    go_wp2_with fail
    refine (unhide HC).mono ?_
    rintro e w1 ⟨rfl, hb1⟩
    have H1 := hide ((unhide H0).below hb1)
    clear hb1
    go_wp2_with fail
    refine bodyPost_ret (results_none rfl _ _ _) rfl ?_
    exact (unhide H1).done (unhide HQ1)
  · have HC := hide (stake_yes (sgn 58) w (unhide H0).rdr h1)
    have HQ1 := hide (fun h2 => (unhide HQ).trans (wyS_al (S := P) h1 h2))
    have HQ2 := hide (fun h2 h3 => (unhide HQ).trans (wyS_ye (S := P) h1 h2 h3))
    have HQ3 := hide (fun h2 h3 => (unhide HQ).trans (wyS_no (S := P) h1 h2 h3))
    clear HQ h1
    unfold sgn at HC HQ1 HQ2 HQ3
    have HL := hide (Eq.refl l.tail)
    generalize l.tail = l1 at *
    have HIS := hide (fun w => isSign_any (ahd C.E 0 l1) ⟨#[40]⟩ w)
    have HIW := hide (fun w => isWord_any (ahd C.E 0 l1) ⟨#[83]⟩ w)
    have HTL := hide (fun w h => unhide HTK w l1 h)
    generalize htv : tokV (ahd C.E 0 l1) = tv at *
    clear htv
    go_enter Tryz.func37, Tryz.ntmps37
    go_wp2_with fail
    refine (unhide HC).mono ?_
    rintro e w1 ⟨rfl, hb1, hR1⟩
    have H1 := hide ((unhide H0).next (unhide HS) hb1 hR1)
    have HT1 := hide (unhide HTL w1 hR1)
    clear hb1 hR1 HC
    go_wp2_with fail
    refine (unhide HT1).mono ?_
    rintro e w2 ⟨rfl, hb2⟩
    have H2 := hide ((unhide H1).below hb2)
    clear hb2 HT1
    cases h2 : isS (ahd C.E 0 l1) ⟨#[40]⟩
    · rw [h2] at HIS
      have HQ2 := hide (unhide HQ2 h2)
      have HQ3 := hide (unhide HQ3 h2)
      clear h2 HQ1
      go_wp2_with fail
      refine (unhide HIS _).mono ?_
      rintro e w3 ⟨rfl, hb3⟩
      have H3 := hide ((unhide H2).below hb3)
      have HT3 := hide (unhide HTL w3 (unhide H3).rdr)
      clear hb3 HIS
      go_wp2_with fail
      refine (unhide HT3).mono ?_
      rintro e w4 ⟨rfl, hb4⟩
      have H4 := hide ((unhide H3).below hb4)
      clear hb4 HT3
      cases h3 : isW (ahd C.E 0 l1) ⟨#[83]⟩
      · rw [h3] at HIW
        have HQ4 := hide (unhide HQ3 h3)
        clear h3 HQ2 HQ3
        go_wp2_with fail
        refine (unhide HIW _).mono ?_
        rintro e w5 ⟨rfl, hb5⟩
        have H5 := hide ((unhide H4).below hb5)
        clear hb5 HIW
        go_wp2_with fail
        have HIF := hide (fun w => isWord_any (ahd C.E 0 l1) ⟨#[70]⟩ w)
        have HT8 := hide (unhide HTK _ l1 (unhide H5).rdr)
        generalize htv : tokV (ahd C.E 0 l1) = tv2 at *
        clear htv
        refine (unhide HT8).mono ?_
        rintro e w8 ⟨rfl, hb8⟩
        have H8 := hide ((unhide H5).below hb8)
        clear hb8 HT8
        cases h8 : isW (ahd C.E 0 l1) ⟨#[70]⟩
        · rw [h8] at HIF
          have HQ5 : Hid (RR = .error (2, (ahd C.E 0 l1).a)) := hide ((unhide HQ4).trans (wfS_not h8))
          clear h8
          go_wp2_with fail
          refine (unhide HIF _).mono ?_
          rintro e w9 ⟨rfl, hb9⟩
          have H9 := hide ((unhide H8).below hb9)
          have HT9 := hide (unhide HST w9 l1 (unhide H9).rdr)
          clear hb9 HIF
          generalize (ahd C.E 0 l1).a = ae at *
          go_wp2_with fail
          refine (unhide HT9).mono ?_
          rintro e w10 ⟨rfl, hb10⟩
          have H10 := hide ((unhide H9).below hb10)
          clear hb10
          unfold thr
          go_wp2_with fail
          exact ⟨rfl, tpost_err (unhide HQ5) (unhide H10).but rfl⟩
        · rw [h8] at HIF
          have HNE8 := hide (isW_ne h8)
          have HQ4 := hide ((unhide HQ4).trans (wfS_f h8))
          clear h8
          go_wp2_with fail
          refine (unhide HIF _).mono ?_
          rintro e w9 ⟨rfl, hb9⟩
          have H9 := hide ((unhide H8).below hb9)
          have HP9 := hide (unhide HPS w9 l1 (unhide H9).rdr (unhide HNE8))
          clear hb9 HIF
          go_wp2_with fail
          refine (unhide HP9).mono ?_
          rintro e w10 ⟨rfl, hb10, hR10⟩
          have H10 := hide ((unhide H9).next (unhide HS) hb10 hR10)
          have HW10 := hide (unhide HWO w10 l1.tail hR10)
          clear hb10 hR10 HP9
          go_wp2_with fail
          refine (unhide HW10).mono ?_
          rintro e w7 ⟨hp, hsz⟩
          cases hq : woS C.E l1.tail with
          | error x =>
            obtain ⟨er, i⟩ := x
            obtain ⟨hb7, rfl⟩ := sof_err hp hq
            have HB7 := hide ((unhide H10).but.trans (But2.of hb7))
            have HQ5 : Hid (RR = .error (er, i)) := hide (by rw [unhide HQ4, hq, sbd_err])
            clear hp hb7 hq hsz
            unfold thr
            go_wp2_with fail
            exact ⟨rfl, tpost_err (unhide HQ5) (unhide HB7) rfl⟩
          | ok x =>
            obtain ⟨t2, r2⟩ := x
            have htz2 := hsz t2 r2 hq
            obtain ⟨hb7, rfl, hR7⟩ := sof_ok hp hq
            have h7 := (unhide H10).next (unhide HS) hb7 hR7
            have c22 := h7.stm.cell (k := 23) (show (S).cells[23]? = some (.string (S).no) from rfl)
            have f22 := h7.stm.fz 23
            have H8 := hide (h7.no (unhide HS) htz2)
            have HQ5 : Hid (RR = .ok ({ P with no := t2 }, r2)) := hide (by rw [unhide HQ4, hq, sbd_ok])
            clear hp hb7 hq hsz hR7 h7
            go_wp2_with fail
            (first | go_end0 | refine bodyPost_ret (results_none rfl _ _ _) rfl ?_)
            exact (unhide H8).done (unhide HQ5)
      · rw [h3] at HIW
        have HNE := hide (isW_ne h3)
        have HQ4 := hide (unhide HQ2 h3)
        clear h3 HQ2 HQ3
        go_wp2_with fail
        refine (unhide HIW _).mono ?_
        rintro e w5 ⟨rfl, hb5⟩
        have H5 := hide ((unhide H4).below hb5)
        have HP5 := hide (unhide HPS w5 l1 (unhide H5).rdr (unhide HNE))
        clear hb5 HIW
        go_wp2_with fail
        refine (unhide HP5).mono ?_
        rintro e w6 ⟨rfl, hb6, hR6⟩
        have H6 := hide ((unhide H5).next (unhide HS) hb6 hR6)
        have HW6 := hide (unhide HWO w6 l1.tail hR6)
        clear hb6 hR6 HP5
        go_wp2_with fail
        refine (unhide HW6).mono ?_
        rintro e w7 ⟨hp, hsz⟩
        cases hq : woS C.E l1.tail with
        | error x =>
          obtain ⟨er, i⟩ := x
          obtain ⟨hb7, rfl⟩ := sof_err hp hq
          have HB7 := hide ((unhide H6).but.trans (But2.of hb7))
          have HQ5 : Hid (RR = .error (er, i)) := hide (by rw [unhide HQ4, hq, sbd_err])
          clear hp hb7 hq hsz
          unfold thr
          go_wp2_with fail
          exact ⟨rfl, tpost_err (unhide HQ5) (unhide HB7) rfl⟩
        | ok x =>
          obtain ⟨t, r⟩ := x
          have htz := hsz t r hq
          obtain ⟨hb7, rfl, hR7⟩ := sof_ok hp hq
          have h7 := (unhide H6).next (unhide HS) hb7 hR7
          have c22 := h7.stm.cell (k := 22) (show S.cells[22]? = some (.string S.ye) from rfl)
          have f22 := h7.stm.fz 22
          have H5 := hide (h7.ye (unhide HS) htz)
          have HQ4 : Hid (RR = wfS C.E true { P with ye := t } r) := hide (by rw [unhide HQ4, hq, sbd_ok])
          clear hp hb7 hq hsz hR7 h7 HW6 H6
          go_wp2_with fail
          clear c22 f22
          have HIF := hide (fun w => isWord_any (ahd C.E 0 r) ⟨#[70]⟩ w)
          have HT8 := hide (unhide HTK _ r (unhide H5).rdr)
          generalize htv : tokV (ahd C.E 0 r) = tv2 at *
          clear htv
          refine (unhide HT8).mono ?_
          rintro e w8 ⟨rfl, hb8⟩
          have H8 := hide ((unhide H5).below hb8)
          clear hb8 HT8
          cases h8 : isW (ahd C.E 0 r) ⟨#[70]⟩
          · rw [h8] at HIF
            have HQ5 : Hid (RR = .ok (_, r)) := hide ((unhide HQ4).trans (wfS_yes h8))
            clear h8
            go_wp2_with fail
            refine (unhide HIF _).mono ?_
            rintro e w9 ⟨rfl, hb9⟩
            have H9 := hide ((unhide H8).below hb9)
            clear hb9 HIF
            go_wp2_with fail
            (first | go_end0 | refine bodyPost_ret (results_none rfl _ _ _) rfl ?_)
            exact (unhide H9).done (unhide HQ5)
          · rw [h8] at HIF
            have HNE8 := hide (isW_ne h8)
            have HQ4 := hide ((unhide HQ4).trans (wfS_f h8))
            clear h8
            go_wp2_with fail
            refine (unhide HIF _).mono ?_
            rintro e w9 ⟨rfl, hb9⟩
            have H9 := hide ((unhide H8).below hb9)
            have HP9 := hide (unhide HPS w9 r (unhide H9).rdr (unhide HNE8))
            clear hb9 HIF
            go_wp2_with fail
            refine (unhide HP9).mono ?_
            rintro e w10 ⟨rfl, hb10, hR10⟩
            have H10 := hide ((unhide H9).next (unhide HS) hb10 hR10)
            have HW10 := hide (unhide HWO w10 r.tail hR10)
            clear hb10 hR10 HP9
            go_wp2_with fail
            refine (unhide HW10).mono ?_
            rintro e w7 ⟨hp, hsz⟩
            cases hq : woS C.E r.tail with
            | error x =>
              obtain ⟨er, i⟩ := x
              obtain ⟨hb7, rfl⟩ := sof_err hp hq
              have HB7 := hide ((unhide H10).but.trans (But2.of hb7))
              have HQ5 : Hid (RR = .error (er, i)) := hide (by rw [unhide HQ4, hq, sbd_err])
              clear hp hb7 hq hsz
              unfold thr
              go_wp2_with fail
              exact ⟨rfl, tpost_err (unhide HQ5) (unhide HB7) rfl⟩
            | ok x =>
              obtain ⟨t2, r2⟩ := x
              have htz2 := hsz t2 r2 hq
              obtain ⟨hb7, rfl, hR7⟩ := sof_ok hp hq
              have h7 := (unhide H10).next (unhide HS) hb7 hR7
              have c22 := h7.stm.cell (k := 23) (show ({ S with ye := t }).cells[23]? = some (.string ({ S with ye := t }).no) from rfl)
              have f22 := h7.stm.fz 23
              have H8 := hide (h7.no (unhide HS) htz2)
              have HQ5 : Hid (RR = .ok ({ { P with ye := t } with no := t2 }, r2)) := hide (by rw [unhide HQ4, hq, sbd_ok])
              clear hp hb7 hq hsz hR7 h7
              go_wp2_with fail
              (first | go_end0 | refine bodyPost_ret (results_none rfl _ _ _) rfl ?_)
              exact (unhide H8).done (unhide HQ5)
    · rw [h2] at HIS
      have HQ4 := hide (unhide HQ1 h2)
      have HW := hide (fun w h => unhide HWO w l1 h)
      clear h2 HQ1 HQ2 HQ3 HIW HPS HST HTK HWO
      go_wp2_with fail
      refine (unhide HIS _).mono ?_
      rintro e w3 ⟨rfl, hb3⟩
      have H3 := hide ((unhide H2).below hb3)
      have HW3 := hide (unhide HW w3 (unhide H3).rdr)
      clear hb3 HIS HW
      go_wp2_with fail
      refine (unhide HW3).mono ?_
      rintro e w7 ⟨hp, hsz⟩
      cases hq : woS C.E l1 with
      | error x =>
        obtain ⟨er, i⟩ := x
        obtain ⟨hb7, rfl⟩ := sof_err hp hq
        have HB7 := hide ((unhide H3).but.trans (But2.of hb7))
        have HQ5 : Hid (RR = .error (er, i)) := hide (by rw [unhide HQ4, hq, sbd_err])
        clear hp hb7 hq hsz
        unfold thr
        go_wp2_with fail
        exact ⟨rfl, tpost_err (unhide HQ5) (unhide HB7) rfl⟩
      | ok x =>
        obtain ⟨t2, r2⟩ := x
        have htz2 := hsz t2 r2 hq
        obtain ⟨hb7, rfl, hR7⟩ := sof_ok hp hq
        have h7 := (unhide H3).next (unhide HS) hb7 hR7
        have c22 := h7.stm.cell (k := 21) (show (S).cells[21]? = some (.string (S).al) from rfl)
        have f22 := h7.stm.fz 21
        have H8 := hide (h7.al (unhide HS) htz2)
        have HQ5 : Hid (RR = .ok ({ P with al := t2 }, r2)) := hide (by rw [unhide HQ4, hq, sbd_ok])
        clear hp hb7 hq hsz hR7 h7
        go_wp2_with fail
        (first | go_end0 | refine bodyPost_ret (results_none rfl _ _ _) rfl ?_)
        exact (unhide H8).done (unhide HQ5)
end Go.Proofs.YtpkmamgleofimaaGreatDoor
