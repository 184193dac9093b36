/- What QuoRem, Quo and Rem do on the document's numbers of 64 bits without their signs. -/
import Derived.Test.YtfjbafdgjpdbdaaDoorBigTell
namespace Go.Proofs.YtfjbafdgjpdbdaaDoor
open Go.RowKit

/-- Nothing but two blocks and what is new has changed. -/
structure But2 (z r : Nat) (w w' : World) : Prop where
  os : w'.os = w.os
  tape : w'.tape = w.tape
  output : w'.output = w.output
  size : w.heap.size ≤ w'.heap.size
  block : ∀ k, k < w.heap.size → k ≠ z → k ≠ r → w'.heap[k]? = w.heap[k]?
theorem But2.mk3 {z r : Nat} {a b c d : World} (h : Below a.heap.size a b) (k : But z b c) (l : But r c d) : But2 z r a d :=
  ⟨(l.os.trans k.os).trans h.os, (l.tape.trans k.tape).trans h.tape, (l.output.trans k.output).trans h.output, Nat.le_trans (Nat.le_trans h.size k.size) l.size,
    fun i hi h1 h2 => ((l.block i (Nat.lt_of_lt_of_le (Nat.lt_of_lt_of_le hi h.size) k.size) h2).trans (k.block i (Nat.lt_of_lt_of_le hi h.size) h1)).trans (h.block i hi)⟩
theorem But2.below {z r B : Nat} {b c : World} (k : But2 z r b c) (hz : B ≤ z) (hr : B ≤ r) (hB : B ≤ b.heap.size) : Below B b c :=
  ⟨k.os, k.tape, k.output, k.size, fun i hi => k.block i (by omega) (by omega) (by omega)⟩
theorem quo_signed (m n : Int) : signedOf (!(decide (m < 0) == decide (n < 0))) (m.natAbs / n.natAbs) = m.tdiv n := by
  have h1 : (m.tdiv n).natAbs = m.natAbs / n.natAbs := Int.natAbs_tdiv m n
  have s1 : 0 ≤ m → 0 ≤ n → 0 ≤ m.tdiv n := fun h h' => Int.tdiv_nonneg h h'
  have s2 : m ≤ 0 → n ≤ 0 → 0 ≤ m.tdiv n := fun h h' => Int.tdiv_nonneg_of_nonpos_of_nonpos h h'
  have s3 : m ≤ 0 → 0 ≤ n → m.tdiv n ≤ 0 := fun h h' => by
    have := Int.tdiv_nonneg (show 0 ≤ -m by omega) h'
    rw [Int.neg_tdiv] at this; omega
  have s4 : 0 ≤ m → n ≤ 0 → m.tdiv n ≤ 0 := fun h h' => by
    have := Int.tdiv_nonneg h (show 0 ≤ -n by omega)
    rw [Int.tdiv_neg] at this; omega
  rw [← h1]
  clear h1
  generalize m.tdiv n = q at *
  unfold signedOf
  by_cases h : m < 0
  · by_cases h' : n < 0
    · simp [h, h']; omega
    · simp [h, h']; omega
  · by_cases h' : n < 0
    · simp [h, h']; omega
    · simp [h, h']; omega
theorem rem_signed (m n : Int) : signedOf (decide (m < 0)) (m.natAbs % n.natAbs) = m.tmod n := by
  have h1 := Int.natAbs_tmod m n
  have s1 : 0 ≤ m → 0 ≤ m.tmod n := fun h => Int.tmod_nonneg n h
  have s2 : m ≤ 0 → m.tmod n ≤ 0 := fun h => by
    have := Int.tmod_nonneg n (show 0 ≤ -m by omega)
    rw [Int.neg_tmod] at this; omega
  unfold signedOf
  by_cases h : m < 0
  · simp only [h, decide_true, if_true]; omega
  · simp only [h, decide_false, Bool.false_eq_true, if_false]; omega
theorem div_len {m : Nat} (n : Nat) (h : m < 18446744073709551616) : (wordsOf (m / n)).length ≤ 2 := wordsOf_len_two (Nat.lt_of_le_of_lt (Nat.div_le_self _ _) h)
theorem mod_len {m : Nat} (n : Nat) (h : m < 18446744073709551616) : (wordsOf (m % n)).length ≤ 2 := wordsOf_len_two (Nat.lt_of_le_of_lt (Nat.mod_le _ _) h)

set_option maxHeartbeats 2000000 in
theorem quoRem_any (z x y r : Nat) (m n : Int) (w : World) (hz : IntBlock w z) (hr : IntBlock w r) (hzr : z ≠ r) (hx : IntAt w x m) (hy : IntAt w y n) (hm : m.natAbs < 18446744073709551616) (hn : n.natAbs < 18446744073709551616) (h0 : n ≠ 0) :
    Calls Tryd.prog 30 #[ptr z, ptr x, ptr y, ptr r] w fun e w' => e = .returned (.tuple #[ptr z, ptr r]) ∧ IntAt w' z (m.tdiv n) ∧ IntAt w' r (m.tmod n) ∧ But2 z r w w' := by
  obtain ⟨u, hxr, hu⟩ := hx
  obtain ⟨v, hyr, hv⟩ := hy
  have x0 : w.cell? ⟨x, 0, none⟩ = some (.bool (decide (m < 0))) := by rw [cell_row hxr]; rfl
  have x1 : w.cell? ⟨x, 1, none⟩ = some u := by rw [cell_row hxr]; rfl
  have y0 : w.cell? ⟨y, 0, none⟩ = some (.bool (decide (n < 0))) := by rw [cell_row hyr]; rfl
  have y1 : w.cell? ⟨y, 1, none⟩ = some v := by rw [cell_row hyr]; rfl
  have C := hide (div_any2 m.natAbs n.natAbs u v w.drew.drew hu.drew.drew hv.drew.drew hm hn (by omega))
  have HQ := hide (quo_signed m n)
  have HR := hide (rem_signed m n)
  have l1 := div_len n.natAbs hm
  have l2 := mod_len n.natAbs hm
  generalize decide (m < 0) = s at *
  generalize decide (n < 0) = t at *
  have HZ := hide hz
  have HRB := hide hr
  clear hu hv hz hr hxr hyr
  go_enter Tryd.func30, Tryd.ntmps30
  go_wp2_with fail
  go_region
  go_wp2_with fail
  go_region_held3 (fun w' => w'.cell? ⟨x, 1, none⟩ = some u ∧ w'.cell? ⟨y, 1, none⟩ = some v) (go_keep)
    (first
      | (go_at_call 51; refine (unhide C).mono ?_; rintro e w1 ⟨⟨q, d, rfl, hq, hd⟩, hb⟩; have k1 := (hb.cell (p := ⟨x, 1, none⟩) (lt_of_cell x1)).trans x1; have k3 := (hb.cell (p := ⟨y, 1, none⟩) (lt_of_cell y1)).trans y1))
  have hb' := undrew (undrew hb)
  clear hb
  go_wp2_with fail
  refine (give_any z (m.natAbs / n.natAbs) _ _ _ ((unhide HZ).below hb') hq (by omega)).mono ?_
  rintro e w2 ⟨rfl, hi, hb2⟩
  have hd2 := hd.but hb2 ((unhide HZ).below hb')
  go_wp2_with fail
  refine (give_any r (m.natAbs % n.natAbs) _ _ _ (((unhide HRB).below hb').but hb2 (Ne.symm hzr)) hd2 (by omega)).mono ?_
  rintro e w3 ⟨rfl, hi3, hb3⟩
  have hi2 := hi.but hb3 (((unhide HRB).below hb').but hb2 (Ne.symm hzr)) hzr
  go_wp2
  go_ret2
  exact ⟨rfl, by rw [← unhide HQ]; exact hi2, by rw [← unhide HR]; exact hi3, But2.mk3 hb' hb2 hb3⟩

end Go.Proofs.YtfjbafdgjpdbdaaDoor
