/- What sum, Abs, Neg, Set, Add and Sub do on the document's numbers of any size. -/
import Derived.Test.YtfjbafdgjpdbdaaDoorBigInt
namespace Go.Proofs.YtfjbafdgjpdbdaaDoor
open Go.RowKit

theorem cell_but {z x j : Nat} {w w' : World} (h : But z w w') (hx : x ≠ z) (hl : (⟨x, j, none⟩ : Addr).block < w.heap.size) : w'.cell? ⟨x, j, none⟩ = w.cell? ⟨x, j, none⟩ := World.cell?_of_block (w := w) (h.block x hl hx)
theorem undrew {w w' : World} (h : Below w.drew.heap.size w.drew w') : Below w.heap.size w w' := ⟨h.os, h.tape, h.output, h.size, h.block⟩
theorem sum_len (m n k : Nat) (lm : (wordsOf m).length ≤ 10000000) (ln : (wordsOf n).length ≤ 10000000) (hk : k ≤ m + n) : (wordsOf k).length ≤ 20000000 := by
  obtain ⟨L, hL⟩ : ∃ L, L = max (wordsOf m).length (wordsOf n).length := ⟨_, rfl⟩
  have h1 : m < 4294967296 ^ L := Nat.lt_of_lt_of_le (lt_wordsOf m) (Nat.pow_le_pow_right (by decide) (by omega))
  have h2 : n < 4294967296 ^ L := Nat.lt_of_lt_of_le (lt_wordsOf n) (Nat.pow_le_pow_right (by decide) (by omega))
  have h3 : k < 4294967296 ^ (L + 1) := by
    rw [Nat.pow_succ]
    generalize 4294967296 ^ L = P at *
    omega
  have := wordsOf_length_le k _ h3
  omega

set_option maxHeartbeats 1000000 in
theorem sum_any (s t : Bool) (m n : Nat) (u v : Value) (w : World) (hu : NumAt w u m) (hv : NumAt w v n) (lm : (wordsOf m).length ≤ 10000000) (ln : (wordsOf n).length ≤ 10000000) :
    Calls Tryd.prog 59 #[.bool s, u, .bool t, v] w fun e w' => (∃ b r k, e = .returned (.tuple #[.bool b, r]) ∧ NumAt w' r k ∧ signedOf b k = signedOf s m + signedOf t n ∧ k ≤ m + n) ∧ Below w.heap.size w w' := by
  by_cases hst : s = t
  · subst hst
    have C := hide (addw_any m n u v w hu hv (by omega) (by omega))
    have HS := hide (show signedOf s (m + n) = signedOf s m + signedOf s n by cases s <;> simp [signedOf] <;> omega)
    clear hu hv
    go_enter Tryd.func59, Tryd.ntmps59
    go_wp2_with fail
    refine (unhide C).mono ?_
    rintro e w1 ⟨⟨r, rfl, hr⟩, hb⟩
    go_wp2
    go_ret2
    exact ⟨⟨s, r, m + n, rfl, hr, unhide HS, Nat.le_refl _⟩, hb⟩
  · have hb : (s == t) = false := by cases s <;> cases t <;> simp_all
    have C1 := hide (cmp_any m n u v w hu hv (by omega) (by omega))
    by_cases h : n ≤ m
    · have C2 := fun w1 (hb : Below w.heap.size w w1) => hide (subw_any m n u v w1 (hu.below hb) (hv.below hb) h (by omega))
      have HS := hide (show signedOf s (m - n) = signedOf s m + signedOf t n by cases s <;> cases t <;> simp_all [signedOf] <;> omega)
      have ho : ordOf m n = 0 ∨ ordOf m n = 1 := by
        by_cases e : m = n
        · exact .inl (ordOf_eq e)
        · exact .inr (ordOf_gt (by omega))
      generalize ordOf m n = o at *
      clear hu hv
      go_enter Tryd.func59, Tryd.ntmps59
      go_wp2_with fail
      refine (unhide C1).mono ?_
      rintro e w1 ⟨rfl, hb1⟩
      have C3 := C2 w1 hb1
      clear C2 C1
      rcases ho with rfl | rfl
      all_goals
        go_wp2_with fail
        refine (unhide C3).mono ?_
        rintro e w2 ⟨⟨r, rfl, hr⟩, hb2⟩
        go_wp2
        go_ret2
        exact ⟨⟨s, r, m - n, rfl, hr, unhide HS, by omega⟩, bnext hb1 hb2⟩
    · have C2 := fun w1 (hb : Below w.heap.size w w1) => hide (subw_any n m v u w1 (hv.below hb) (hu.below hb) (by omega) (by omega))
      have HS := hide (show signedOf t (n - m) = signedOf s m + signedOf t n by cases s <;> cases t <;> simp_all [signedOf] <;> omega)
      rw [ordOf_lt (by omega)] at C1
      clear hu hv
      go_enter Tryd.func59, Tryd.ntmps59
      go_wp2_with fail
      refine (unhide C1).mono ?_
      rintro e w1 ⟨rfl, hb1⟩
      have C3 := C2 w1 hb1
      clear C2 C1
      go_wp2_with fail
      refine (unhide C3).mono ?_
      rintro e w2 ⟨⟨r, rfl, hr⟩, hb2⟩
      go_wp2
      go_ret2
      exact ⟨⟨t, r, n - m, rfl, hr, unhide HS, by omega⟩, bnext hb1 hb2⟩

theorem signedOf_not (n : Int) : signedOf (!decide (n < 0)) n.natAbs = -n := by
  unfold signedOf
  by_cases h : n < 0
  · simp [h]; omega
  · simp [h]; omega
theorem prod_len (m n : Nat) (lm : (wordsOf m).length ≤ 10000000) (ln : (wordsOf n).length ≤ 10000000) : (wordsOf (m * n)).length ≤ 20000000 := by
  have h : m * n < 4294967296 ^ ((wordsOf m).length + (wordsOf n).length) := by
    rw [Nat.pow_add]
    exact Nat.mul_lt_mul'' (lt_wordsOf m) (lt_wordsOf n)
  have := wordsOf_length_le _ _ h
  omega
theorem prod_signed (m n : Int) : signedOf (!(decide (m < 0) == decide (n < 0))) (m.natAbs * n.natAbs) = m * n := by
  have := Int.natAbs_mul m n
  unfold signedOf
  by_cases h1 : m < 0
  · by_cases h2 : n < 0
    · have := Int.mul_pos_of_neg_of_neg h1 h2
      simp [h1, h2]; omega
    · have := Int.mul_nonpos_of_nonpos_of_nonneg (show m ≤ 0 by omega) (show 0 ≤ n by omega)
      simp [h1, h2]; omega
  · by_cases h2 : n < 0
    · have := Int.mul_nonpos_of_nonneg_of_nonpos (show 0 ≤ m by omega) (show n ≤ 0 by omega)
      simp [h1, h2]; omega
    · have := Int.mul_nonneg (show 0 ≤ m by omega) (show 0 ≤ n by omega)
      simp [h1, h2]; omega

set_option maxHeartbeats 1000000 in
theorem iadd_fresh (z x y : Nat) (m n : Int) (w : World) (hz : IntBlock w z) (nx : x ≠ z) (ny : y ≠ z) (hx : IntAt w x m) (hy : IntAt w y n) (lm : (wordsOf m.natAbs).length ≤ 10000000) (ln : (wordsOf n.natAbs).length ≤ 10000000) :
    Calls Tryd.prog 45 #[ptr z, ptr x, ptr y] w fun e w' => e = .returned (ptr z) ∧ IntAt w' z (m + n) ∧ But z w w' := by
  obtain ⟨u, hxr, hu⟩ := hx
  obtain ⟨v, hyr, hv⟩ := hy
  have x0 : w.cell? ⟨x, 0, none⟩ = some (.bool (decide (m < 0))) := by rw [cell_row hxr]; rfl
  have x1 : w.cell? ⟨x, 1, none⟩ = some u := by rw [cell_row hxr]; rfl
  have y0 : w.cell? ⟨y, 0, none⟩ = some (.bool (decide (n < 0))) := by rw [cell_row hyr]; rfl
  have y1 : w.cell? ⟨y, 1, none⟩ = some v := by rw [cell_row hyr]; rfl
  have C := hide (sum_any (decide (m < 0)) (decide (n < 0)) m.natAbs n.natAbs u v w.drew hu.drew hv.drew lm ln)
  rw [signedOf_self, signedOf_self] at C
  have HL := hide (fun k => sum_len m.natAbs n.natAbs k lm ln)
  generalize decide (m < 0) = s at *
  generalize decide (n < 0) = t at *
  have HZ := hide hz
  clear hu hv hz hxr hyr
  go_enter Tryd.func45, Tryd.ntmps45
  go_wp2_with fail
  go_region_held3 (fun w' => w'.cell? ⟨x, 0, none⟩ = some (.bool s) ∧ w'.cell? ⟨x, 1, none⟩ = some u ∧ w'.cell? ⟨y, 0, none⟩ = some (.bool t) ∧ w'.cell? ⟨y, 1, none⟩ = some v) (go_keep)
    (first
      | (go_at_call 59; refine (unhide C).mono ?_; rintro e w1 ⟨⟨b, r, k, rfl, hr, hk, hkl⟩, hb⟩; have k0 := (hb.cell (p := ⟨x, 0, none⟩) (lt_of_cell x0)).trans x0; have k1 := (hb.cell (p := ⟨x, 1, none⟩) (lt_of_cell x1)).trans x1; have k2 := (hb.cell (p := ⟨y, 0, none⟩) (lt_of_cell y0)).trans y0; have k3 := (hb.cell (p := ⟨y, 1, none⟩) (lt_of_cell y1)).trans y1)
      | (go_at_call 46; refine (give_any z k _ _ _ ((unhide HZ).drew.below hb) hr (Nat.le_trans (unhide HL k hkl) (by decide))).mono ?_; rintro e w2 ⟨rfl, hi, hb2⟩; have j0 := (cell_but hb2 nx (lt_of_cell k0)).trans k0; have j1 := (cell_but hb2 nx (lt_of_cell k1)).trans k1; have j2 := (cell_but hb2 ny (lt_of_cell k2)).trans k2; have j3 := (cell_but hb2 ny (lt_of_cell k3)).trans k3))
  all_goals go_wp2
  all_goals go_ret
  all_goals exact ⟨rfl, by rw [← hk]; exact hi, (But.of_below (undrew hb)).trans hb2⟩

set_option maxHeartbeats 1000000 in
theorem imul_fresh (z x y : Nat) (m n : Int) (w : World) (hz : IntBlock w z) (nx : x ≠ z) (ny : y ≠ z) (hx : IntAt w x m) (hy : IntAt w y n) (lm : (wordsOf m.natAbs).length ≤ 10000000) (ln : (wordsOf n.natAbs).length ≤ 10000000) :
    Calls Tryd.prog 44 #[ptr z, ptr x, ptr y] w fun e w' => e = .returned (ptr z) ∧ IntAt w' z (m * n) ∧ But z w w' := by
  obtain ⟨u, hxr, hu⟩ := hx
  obtain ⟨v, hyr, hv⟩ := hy
  have x0 : w.cell? ⟨x, 0, none⟩ = some (.bool (decide (m < 0))) := by rw [cell_row hxr]; rfl
  have x1 : w.cell? ⟨x, 1, none⟩ = some u := by rw [cell_row hxr]; rfl
  have y0 : w.cell? ⟨y, 0, none⟩ = some (.bool (decide (n < 0))) := by rw [cell_row hyr]; rfl
  have y1 : w.cell? ⟨y, 1, none⟩ = some v := by rw [cell_row hyr]; rfl
  have C := hide (mulw_any m.natAbs n.natAbs u v w.drew hu.drew hv.drew (by omega) (by omega))
  have HP := hide (prod_signed m n)
  have lp := hide (prod_len _ _ lm ln)
  generalize decide (m < 0) = s at *
  generalize decide (n < 0) = t at *
  have HZ := hide hz
  clear hu hv hz hxr hyr
  go_enter Tryd.func44, Tryd.ntmps44
  go_wp2_with fail
  go_region_held3 (fun w' => w'.cell? ⟨x, 0, none⟩ = some (.bool s) ∧ w'.cell? ⟨x, 1, none⟩ = some u ∧ w'.cell? ⟨y, 0, none⟩ = some (.bool t) ∧ w'.cell? ⟨y, 1, none⟩ = some v) (go_keep)
    (first
      | (go_at_call 58; refine (unhide C).mono ?_; rintro e w1 ⟨⟨r, rfl, hr⟩, hb⟩; have k0 := (hb.cell (p := ⟨x, 0, none⟩) (lt_of_cell x0)).trans x0; have k1 := (hb.cell (p := ⟨x, 1, none⟩) (lt_of_cell x1)).trans x1; have k2 := (hb.cell (p := ⟨y, 0, none⟩) (lt_of_cell y0)).trans y0; have k3 := (hb.cell (p := ⟨y, 1, none⟩) (lt_of_cell y1)).trans y1)
      | (go_at_call 46; refine (give_any z (m.natAbs * n.natAbs) _ _ _ ((unhide HZ).drew.below hb) hr (Nat.le_trans (unhide lp) (by decide))).mono ?_; rintro e w2 ⟨rfl, hi, hb2⟩; have j0 := (cell_but hb2 nx (lt_of_cell k0)).trans k0; have j1 := (cell_but hb2 nx (lt_of_cell k1)).trans k1; have j2 := (cell_but hb2 ny (lt_of_cell k2)).trans k2; have j3 := (cell_but hb2 ny (lt_of_cell k3)).trans k3))
  all_goals go_wp2
  all_goals go_ret
  all_goals exact ⟨rfl, by rw [← unhide HP]; exact hi, (But.of_below (undrew hb)).trans hb2⟩

end Go.Proofs.YtfjbafdgjpdbdaaDoor
