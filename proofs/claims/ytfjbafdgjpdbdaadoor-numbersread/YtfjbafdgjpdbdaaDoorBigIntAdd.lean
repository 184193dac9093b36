/- What Add does on the document's numbers of any size, of the same block too. -/
import Derived.Test.YtfjbafdgjpdbdaaDoorBigIntOps
namespace Go.Proofs.YtfjbafdgjpdbdaaDoor
open Go.RowKit

set_option maxHeartbeats 40000000 in
theorem iadd_any (z x y : Nat) (m n : Int) (w : World) (hz : IntBlock w z) (hx : IntAt w x m) (hy : IntAt w y n) (lm : (wordsOf m.natAbs).length ≤ 10000000) (ln : (wordsOf n.natAbs).length ≤ 10000000) :
    Calls Tryd.prog 45 #[ptr z, ptr x, ptr y] w fun e w' => e = .returned (ptr z) ∧ IntAt w' z (m + n) ∧ But z w w' := by
  obtain ⟨u, hxr, hu⟩ := hx
  obtain ⟨v, hyr, hv⟩ := hy
  have x0 : w.cell? ⟨x, 0, none⟩ = some (.bool (decide (m < 0))) := by rw [cell_row hxr]; rfl
  have x1 : w.cell? ⟨x, 1, none⟩ = some u := by rw [cell_row hxr]; rfl
  have y0 : w.cell? ⟨y, 0, none⟩ = some (.bool (decide (n < 0))) := by rw [cell_row hyr]; rfl
  have y1 : w.cell? ⟨y, 1, none⟩ = some v := by rw [cell_row hyr]; rfl
  have C := hide (sum_any (decide (m < 0)) (decide (n < 0)) m.natAbs n.natAbs u v w.drew hu.drew hv.drew lm ln)
  rw [signedOf_self, signedOf_self] at C
  generalize decide (m < 0) = s at *
  generalize decide (n < 0) = t at *
  have HZ := hide hz
  have HL := hide (fun k => sum_len m.natAbs n.natAbs k lm ln)
  clear hu hv hz hxr hyr
  go_enter Tryd.func45, Tryd.ntmps45
  go_wp2_with fail
  go_region_with
    (first
      | (go_at_call 59; refine (unhide C).mono ?_; rintro e w1 ⟨⟨b, r, k, rfl, hr, hk, hkl⟩, hb⟩)
      | (go_at_call 46; refine (give_any z k _ _ _ ((unhide HZ).drew.below hb) hr (Nat.le_trans (unhide HL k hkl) (by decide))).mono ?_; rintro e w2 ⟨rfl, hi, hb2⟩))
  all_goals go_wp2
  all_goals go_ret
  all_goals exact ⟨rfl, by rw [← hk]; exact hi, (But.of_below (undrew hb)).trans hb2⟩
end Go.Proofs.YtfjbafdgjpdbdaaDoor
