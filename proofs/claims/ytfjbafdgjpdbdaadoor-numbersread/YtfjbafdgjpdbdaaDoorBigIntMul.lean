/- What Mul does on the document's numbers of any size. -/
import Derived.Test.YtfjbafdgjpdbdaaDoorBigIntOps
namespace Go.Proofs.YtfjbafdgjpdbdaaDoor
open Go.RowKit

set_option maxHeartbeats 8000000 in
theorem imul_any (z x y : Nat) (m n : Int) (w : World) (hz : IntBlock w z) (hx : IntAt w x m) (hy : IntAt w y n) (lm : (wordsOf m.natAbs).length ≤ 10000000) (ln : (wordsOf n.natAbs).length ≤ 10000000) :
    Calls Tryd.prog 44 #[ptr z, ptr x, ptr y] w fun e w' => e = .returned (ptr z) ∧ IntAt w' z (m * n) ∧ But z w w' := by
  obtain ⟨u, hxr, hu⟩ := hx
  obtain ⟨v, hyr, hv⟩ := hy
  have x0 : w.cell? ⟨x, 0, none⟩ = some (.bool (decide (m < 0))) := by rw [cell_row hxr]; rfl
  have x1 : w.cell? ⟨x, 1, none⟩ = some u := by rw [cell_row hxr]; rfl
  have y0 : w.cell? ⟨y, 0, none⟩ = some (.bool (decide (n < 0))) := by rw [cell_row hyr]; rfl
  have y1 : w.cell? ⟨y, 1, none⟩ = some v := by rw [cell_row hyr]; rfl
  obtain ⟨s, hs⟩ : ∃ s, s = decide (m < 0) := ⟨_, rfl⟩
  obtain ⟨t, ht⟩ : ∃ t, t = decide (n < 0) := ⟨_, rfl⟩
  rw [← hs] at x0
  rw [← ht] at y0
  have HU := hide hu
  have HV := hide hv
  have HZ := hide hz
  have HP := hide (prod_signed m n)
  have lp := prod_len _ _ lm ln
  rw [← hs, ← ht] at HP
  clear hu hv hz hxr hyr hs ht
  go_enter Tryd.func44, Tryd.ntmps44
  go_wp2_with fail
  go_region_with
    (first
      | (go_at_call 58; refine (mulw_any m.natAbs n.natAbs u v _ (unhide HU).drew (unhide HV).drew (by omega) (by omega)).mono ?_; rintro e w1 ⟨⟨r, rfl, hr⟩, hb⟩; have k0 := (hb.cell (p := ⟨x, 0, none⟩) (lt_of_cell x0)).trans x0; have k2 := (hb.cell (p := ⟨y, 0, none⟩) (lt_of_cell y0)).trans y0)
      | (go_at_call 46; refine (give_any z (m.natAbs * n.natAbs) _ _ _ ((unhide HZ).drew.below hb) hr (by omega)).mono ?_; rintro e w2 ⟨rfl, hi, hb2⟩))
  all_goals go_wp2
  all_goals go_ret
  all_goals exact ⟨rfl, by rw [← unhide HP]; exact hi, (But.of_below (undrew hb)).trans hb2⟩
end Go.Proofs.YtfjbafdgjpdbdaaDoor
