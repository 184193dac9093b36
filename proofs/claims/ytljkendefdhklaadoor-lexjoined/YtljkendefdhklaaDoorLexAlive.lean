/- The laws' closed fact. -/
import Derived.Test.YtljkendefdhklaaDoorLexEq
namespace Go.Proofs.YtljkendefdhklaaDoor
open Go.RowKit

def lineX : ByteArray := ⟨#[88, 32, 61, 32, 39, 97, 39]⟩
theorem line_x : lineP lineX = ([⟨1, ⟨#[88]⟩, 0⟩, ⟨5, ⟨#[61]⟩, 2⟩, ⟨3, ⟨#[97]⟩, 4⟩], 0, 0) := by rfl

set_option maxRecDepth 10000 in
set_option maxHeartbeats 800000 in
theorem alive_any (w : World) (m : Int) (hm : w.cell? ⟨0, 0, none⟩ = some (.int .i64 m)) :
    Calls Tryd.prog 9 #[] w fun e w' => e = .returned (.bool true) ∧ Below w.heap.size w w' := by
  have H1 := hide (show Calls Tryd.prog 6 #[.string ⟨#[88, 32, 61, 32, 39, 97, 39]⟩] w fun e w' => LinePost lineX w e w' from line_any lineX w (by unfold maxLen; decide) m hm)
  unfold LinePost fau at H1
  rw [line_x] at H1
  dsimp only at H1
  go_enter Tryd.func9, Tryd.ntmps9
  go_wp2_with fail
  refine (unhide H1).mono ?_
  rintro e w1 ⟨v1, rfl, hr1, hb1⟩
  obtain ⟨g, cap, rfl, hc1, -⟩ := hr1.form (by simp)
  obtain ⟨c0, c1, c2⟩ := tok3 (i := 2) (hr1.later ((Below.refl _ _).alloc (Nat.le_refl _) (.cells #[.int .i64 0, .int .i64 0] 25))) rfl rfl
  have i2 := idx_run (i := 2) (n := 3) (g := g) (cap := cap) Tryd.underlying22 size_tok (by decide)
  have HB := hide hb1
  clear hr1 hb1
  go_wp2_with fail
  go_ret
  exact ⟨rfl, (unhide HB).trans (((Below.refl _ _).alloc (Nat.le_refl _) _).mono (unhide HB).size)⟩
end Go.Proofs.YtljkendefdhklaaDoor
