/- What tell does. -/
import Derived.Test.YtkggmodabpjobaaDoorScanRep
import Derived.Deep.QuietTactic
import Derived.BigQuiet
namespace Go.Proofs.YtkggmodabpjobaaDoor
open Go.RowKit

set_option maxRecDepth 100000 in
set_option maxHeartbeats 1000000 in
/-- There is no room for it. -/
theorem tell_over {w : World} {B g : Nat} {m : MS} {N : List Nd} {O : List Int} {W : List Wr} {C : List Cr} {G S : List Gft} (h : Rep w B g m N O W C G S) (nm t : ByteArray) (ht : m.room < m.told + 1) (hb : m.told < 1000000000000000000) :
    Calls Tryd.prog 32 #[.pointer (some ⟨g, 0, none⟩), .string nm, .string t] w fun e w' => e = .returned (.tuple #[]) ∧ Rep w' B g { m with told := m.told + 1 } N O W C G S ∧ Fr g m { m with told := m.told + 1 } w w' := by
  have c13 := h.c13
  have c14 := h.c14
  have f13 := h.frozen 13
  have H := hide (h.put 13 (.int .i64 ((m.told : Int) + 1)) { m with told := m.told + 1 } rfl rfl rfl rfl rfl rfl rfl)
  have HB := hide (Fr.cell (g := g) (m := m) (m' := { m with told := m.told + 1 }) (w := w) 13 (.int .i64 ((m.told : Int) + 1)) rfl rfl rfl rfl rfl rfl)
  have h1 : ¬ ((m.told : Int) + 1 ≤ (m.room : Int)) := by omega
  clear h
  go_enter Tryd.func32, Tryd.ntmps32
  go_wp2_with fail
  go_quiet (fail)
  go_wp2_with fail
  go_end0
  exact ⟨rfl, (unhide H).later (below_drewN (Below.refl _ _) _), (unhide HB).trans (Fr.later (below_drewN (Below.refl _ _) _))⟩

set_option maxRecDepth 100000 in
set_option maxHeartbeats 1000000 in
/-- There is room. -/
theorem tell_any {w : World} {B g : Nat} {m : MS} {N : List Nd} {O : List Int} {W : List Wr} {C : List Cr} {G S : List Gft} (h : Rep w B g m N O W C G S) (nm t : ByteArray) (ht : m.told + 1 ≤ m.room) (hb : m.told < 1000000000000000000) (hS : S.length ≤ 100000000000) :
    Calls Tryd.prog 32 #[.pointer (some ⟨g, 0, none⟩), .string nm, .string t] w fun e w' => e = .returned (.tuple #[]) ∧ ∃ v, Rep w' B g { m with told := m.told + 1, sv := v } N O W C G (S ++ [(nm, t)]) ∧ Fr g m { m with told := m.told + 1, sv := v } w w' := by
  have c13 := h.c13
  have c14 := h.c14
  have c12 := h.c12
  have f13 := h.frozen 13
  have f12 := h.frozen 12
  have H := hide (h.put 13 (.int .i64 ((m.told : Int) + 1)) { m with told := m.told + 1 } rfl rfl rfl rfl rfl rfl rfl)
  have HB := hide (Fr.cell (g := g) (m := m) (m' := { m with told := m.told + 1 }) (w := w) 13 (.int .i64 ((m.told : Int) + 1)) rfl rfl rfl rfl rfl rfl)
  have h1 : ((m.told : Int) + 1 ≤ (m.room : Int)) := by omega
  clear h
  generalize hsv : m.sv = sv at c12
  go_enter Tryd.func32, Tryd.ntmps32
  go_wp2_with fail
  go_quiet (fail)
  obtain ⟨w0, hw0⟩ : ∃ w0, w0 = (w.setCell ⟨g, 13, none⟩ (.int .i64 ((m.told : Int) + 1))).drewN nq := ⟨_, rfl⟩
  rw [← hw0]
  have h0 : Rep w0 B g { m with told := m.told + 1 } N O W C G S := by rw [hw0]; exact (unhide H).later (below_drewN (Below.refl _ _) _)
  have hB0 : Fr g m { m with told := m.told + 1 } w w0 := by rw [hw0]; exact (unhide HB).trans (Fr.later (below_drewN (Below.refl _ _) _))
  clear hw0 H HB c12 c13 c14 f13 f12
  have c12 := h0.c12
  have f12 := h0.frozen 12
  dsimp only at c12
  rw [hsv] at c12
  have HR := hide h0
  have HB := hide hB0
  clear h0 hB0
  have hbel := (Below.refl w0.heap.size w0).alloc (Nat.le_refl _) (.cells #[.string nm, .string t] 44)
  have HRow := hide (show Row _ B 44 2 gfV sv S from (show Row w0 B 44 2 gfV sv S from by rw [← hsv]; exact (unhide HR).said).later hbel)
  have hne : some g ≠ sv.ownBlock := by rw [← hsv]; exact (unhide HR).said.neBlk (unhide HR).blk (by decide)
  go_wp2_with (refine wpList_rowL Tryd.underlying30 info_gift rfl (by decide) (by decide) gfV_len gfV_one rfl (.tmp 26) (.tmp 30) rfl (B := B) (v := sv) (l := S) (unhide HRow) (Nat.le_trans (unhide HR).base hbel.size) (nm, t) w0.heap.size 1 (by simp [Act.eval]) (by simp [Act.eval]) (made_cells (at_new (w := w0) rfl) rfl) hS ?_; intro v' w9 hr9 hg9 hv9; obtain ⟨ng, nc, hv', -, -⟩ := hr9.form (by simp); rw [List.length_append, List.length_singleton] at hv'; subst hv'; have d12 := hg9.cell (cell_later hbel c12) hne; have e12 : w9.frozen? ⟨g, 12, none⟩ = false := frozen_of_row w9 g 12 _ _ (grown_blk (row_below (unhide HR).blk hbel) (fun j hj => (unhide HRow).type hj) (by decide) hg9); have H9 := hide (And.intro hr9 (And.intro hg9 hv9)); clear hr9 hg9 hv9)
  go_end0
  obtain ⟨hr9, hg9, hv9⟩ := unhide H9
  rw [← hsv] at hg9 hv9
  have hR := (unhide HR).later hbel
  exact ⟨rfl, _, hR.grownS hg9 hr9 hv9, (unhide HB).trans ((Fr.later hbel).trans (Fr.growS hg9 hv9))⟩
end Go.Proofs.YtkggmodabpjobaaDoor
