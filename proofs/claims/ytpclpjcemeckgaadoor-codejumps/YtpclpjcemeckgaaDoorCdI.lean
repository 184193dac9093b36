/- Make answers at all; CodeDepth, the law's walk. -/
import Derived.Test.YtpclpjcemeckgaaDoorCdH
namespace Go.Proofs.YtpclpjcemeckgaaDoor
open Go.RowKit

/-- An empty statement that goes to END. -/
def sE : SV := ⟨ByteArray.empty, 1, PT.nul, PT.nul, PT.nul, ByteArray.empty, ByteArray.empty, zNL, zNL, tEnd, ByteArray.empty, ByteArray.empty⟩
theorem tEnd_ne : tEnd.toList.isEmpty = false := by rw [ByteArray.toList_eq]; rfl
theorem tEnd_ok : okL tEnd = true := by unfold okL; rw [tEnd_ne]; rfl
theorem sE_wrong : sE.wrong = 0 := by
  unfold SV.wrong
  have e : sE.lbl.all okL = true := by
    show (okL ByteArray.empty && (okL tEnd && (okL ByteArray.empty && (okL ByteArray.empty && true)))) = true
    rw [tEnd_ok, okE]; rfl
  rw [if_pos e, if_neg (fun r => by
    rcases r.2 with r | r
    · have r1 : ByteArray.empty.toList.isEmpty = false := r; rw [noE] at r1; cases r1
    · have r1 : ByteArray.empty.toList.isEmpty = false := r; rw [noE] at r1; cases r1)]
  rfl
theorem look_sE : (lookS [sE]).er = 0 := by
  have e1 : look1 [sE] = ⟨0, 0, fun _ => none, fun _ => none⟩ := by
    show (if (CS.start [sE]).er = 0 then (CS.start [sE]).alone ((0 : Nat) : Int) sE else CS.start [sE]) = _
    have e : CS.start [sE] = ⟨0, 0, fun _ => none, fun _ => none⟩ := rfl
    rw [e, if_pos rfl]
    unfold CS.alone
    rw [sE_wrong]
    exact tell_zero _ _
  have e2 : look2 [sE] = ⟨0, 0, fun _ => none, fun _ => none⟩ := by
    show (if (look1 [sE]).er = 0 then (look1 [sE]).learn ((0 : Nat) : Int) sE else look1 [sE]) = _
    rw [e1, if_pos rfl]
    unfold CS.learn CS.labS CS.defS
    rw [if_neg (show ¬ sE.k = 7 from (by decide : ¬ (1 : Int) = 7)), if_pos (show sE.lab.toList.isEmpty = true from noE)]
  show (if (look2 [sE]).er = 0 then (look2 [sE]).follow [sE] ((0 : Nat) : Int) sE else look2 [sE]).er = 0
  rw [e2, if_pos rfl]
  unfold CS.follow
  have s1 : [sE.al, sE.ye, sE.no].foldl (CS.folL ((0 : Nat) : Int)) ⟨0, 0, fun _ => none, fun _ => none⟩ = ⟨0, 0, fun _ => none, fun _ => none⟩ := by
    show CS.folL _ (CS.folL _ (CS.folL _ _ tEnd) ByteArray.empty) ByteArray.empty = _
    have a1 : ∀ c : CS, CS.folL ((0 : Nat) : Int) c tEnd = c := fun c => by
      unfold CS.folL CS.tellIf lbB
      rw [show lout tEnd = true from by unfold lout; rw [decide_eq_true (rfl : tEnd = tEnd)]; rfl]
      simp
    have a2 : ∀ c : CS, CS.folL ((0 : Nat) : Int) c ByteArray.empty = c := fun c => by
      unfold CS.folL CS.tellIf lbB
      rw [noE]; rfl
    rw [a1, a2, a2]
  have s2 : ∀ c : CS, c.folD ((0 : Nat) : Int) sE = c := fun c => by
    unfold CS.folD CS.tellIf
    rw [show decide (sE.k = 7) = false from decide_eq_false (show ¬ (1 : Int) = 7 by decide)]
    rfl
  have s3 : sE.exs = [] := by
    unfold SV.exs
    rw [if_neg (show ¬ (sE.k = 2 ∨ sE.k = 4) from (by decide : ¬ ((1 : Int) = 2 ∨ (1 : Int) = 4))), if_neg (show ¬ (sE.k = 3 ∨ sE.k = 5) from (by decide : ¬ ((1 : Int) = 3 ∨ (1 : Int) = 5)))]
  rw [s1, s2, s3]
  rfl
theorem cod_sE : codL (labF [sE]) [sE] = [stepI 0 1, i0 22, i0 22] := by
  have hw : waysI (labF [sE]) 0 sE = [i0 22] := by
    unfold waysI
    rw [if_pos (show sE.al.toList.isEmpty = false from tEnd_ne)]
    show [wayI _ 0 tEnd] = _
    unfold wayI
    rw [if_pos rfl]
  have hb : bodyI 0 sE = [] := by
    unfold bodyI
    rw [show sE.k = 1 from rfl]
    rfl
  have ho : outTo (labF [sE]) [sE] 1 = [stepI 0 1, i0 22] := by
    show [] ++ stmAt (labF [sE]) [sE] 0 0 = _
    rw [stmAt_at (S := sE) rfl]
    unfold stmI
    rw [hw, hb]
    rfl
  unfold codL rawL
  show List.map _ (outTo (labF [sE]) [sE] 1 ++ [i0 22]) = _
  rw [ho]
  rfl
theorem nul_in13 (w : World) : PT.nul.In w := ⟨by decide, by decide, by decide, by decide, by decide, by decide, fun h => absurd h (by decide), fun i => i.elim0⟩
theorem zNL_in13 (w : World) : zNL.In w := ⟨by decide, by decide, fun h => absurd h (by decide), fun i t ht => by simp [zNL] at ht⟩
theorem sE_in (w : World) : sE.In w := ⟨⟨by decide, by decide, by decide, by decide, by decide, by decide⟩, nul_in13 w, nul_in13 w, nul_in13 w, zNL_in13 w, zNL_in13 w⟩
set_option maxRecDepth 100000 in
set_option maxHeartbeats 4000000 in
theorem alive13_any (w : World) (hX : ShapesX w) (hP : Shapes w) (ht : TensAt w) : Calls Tryd.prog 5 #[] w fun e w' => e = .returned (.bool true) ∧ Below w.heap.size w w' := by
  obtain ⟨w1, hw1⟩ : ∃ w1, w1 = w.alloc (.cells sE.cells 44) := ⟨_, rfl⟩
  have hb1 : Below w.heap.size w w1 := by rw [hw1]; exact (Below.refl _ _).alloc (Nat.le_refl _) _
  have hr1 : w1.heap[w.heap.size]? = some (.cells sE.cells 44 (0, 0)) := by rw [hw1]; exact at_new rfl
  have hEn : Env w1.heap.size w1 ⟨some ⟨w.heap.size, 0, none⟩, w.heap.size, 0, 1⟩ [sE] := ⟨fun W q => ⟨Nat.le_refl _, by show 1 ≤ maxLen; unfold maxLen; decide, fun _ => rfl, fun i S hS => by
    have hi : i = 0 := by have := (List.getElem?_eq_some_iff.1 hS).1; simp at this; exact this
    subst hi
    have : sE = S := by simpa using hS
    subst this
    exact ⟨fun j v hj => by rw [cell_of_row _ _ _ _ _ _ (row_below hr1 q)]; show sE.cells[0 + 0 * 24 + j]? = some v; rw [Nat.zero_mul, Nat.add_zero, Nat.zero_add, ← Array.getElem?_toList]; exact hj, sE_in W⟩⟩, fun W q => (hX.later hb1).later q, fun W q => (hP.later hb1).later q⟩
  have HCK := hide (show Calls Tryd.prog 6 #[.slice (some ⟨w.heap.size, 0, none⟩) 1 1] w1 fun e w' => (∃ g cap sa scap, e = .returned (.tuple #[.slice (some ⟨g, 0, none⟩) 3 cap, .slice sa 1 scap, .agg #[.int .i64 0, .int .i64 0]]) ∧ w'.cell? ⟨g, 0, none⟩ = some (.int .i64 1) ∧ w'.cell? ⟨g, 4, none⟩ = some (.int .i64 22)) ∧ Below w1.heap.size w1 w' from (make_any w1 _ [sE] hEn (tens_stay ht hb1)).mono fun e w' q => by
    refine ⟨?_, q.2⟩
    rcases q.1 with ⟨h, -⟩ | ⟨-, ov, sv, rfl, hro, hsv⟩
    · exact absurd look_sE h
    · rw [cod_sE] at hro
      obtain ⟨g, cap, rfl, -, -⟩ := hro.form (by simp)
      obtain ⟨sa, scap, rfl, -, -⟩ := hsv.len
      rw [sts_len]
      exact ⟨g, cap, sa, scap, rfl, hro.cell iC_len rfl (i := 0) (k := 0) rfl rfl, hro.cell iC_len rfl (i := 1) (k := 0) rfl rfl⟩)
  have HB1 := hide hb1
  have HRW := hide hw1
  clear hX hP hb1 hr1 hw1 hEn ht
  go_enter Tryd.func5, Tryd.ntmps5
  go_wp2_with fail
  rw [show w.alloc (.cells #[.string ⟨#[]⟩, .int .i64 1, .int .i64 0, .string ⟨#[]⟩, .int .i64 0, .string ⟨#[]⟩, .slice none 0 0, .int .i64 0, .string ⟨#[]⟩, .int .i64 0, .string ⟨#[]⟩, .slice none 0 0, .int .i64 0, .string ⟨#[]⟩, .int .i64 0, .string ⟨#[]⟩, .slice none 0 0, .string ⟨#[]⟩, .string ⟨#[]⟩, .slice none 0 0, .slice none 0 0, .string ⟨#[69, 78, 68]⟩, .string ⟨#[]⟩, .string ⟨#[]⟩] 44) = w1 from (unhide HRW).symm]
  refine (unhide HCK).mono ?_
  rintro e w2 ⟨⟨g, cap, sa, scap, rfl, c0, c4⟩, hb2⟩
  have hgl : g < w2.heap.size := World.block_lt_of_cell? _ _ c0
  have HB2 := hide (bnext (unhide HB1) hb2)
  have hi0 := idx4 (g := g) (cap := cap) (n := 3) (i := 0) (by decide)
  have hi1 := idx4 (g := g) (cap := cap) (n := 3) (i := 1) (by decide)
  clear hb2
  go_wp2_with fail
  go_ret
  exact ⟨rfl, (unhide HB2).alloc (unhide HB2).size _⟩
end Go.Proofs.YtpclpjcemeckgaaDoor
