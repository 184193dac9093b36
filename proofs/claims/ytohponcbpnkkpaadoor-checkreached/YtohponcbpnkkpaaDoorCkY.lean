/- Check, whole; that it answers at all. -/
import Derived.Test.YtohponcbpnkkpaaDoorCkX
namespace Go.Proofs.YtohponcbpnkkpaaDoor
open Go.RowKit

set_option maxRecDepth 100000 in
set_option maxHeartbeats 4000000 in
theorem check_any (w : World) (V : PV) (P : List SV) (hE : Env w.heap.size w V P) : Calls Tryd.prog 5 #[V.v P.length] w (ChkPost w P) := by
  have hk0 := (Below.refl w.heap.size w).alloc (Nat.le_refl _) (.cells #[.int .i64 0, .int .i64 0] 25)
  have HK := hide hk0
  have HLK := hide (look_any (w.alloc (.cells #[.int .i64 0, .int .i64 0] 25)) V P ⟨fun W q => hE.prog W (bnext hk0 q), fun W q => hE.shx W (bnext hk0 q), fun W q => hE.shp W (bnext hk0 q)⟩)
  clear hE hk0
  go_enter Tryd.func5, Tryd.ntmps5
  go_wp2_with fail
  refine (unhide HLK).mono ?_
  rintro e w2 ⟨z, bl, bf, n, rfl, hM, hb⟩
  have c0 := hM.c0
  have c1 := hM.c1
  have hf0 : w2.heap[w.heap.size]? = some (.cells #[.int .i64 0, .int .i64 0] 25 (0, 0)) := row_below (at_new rfl) hb
  have HB := hide (bnext (unhide HK) hb)
  have hzB := hM.oz
  rw [World.size_alloc] at hzB
  have g0 : w2.cell? ⟨w.heap.size, 0, none⟩ = some (.int .i64 0) := by rw [cell_of_row _ _ _ _ _ _ hf0]; rfl
  have g1 : w2.cell? ⟨w.heap.size, 1, none⟩ = some (.int .i64 0) := by rw [cell_of_row _ _ _ _ _ _ hf0]; rfl
  have r0 := frozen_of_row w2 w.heap.size 0 _ _ hf0
  have r1 := frozen_of_row w2 w.heap.size 1 _ _ hf0
  generalize her : (lookS P).er = er at *
  generalize hat2 : (lookS P).at_ = at2 at *
  have HQ := hide (And.intro her hat2)
  have HF3 := hide (show ((w2.setCell ⟨w.heap.size, 0, none⟩ (.int .i64 er)).setCell ⟨w.heap.size, 1, none⟩ (.int .i64 at2)).heap[w.heap.size]? = some (.cells #[.int .i64 er, .int .i64 at2] 25 (0, 0)) from heap_setCell_same _ _ 1 _ _ _ (heap_setCell_same _ _ 0 _ _ _ hf0))
  have HBZ := hide (below_cell (below_cell (unhide HB) (Nat.le_refl _) 0 (.int .i64 er)) (Nat.le_refl _) 1 (.int .i64 at2))
  have hzn : ¬ z = w.heap.size := by omega
  have hzn2 : ¬ w.heap.size = z := by omega
  clear hM hb hf0 HLK her hat2
  go_wp2_with fail
  refine bodyPost_ret (results_cell_row (p := 2) (ty := 25) rfl _ _ w.heap.size 25 #[.int .i64 er, .int .i64 at2] (0, 0) _ rfl (unhide HF3) Tryd.underlying25 rfl size_fau) rfl ?_
  exact ⟨by rw [(unhide HQ).1, (unhide HQ).2], unhide HBZ⟩
/-- A statement that leads to nothing. -/
def tL : ByteArray := ⟨#[76]⟩
def sL : SV := ⟨ByteArray.empty, 1, PT.nul, PT.nul, PT.nul, ByteArray.empty, ByteArray.empty, zNL, zNL, tL, ByteArray.empty, ByteArray.empty⟩
theorem tL_ne : tL.toList.isEmpty = false := by rw [ByteArray.toList_eq]; rfl
theorem tL_out : lout tL = false := by
  unfold lout
  rw [decide_eq_false (show ¬ tL = tEnd from fun e => by injection e with e; revert e; decide), decide_eq_false (show ¬ tL = tRet from fun e => by injection e with e; revert e; decide), decide_eq_false (show ¬ tL = tFre from fun e => by injection e with e; revert e; decide)]
  rfl
theorem sL_wrong : sL.wrong = 0 := by
  unfold SV.wrong
  have h1 : okL tL = true := by unfold okL; rw [tL_ne]; rfl
  have e : sL.lbl.all okL = true := by
    show (okL ByteArray.empty && (okL tL && (okL ByteArray.empty && (okL ByteArray.empty && true)))) = true
    rw [h1, okE]; rfl
  rw [if_pos e, if_neg (fun r => by
    rcases r.2 with r | r
    · have r1 : ByteArray.empty.toList.isEmpty = false := r; rw [noE] at r1; cases r1
    · have r1 : ByteArray.empty.toList.isEmpty = false := r; rw [noE] at r1; cases r1)]
  rfl
theorem look_sL : (lookS [sL]).er = 6 := by
  have e1 : look1 [sL] = ⟨0, 0, fun _ => none, fun _ => none⟩ := by
    show (if (CS.start [sL]).er = 0 then (CS.start [sL]).alone ((0 : Nat) : Int) sL else CS.start [sL]) = _
    have e : CS.start [sL] = ⟨0, 0, fun _ => none, fun _ => none⟩ := rfl
    rw [e, if_pos rfl]
    unfold CS.alone
    rw [sL_wrong]
    exact tell_zero _ _
  have e2 : look2 [sL] = ⟨0, 0, fun _ => none, fun _ => none⟩ := by
    show (if (look1 [sL]).er = 0 then (look1 [sL]).learn ((0 : Nat) : Int) sL else look1 [sL]) = _
    rw [e1, if_pos rfl]
    unfold CS.learn CS.labS CS.defS
    rw [if_neg (show ¬ sL.k = 7 from (by decide : ¬ (1 : Int) = 7)), if_pos (show sL.lab.toList.isEmpty = true from noE)]
  show (if (look2 [sL]).er = 0 then (look2 [sL]).follow [sL] ((0 : Nat) : Int) sL else look2 [sL]).er = 6
  rw [e2, if_pos rfl]
  unfold CS.follow
  have s1 : [sL.al, sL.ye, sL.no].foldl (CS.folL ((0 : Nat) : Int)) ⟨0, 0, fun _ => none, fun _ => none⟩ = ⟨6, 0, fun _ => none, fun _ => none⟩ := by
    show CS.folL _ (CS.folL _ (CS.folL _ _ tL) ByteArray.empty) ByteArray.empty = _
    have a1 : CS.folL ((0 : Nat) : Int) ⟨0, 0, fun _ => none, fun _ => none⟩ tL = ⟨6, 0, fun _ => none, fun _ => none⟩ := by
      unfold CS.folL CS.tellIf lbB
      rw [tL_ne, tL_out]; rfl
    have a2 : ∀ c : CS, CS.folL ((0 : Nat) : Int) c ByteArray.empty = c := fun c => by
      unfold CS.folL CS.tellIf lbB
      rw [noE]; rfl
    rw [a1, a2, a2]
  have s2 : ∀ c : CS, c.folD ((0 : Nat) : Int) sL = c := fun c => by
    unfold CS.folD CS.tellIf
    rw [show decide (sL.k = 7) = false from decide_eq_false (show ¬ (1 : Int) = 7 by decide)]
    rfl
  have s3 : sL.exs = [] := by
    unfold SV.exs
    rw [if_neg (show ¬ (sL.k = 2 ∨ sL.k = 4) from (by decide : ¬ ((1 : Int) = 2 ∨ (1 : Int) = 4))), if_neg (show ¬ (sL.k = 3 ∨ sL.k = 5) from (by decide : ¬ ((1 : Int) = 3 ∨ (1 : Int) = 5)))]
  rw [s1, s2, s3]
  rfl
theorem nul_in (w : World) : PT.nul.In w := ⟨by decide, by decide, by decide, by decide, by decide, by decide, fun h => absurd h (by decide), fun i => i.elim0⟩
theorem zNL_in (w : World) : zNL.In w := ⟨by decide, by decide, fun h => absurd h (by decide), fun i t ht => by simp [zNL] at ht⟩
theorem sL_in (w : World) : sL.In w := ⟨⟨by decide, by decide, by decide, by decide, by decide, by decide⟩, nul_in w, nul_in w, nul_in w, zNL_in w, zNL_in w⟩
set_option maxRecDepth 100000 in
set_option maxHeartbeats 4000000 in
theorem alive11_any (w : World) (hX : ShapesX w) (hP : Shapes w) : Calls Tryd.prog 11 #[] w fun e w' => e = .returned (.bool true) ∧ Below w.heap.size w w' := by
  obtain ⟨w1, hw1⟩ : ∃ w1, w1 = w.alloc (.cells sL.cells 41) := ⟨_, rfl⟩
  have hb1 : Below w.heap.size w w1 := by rw [hw1]; exact (Below.refl _ _).alloc (Nat.le_refl _) _
  have hr1 : w1.heap[w.heap.size]? = some (.cells sL.cells 41 (0, 0)) := by rw [hw1]; exact at_new rfl
  have hEn : Env w1.heap.size w1 ⟨some ⟨w.heap.size, 0, none⟩, w.heap.size, 0, 1⟩ [sL] := ⟨fun W q => ⟨Nat.le_refl _, by show 1 ≤ maxLen; unfold maxLen; decide, fun _ => rfl, fun i S hS => by
    have hi : i = 0 := by have := (List.getElem?_eq_some_iff.1 hS).1; simp at this; exact this
    subst hi
    have : sL = S := by simpa using hS
    subst this
    exact ⟨fun j v hj => by rw [cell_of_row _ _ _ _ _ _ (row_below hr1 q)]; show sL.cells[0 + 0 * 24 + j]? = some v; rw [Nat.zero_mul, Nat.add_zero, Nat.zero_add, ← Array.getElem?_toList]; exact hj, sL_in W⟩⟩, fun W q => (hX.later hb1).later q, fun W q => (hP.later hb1).later q⟩
  have HCK := hide (show Calls Tryd.prog 5 #[.slice (some ⟨w.heap.size, 0, none⟩) 1 1] w1 fun e w' => e = .returned (.agg #[.int .i64 6, .int .i64 (lookS [sL]).at_]) ∧ Below w1.heap.size w1 w' from (check_any w1 _ [sL] hEn).mono fun e w' q => ⟨by rw [q.1, look_sL], q.2⟩)
  generalize (lookS [sL]).at_ = at2 at *
  have HBU := hide (fun W => (builtin_any ⟨#[83, 73, 90, 69]⟩ W).mono (R' := fun e w' => e = .returned (.int .i64 1) ∧ w' = W) fun e w' q => ⟨by rw [q.1]; unfold blt; rw [if_pos rfl], q.2⟩)
  have HB1 := hide hb1
  have HRW := hide hw1
  clear hX hP hb1 hr1 hw1 hEn
  go_enter Tryd.func11, Tryd.ntmps11
  go_wp2_with fail
  rw [show w.alloc (.cells #[.string ⟨#[]⟩, .int .i64 1, .int .i64 0, .string ⟨#[]⟩, .int .i64 0, .string ⟨#[]⟩, .slice none 0 0, .int .i64 0, .string ⟨#[]⟩, .int .i64 0, .string ⟨#[]⟩, .slice none 0 0, .int .i64 0, .string ⟨#[]⟩, .int .i64 0, .string ⟨#[]⟩, .slice none 0 0, .string ⟨#[]⟩, .string ⟨#[]⟩, .slice none 0 0, .slice none 0 0, .string ⟨#[76]⟩, .string ⟨#[]⟩, .string ⟨#[]⟩] 41) = w1 from (unhide HRW).symm]
  refine (unhide HCK).mono ?_
  rintro e w2 ⟨rfl, hb2⟩
  have HB2 := hide (bnext (unhide HB1) hb2)
  have hfd : ∀ w, (Instr.field 25 (.agg #[.int .i64 6, .int .i64 at2]) 0).run Tryd.prog w = .ok (.int .i64 6) w := fun w => by kernel_rfl
  clear hb2
  go_wp2_with (first
    | (go_at_call 7; refine (unhide HBU _).mono ?_; rintro e w2 ⟨rfl, rfl⟩)
    | fail)
  go_ret
  exact ⟨rfl, unhide HB2⟩
end Go.Proofs.YtohponcbpnkkpaaDoor
