/- What choose does. -/
import Derived.Test.YtkggmodabpjobaaDoorScanRep
import Derived.Test.YtkggmodabpjobaaDoorRegionSink
import Derived.Deep.RegionHeld3
import Derived.Maps.RangeWalk
namespace Go.Proofs.YtkggmodabpjobaaDoor
open Go.RowKit

set_option maxRecDepth 100000 in
set_option maxHeartbeats 1000000 in
theorem choose_any {w : World} {B g : Nat} {m : MS} {N : List Nd} {O : List Int} {W : List Wr} {C : List Cr} {G S : List Gft} (h : Rep w B g m N O W C G S) (x : Int) (hC : C.length ≤ 1000000) :
    Calls Tryd.prog 29 #[.pointer (some ⟨g, 0, none⟩), .int .i64 x] w fun e w' => e = .returned (.tuple #[]) ∧ ∃ v, Rep w' B g { m with cv := v } N O W (C ++ [⟨m.node, x, m.i, m.b, W.length, G.length⟩]) G S ∧ Fr g m { m with cv := v } w w' := by
  obtain ⟨wa, wc, hwv, -, -⟩ := h.works.len
  obtain ⟨ga, gc, hgv, -, -⟩ := h.given.len
  have c6 := h.c6
  have c7 := h.c7
  have c8 := h.c8
  have c9 := h.c9
  have c10 := h.c10
  have c11 := h.c11
  have f10 := h.frozen 10
  rw [hwv] at c9
  rw [hgv] at c11
  have HR := hide h
  clear h
  generalize hcv : m.cv = cv at *
  go_enter Tryd.func29, Tryd.ntmps29
  go_wp2_with fail
  obtain ⟨S0, hS0⟩ : ∃ S0 : World → Prop, S0 = fun w' => w'.cell? ⟨g, 6, none⟩ = some (.int .i64 (m.node : Int)) ∧ w'.cell? ⟨g, 7, none⟩ = some (.int .i64 (m.i : Int)) ∧ w'.cell? ⟨g, 8, none⟩ = some (.int .i64 m.b) ∧ w'.cell? ⟨g, 9, none⟩ = some (.slice wa W.length wc) ∧ w'.cell? ⟨g, 10, none⟩ = some cv ∧ w'.cell? ⟨g, 11, none⟩ = some (.slice ga G.length gc) := ⟨_, rfl⟩
  have HS0 := hide hS0
  have hS : S0 w.drew := by rw [hS0]; exact ⟨c6, c7, c8, c9, c10, c11⟩
  clear hS0
  refine startE (by kernel_rfl) 33 S0 ⟨by kernel_rfl, by kernel_rfl, by kernel_rfl, rfl⟩ ?_
  intro F

  refine takeE F (i := 0) (oi := _) (v := ?v0) rfl (by kernel_rfl) (by kernel_rfl) (by rfl) (fun _ _ _ h => h) hS (Or.inl ⟨by rfl, ?y0⟩) ?r0
  case y0 => (intro w hSw; rw [unhide HS0] at hSw; (try dsimp only at hSw); go_split_ands; (go_simp <;> (try with_reducible rfl)))
  (try go_frame)
  refine takeE F (i := 1) (oi := _) (v := ?v1) rfl (by kernel_rfl) (by kernel_rfl) (by rfl) (fun _ _ _ h => h) hS (Or.inl ⟨by rfl, ?y1⟩) ?r1
  case y1 => (intro w hSw; rw [unhide HS0] at hSw; (try dsimp only at hSw); go_split_ands; (go_simp <;> (try with_reducible rfl)))
  (try go_frame)
  refine takeE F (i := 2) (oi := _) (v := ?v2) rfl (by kernel_rfl) (by kernel_rfl) (by rfl) (fun _ _ _ h => h) hS (Or.inl ⟨by rfl, ?y2⟩) ?r2
  case y2 => (intro w hSw; rw [unhide HS0] at hSw; (try dsimp only at hSw); go_split_ands; (go_simp <;> (try with_reducible rfl)))
  (try go_frame)
  refine takeE F (i := 3) (oi := _) (v := ?v3) rfl (by kernel_rfl) (by kernel_rfl) (by rfl) (fun _ _ _ h => h) hS (Or.inl ⟨by rfl, ?y3⟩) ?r3
  case y3 => (intro w hSw; rw [unhide HS0] at hSw; (try dsimp only at hSw); go_split_ands; (go_simp <;> (try with_reducible rfl)))
  (try go_frame)
  refine takeE F (i := 4) (oi := _) (v := ?v4) rfl (by kernel_rfl) (by kernel_rfl) (by rfl) (fun _ _ _ h => h) hS (Or.inl ⟨by rfl, ?y4⟩) ?r4
  case y4 => (intro w hSw; rw [unhide HS0] at hSw; (try dsimp only at hSw); go_split_ands; (go_simp <;> (try with_reducible rfl)))
  (try go_frame)
  refine takeE F (i := 5) (oi := _) (v := ?v5) rfl (by kernel_rfl) (by kernel_rfl) (by rfl) (fun _ _ _ h => h) hS (Or.inl ⟨by rfl, ?y5⟩) ?r5
  case y5 => (intro w hSw; rw [unhide HS0] at hSw; (try dsimp only at hSw); go_split_ands; (go_simp <;> (try with_reducible rfl)))
  (try go_frame)
  refine takeE F (i := 6) (oi := _) (v := ?v6) rfl (by kernel_rfl) (by kernel_rfl) (by rfl) (fun _ _ _ h => h) hS (Or.inl ⟨by rfl, ?y6⟩) ?r6
  case y6 => (intro w hSw; rw [unhide HS0] at hSw; (try dsimp only at hSw); go_split_ands; (go_simp <;> (try with_reducible rfl)))
  (try go_frame)
  refine takeE F (i := 7) (oi := _) (v := ?v7) rfl (by kernel_rfl) (by kernel_rfl) (by rfl) (fun _ _ _ h => h) hS (Or.inl ⟨by rfl, ?y7⟩) ?r7
  case y7 => (intro w hSw; rw [unhide HS0] at hSw; (try dsimp only at hSw); go_split_ands; (go_simp <;> (try with_reducible rfl)))
  (try go_frame)
  refine takeE F (i := 8) (oi := _) (v := ?v8) rfl (by kernel_rfl) (by kernel_rfl) (by rfl) (fun _ _ _ h => h) hS (Or.inl ⟨by rfl, ?y8⟩) ?r8
  case y8 => (intro w hSw; rw [unhide HS0] at hSw; (try dsimp only at hSw); go_split_ands; (go_simp <;> (try with_reducible rfl)))
  (try go_frame)
  refine takeE F (i := 9) (oi := _) (v := ?v9) rfl (by kernel_rfl) (by kernel_rfl) (by rfl) (fun _ _ _ h => h) hS (Or.inl ⟨by rfl, ?y9⟩) ?r9
  case y9 => (intro w hSw; rw [unhide HS0] at hSw; (try dsimp only at hSw); go_split_ands; (go_simp <;> (try with_reducible rfl)))
  (try go_frame)
  refine takeE F (i := 10) (oi := _) (v := ?v10) rfl (by kernel_rfl) (by kernel_rfl) (by rfl) (fun _ _ _ h => h) hS (Or.inl ⟨by rfl, ?y10⟩) ?r10
  case y10 => (intro w hSw; rw [unhide HS0] at hSw; (try dsimp only at hSw); go_split_ands; (go_simp <;> (try with_reducible rfl)))
  (try go_frame)
  refine takeE F (i := 11) (oi := _) (v := ?v11) rfl (by kernel_rfl) (by kernel_rfl) (by rfl) (fun _ _ _ h => h) hS (Or.inl ⟨by rfl, ?y11⟩) ?r11
  case y11 => (intro w hSw; rw [unhide HS0] at hSw; (try dsimp only at hSw); go_split_ands; (go_simp <;> (try with_reducible rfl)))
  (try go_frame)
  refine takeE F (i := 12) (oi := _) (v := ?v12) rfl (by kernel_rfl) (by kernel_rfl) (by rfl) (fun _ _ _ h => h) hS (Or.inl ⟨by rfl, ?y12⟩) ?r12
  case y12 => (intro w hSw; rw [unhide HS0] at hSw; (try dsimp only at hSw); go_split_ands; (go_simp <;> (try with_reducible rfl)))
  (try go_frame)
  refine takeE F (i := 13) (oi := _) (v := ?v13) rfl (by kernel_rfl) (by kernel_rfl) (by rfl) (fun _ _ _ h => h) hS (Or.inl ⟨by rfl, ?y13⟩) ?r13
  case y13 => (intro w hSw; rw [unhide HS0] at hSw; (try dsimp only at hSw); go_split_ands; (go_simp <;> (try with_reducible rfl)))
  (try go_frame)
  refine takeE F (i := 14) (oi := _) (v := ?v14) rfl (by kernel_rfl) (by kernel_rfl) (by rfl) (fun _ _ _ h => h) hS (Or.inl ⟨by rfl, ?y14⟩) ?r14
  case y14 => (intro w hSw; rw [unhide HS0] at hSw; (try dsimp only at hSw); go_split_ands; (go_simp <;> (try with_reducible rfl)))
  (try go_frame)
  refine takeE F (i := 15) (oi := _) (v := ?v15) rfl (by kernel_rfl) (by kernel_rfl) (by rfl) (fun _ _ _ h => h) hS (Or.inl ⟨by rfl, ?y15⟩) ?r15
  case y15 => (intro w hSw; rw [unhide HS0] at hSw; (try dsimp only at hSw); go_split_ands; (go_simp <;> (try with_reducible rfl)))
  (try go_frame)
  refine takeE F (i := 16) (oi := _) (v := ?v16) rfl (by kernel_rfl) (by kernel_rfl) (by rfl) (fun _ _ _ h => h) hS (Or.inl ⟨by rfl, ?y16⟩) ?r16
  case y16 => (intro w hSw; rw [unhide HS0] at hSw; (try dsimp only at hSw); go_split_ands; (go_simp <;> (try with_reducible rfl)))
  (try go_frame)
  refine takeE F (i := 17) (oi := _) (v := ?v17) rfl (by kernel_rfl) (by kernel_rfl) (by rfl) (fun _ _ _ h => h) hS (Or.inl ⟨by rfl, ?y17⟩) ?r17
  case y17 => (intro w hSw; rw [unhide HS0] at hSw; (try dsimp only at hSw); go_split_ands; (go_simp <;> (try with_reducible rfl)))
  (try go_frame)
  refine takeE F (i := 18) (oi := _) (v := ?v18) rfl (by kernel_rfl) (by kernel_rfl) (by rfl) (fun _ _ _ h => h) hS (Or.inl ⟨by rfl, ?y18⟩) ?r18
  case y18 => (intro w hSw; rw [unhide HS0] at hSw; (try dsimp only at hSw); go_split_ands; (go_simp <;> (try with_reducible rfl)))
  (try go_frame)
  refine takeE F (i := 19) (oi := _) (v := ?v19) rfl (by kernel_rfl) (by kernel_rfl) (by rfl) (fun _ _ _ h => h) hS (Or.inl ⟨by rfl, ?y19⟩) ?r19
  case y19 => (intro w hSw; rw [unhide HS0] at hSw; (try dsimp only at hSw); go_split_ands; (go_simp <;> (try with_reducible rfl)))
  (try go_frame)
  refine takeE F (i := 20) (oi := _) (v := ?v20) rfl (by kernel_rfl) (by kernel_rfl) (by rfl) (fun _ _ _ h => h) hS (Or.inl ⟨by rfl, ?y20⟩) ?r20
  case y20 => (intro w hSw; rw [unhide HS0] at hSw; (try dsimp only at hSw); go_split_ands; (go_simp <;> (try with_reducible rfl)))
  (try go_frame)
  refine takeE F (i := 21) (oi := _) (v := ?v21) rfl (by kernel_rfl) (by kernel_rfl) (by rfl) (fun _ _ _ h => h) hS (Or.inl ⟨by rfl, ?y21⟩) ?r21
  case y21 => (intro w hSw; rw [unhide HS0] at hSw; (try dsimp only at hSw); go_split_ands; (go_simp <;> (try with_reducible rfl)))
  (try go_frame)
  refine takeE F (i := 22) (oi := _) (v := ?v22) rfl (by kernel_rfl) (by kernel_rfl) (by rfl) (fun _ _ _ h => h) hS (Or.inl ⟨by rfl, ?y22⟩) ?r22
  case y22 => (intro w hSw; rw [unhide HS0] at hSw; (try dsimp only at hSw); go_split_ands; (go_simp <;> (try with_reducible rfl)))
  (try go_frame)
  refine takeE F (i := 23) (oi := _) (v := ?v23) rfl (by kernel_rfl) (by kernel_rfl) (by rfl) (fun _ _ _ h => h) hS (Or.inl ⟨by rfl, ?y23⟩) ?r23
  case y23 => (intro w hSw; rw [unhide HS0] at hSw; (try dsimp only at hSw); go_split_ands; (go_simp <;> (try with_reducible rfl)))
  (try go_frame)
  refine takeE F (i := 24) (oi := _) (v := ?v24) rfl (by kernel_rfl) (by kernel_rfl) (by rfl) (fun _ _ _ h => h) hS (Or.inl ⟨by rfl, ?y24⟩) ?r24
  case y24 => (intro w hSw; rw [unhide HS0] at hSw; (try dsimp only at hSw); go_split_ands; (go_simp <;> (try with_reducible rfl)))
  (try go_frame)
  refine takeE F (i := 25) (oi := _) (v := ?v25) rfl (by kernel_rfl) (by kernel_rfl) (by rfl) (fun _ _ _ h => h) hS (Or.inl ⟨by rfl, ?y25⟩) ?r25
  case y25 => (intro w hSw; rw [unhide HS0] at hSw; (try dsimp only at hSw); go_split_ands; (go_simp <;> (try with_reducible rfl)))
  (try go_frame)
  refine takeE F (i := 26) (oi := _) (v := ?v26) rfl (by kernel_rfl) (by kernel_rfl) (by rfl) (fun _ _ _ h => h) hS (Or.inl ⟨by rfl, ?y26⟩) ?r26
  case y26 => (intro w hSw; rw [unhide HS0] at hSw; (try dsimp only at hSw); go_split_ands; (go_simp <;> (try with_reducible rfl)))
  (try go_frame)
  refine takeE F (i := 27) (oi := _) (v := ?v27) rfl (by kernel_rfl) (by kernel_rfl) (by rfl) (fun _ _ _ h => h) hS (Or.inl ⟨by rfl, ?y27⟩) ?r27
  case y27 => (intro w hSw; rw [unhide HS0] at hSw; (try dsimp only at hSw); go_split_ands; (go_simp <;> (try with_reducible rfl)))
  (try go_frame)
  refine takeE F (i := 28) (oi := _) (v := ?v28) rfl (by kernel_rfl) (by kernel_rfl) (by rfl) (fun _ _ _ h => h) hS (Or.inl ⟨by rfl, ?y28⟩) ?r28
  case y28 => (intro w hSw; rw [unhide HS0] at hSw; (try dsimp only at hSw); go_split_ands; (go_simp <;> (try with_reducible rfl)))
  (try go_frame)
  refine stepE (i := 29) (by kernel_rfl) rfl (by rfl) (fun K hK => ?_)
  go_simp
  refine hK _ _ ?_ ?_
  · rw [unhide HS0]; (try dsimp only); go_keep
  clear hK K hS
  (try go_frame)
  refine stepE (i := 30) (by kernel_rfl) rfl (by rfl) (fun K hK => ?_)
  have hbel := ((Below.refl w.heap.size w).alloc (Nat.le_refl _) (.cells #[.int .i64 (m.node : Int), .int .i64 x, .int .i64 (m.i : Int), .int .i64 m.b, .int .i64 (W.length : Int), .int .i64 (G.length : Int)] 84)).drew
  have hne : some g ≠ cv.ownBlock := by rw [← hcv]; exact (unhide HR).choices.neBlk (unhide HR).blk (by decide)
  refine step_row Tryd.underlying52 info_choice rfl (by decide) (by decide) crV_len crV_one rfl (.tmp 8) (.tmp 33) rfl (B := B) (v := cv) (l := C) (by rw [← hcv]; exact (unhide HR).choices.later hbel) (Nat.le_trans (unhide HR).base hbel.size) ⟨m.node, x, m.i, m.b, W.length, G.length⟩ w.heap.size 1 (by simp [Act.eval]) (by simp [Act.eval]) (made_cells (at_new (w := w) rfl) rfl) hC ?_
  intro v' w1 hr1 hg1 hv1
  obtain ⟨ng, nc, hv', -, -⟩ := hr1.form (by simp)
  rw [List.length_append, List.length_singleton] at hv'
  subst hv'
  have hc : ∀ {k : Nat} {u : Value}, w.cell? ⟨g, k, none⟩ = some u → w1.cell? ⟨g, k, none⟩ = some u := fun c => hg1.cell (cell_later hbel c) hne
  have d10 := hc c10
  have e10 : w1.frozen? ⟨g, 10, none⟩ = false := frozen_of_row w1 g 10 _ _ (grown_blk (row_below (unhide HR).blk hbel) (fun j hj => (show Row _ B 84 6 crV cv C by rw [← hcv]; exact (unhide HR).choices.later hbel).type hj) (by decide) hg1)
  have hS : S0 w1 := by rw [unhide HS0]; exact ⟨hc c6, hc c7, hc c8, hc c9, hc c10, hc c11⟩
  have H1 := hide (And.intro hr1 (And.intro hg1 (And.intro hbel hv1)))
  refine hK _ _ hS ?_
  clear hK K hc hr1 hg1 hbel hv1 c6 c7 c8 c9 c10 c11 f10
  (try go_frame)
  refine takeE F (i := 31) (oi := _) (v := ?v31) rfl (by kernel_rfl) (by kernel_rfl) (by rfl) (fun _ _ _ h => h) hS (Or.inl ⟨by rfl, ?y31⟩) ?r31
  case y31 => (intro w hSw; rw [unhide HS0] at hSw; (try dsimp only at hSw); go_split_ands; (go_simp <;> (try with_reducible rfl)))
  (try go_frame)
  refine takeE F (i := 32) (oi := _) (v := ?v32) rfl (by kernel_rfl) (by kernel_rfl) (by rfl) (fun _ _ _ h => h) hS (Or.inl ⟨by rfl, ?y32⟩) ?r32
  case y32 => (intro w hSw; rw [unhide HS0] at hSw; (try dsimp only at hSw); go_split_ands; (go_simp <;> (try with_reducible rfl)))
  (try go_frame)
  refine lastE (by kernel_rfl) rfl (by kernel_rfl) (fun K hK => ?_)
  go_simp
  refine hK _ _ ?_
  clear hK K
  go_wp2_with fail
  go_end0
  obtain ⟨hr1, hg1, hbel, hv1⟩ := unhide H1
  rw [← hcv] at hg1 hv1
  have hR := (unhide HR).later hbel
  refine ⟨rfl, _, hR.grownC hg1 hr1, (Fr.later hbel).trans (Fr.growC hg1 hv1)⟩
end Go.Proofs.YtkggmodabpjobaaDoor
