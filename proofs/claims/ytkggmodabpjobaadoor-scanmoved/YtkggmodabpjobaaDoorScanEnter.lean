/- What enter and tell do. -/
import Derived.Test.YtkggmodabpjobaaDoorScanRep
import Derived.Test.YtkggmodabpjobaaDoorRegionSink
import Derived.Deep.RegionHeld3
import Derived.Maps.RangeWalk
namespace Go.Proofs.YtkggmodabpjobaaDoor
open Go.RowKit

set_option maxRecDepth 100000 in
set_option maxHeartbeats 1000000 in
/-- Behind the last kid of a cat there is nothing to do. -/
theorem enter_last {w : World} {B g : Nat} {m : MS} {N : List Nd} {O : List Int} {W : List Wr} {C : List Cr} {G S : List Gft} (h : Rep w B g m N O W C G S) (nd kid : Nat) (x : Nd) (hx : N[nd]? = some x) (hk : x.k = 18) (he : kid + 1 = x.en) (hb : kid < 1000000) :
    Calls Tryd.prog 30 #[.pointer (some ⟨g, 0, none⟩), .int .i64 (nd : Int), .int .i64 (kid : Int)] w fun e w' => e = .returned (.tuple #[]) ∧ Rep w' B g { m with node := kid } N O W C G S ∧ Fr g m { m with node := kid } w w' := by
  have hnl : nd < N.length := (List.getElem?_eq_some_iff.1 hx).1
  obtain ⟨gn, cap, hnv, hcap, -⟩ := h.nodes.form (by intro e; rw [e] at hnl; simp at hnl)
  have k0 : w.cell? ⟨gn, nd * 10, none⟩ = some (.int .i64 x.k) := h.nodes.cell ndV_len hnv hx (k := 0) rfl
  have k6 : w.cell? ⟨gn, nd * 10 + 6, none⟩ = some (.int .i64 (x.en : Int)) := h.nodes.cell ndV_len hnv hx (k := 6) rfl
  have hng : ¬ gn = g := fun e => h.nodes.neBlk h.blk (by decide) (by rw [hnv, e]; rfl)
  have hgn : ¬ g = gn := fun e => hng e.symm
  have hia := idx_run (g := gn) (n := N.length) (cap := cap) Tryd.underlying49 size_node hnl
  have c2 := h.c2
  have c6 := h.c6
  have f6 := h.frozen 6
  rw [hnv] at c2
  rw [hk] at k0
  rw [← he, show ((kid + 1 : Nat) : Int) = (kid : Int) + 1 from rfl] at k6
  have H := hide (h.put 6 (.int .i64 (kid : Int)) { m with node := kid } rfl rfl rfl rfl rfl rfl rfl)
  have HB := hide (Fr.cell (g := g) (m := m) (m' := { m with node := kid }) (w := w) 6 (.int .i64 (kid : Int)) rfl rfl rfl rfl rfl rfl)
  clear h hnv hx
  go_enter Tryd.func30, Tryd.ntmps30
  go_wp2_with fail
  (try simp only [Exit.inBlock, Exit.then])
  refine bodyPost_ret (results_none rfl _ _ _) rfl ?_
  exact ⟨rfl, unhide H, unhide HB⟩

set_option maxRecDepth 100000 in
set_option maxHeartbeats 1000000 in
theorem enter_any {w : World} {B g : Nat} {m : MS} {N : List Nd} {O : List Int} {W : List Wr} {C : List Cr} {G S : List Gft} (h : Rep w B g m N O W C G S) (nd kid : Nat) (x : Nd) (hx : N[nd]? = some x) (hk : x.k ≠ 18 ∨ kid + 1 ≠ x.en) (hb : kid < 1000000) (hW : W.length ≤ 1000000) :
    Calls Tryd.prog 30 #[.pointer (some ⟨g, 0, none⟩), .int .i64 (nd : Int), .int .i64 (kid : Int)] w fun e w' => e = .returned (.tuple #[]) ∧ ∃ v, Rep w' B g { m with node := kid, wv := v, b := (W.length : Int) } N O (W ++ [⟨nd, kid, m.i, m.b⟩]) C G S ∧ Fr g m { m with node := kid, wv := v, b := (W.length : Int) } w w' := by
  have hnl : nd < N.length := (List.getElem?_eq_some_iff.1 hx).1
  obtain ⟨gn, cap, hnv, hcap, -⟩ := h.nodes.form (by intro e; rw [e] at hnl; simp at hnl)
  have k0 : w.cell? ⟨gn, nd * 10, none⟩ = some (.int .i64 x.k) := h.nodes.cell ndV_len hnv hx (k := 0) rfl
  have k6 : w.cell? ⟨gn, nd * 10 + 6, none⟩ = some (.int .i64 (x.en : Int)) := h.nodes.cell ndV_len hnv hx (k := 6) rfl
  have hng : ¬ gn = g := fun e => h.nodes.neBlk h.blk (by decide) (by rw [hnv, e]; rfl)
  have hgn : ¬ g = gn := fun e => hng e.symm
  have hia := idx_run (g := gn) (n := N.length) (cap := cap) Tryd.underlying49 size_node hnl
  have c2 := h.c2
  have c6 := h.c6
  have f6 := h.frozen 6
  rw [hnv] at c2
  have HR := hide h
  have hd : (x.k == 18) = false ∨ ((x.k == 18) = true ∧ (((kid : Int) + 1) == (x.en : Int)) = false) := by
    by_cases e : x.k = 18
    · right
      refine ⟨by rw [beq_iff_eq]; exact e, ?_⟩
      rw [beq_eq_false_iff_ne]
      rcases hk with hk | hk
      · exact absurd e hk
      · omega
    · left
      rw [beq_eq_false_iff_ne]; exact e
  clear h hx hk
  rcases hd with hd | ⟨hd, hd2⟩
  · go_enter Tryd.func30, Tryd.ntmps30
    go_wp2_with fail
    obtain ⟨w0, hw0⟩ : ∃ w0, w0 = w.setCell ⟨g, 6, none⟩ (.int .i64 (kid : Int)) := ⟨_, rfl⟩
    rw [← hw0]
    have h0 : Rep w0 B g { m with node := kid } N O W C G S := by rw [hw0]; exact (unhide HR).put 6 (.int .i64 (kid : Int)) { m with node := kid } rfl rfl rfl rfl rfl rfl rfl
    have hB0 : Fr g m { m with node := kid } w w0 := by rw [hw0]; exact Fr.cell 6 _ rfl rfl rfl rfl rfl rfl
    have HB0 := hide hB0
    have c7 := h0.c7
    have c8 := h0.c8
    have c9 := h0.c9
    have HR0 := hide h0
    clear hw0 hB0 h0 c2 c6 f6 k0 k6 hia hd hng hgn
    (try clear hd2)
    dsimp only at c7 c8 c9
    generalize hwv : m.wv = wv at c9
    obtain ⟨S0, hS0⟩ : ∃ S0 : World → Prop, S0 = fun w' => w'.cell? ⟨g, 7, none⟩ = some (.int .i64 (m.i : Int)) ∧ w'.cell? ⟨g, 8, none⟩ = some (.int .i64 m.b) ∧ w'.cell? ⟨g, 9, none⟩ = some (wv) := ⟨_, rfl⟩
    have HS0 := hide hS0
    have hS : S0 w0.drew := by rw [hS0]; exact ⟨c7, c8, c9⟩
    clear hS0
    refine startE (by kernel_rfl) 20 S0 ⟨by kernel_rfl, by kernel_rfl, by kernel_rfl, rfl⟩ ?_
    intro F
    refine takeE F (i := 0) (oi := _) (v := ?v0a) rfl (by kernel_rfl) (by kernel_rfl) (by rfl) (fun _ _ _ h => h) hS (Or.inl ⟨by rfl, ?y0a⟩) ?r0a
    case y0a => (intro w hSw; rw [unhide HS0] at hSw; (try dsimp only at hSw); go_split_ands; (go_simp <;> (try with_reducible rfl)))
    (try go_frame)
    refine takeE F (i := 1) (oi := _) (v := ?v1a) rfl (by kernel_rfl) (by kernel_rfl) (by rfl) (fun _ _ _ h => h) hS (Or.inl ⟨by rfl, ?y1a⟩) ?r1a
    case y1a => (intro w hSw; rw [unhide HS0] at hSw; (try dsimp only at hSw); go_split_ands; (go_simp <;> (try with_reducible rfl)))
    (try go_frame)
    refine takeE F (i := 2) (oi := _) (v := ?v2a) rfl (by kernel_rfl) (by kernel_rfl) (by rfl) (fun _ _ _ h => h) hS (Or.inl ⟨by rfl, ?y2a⟩) ?r2a
    case y2a => (intro w hSw; rw [unhide HS0] at hSw; (try dsimp only at hSw); go_split_ands; (go_simp <;> (try with_reducible rfl)))
    (try go_frame)
    refine takeE F (i := 3) (oi := _) (v := ?v3a) rfl (by kernel_rfl) (by kernel_rfl) (by rfl) (fun _ _ _ h => h) hS (Or.inl ⟨by rfl, ?y3a⟩) ?r3a
    case y3a => (intro w hSw; rw [unhide HS0] at hSw; (try dsimp only at hSw); go_split_ands; (go_simp <;> (try with_reducible rfl)))
    (try go_frame)
    refine takeE F (i := 4) (oi := _) (v := ?v4a) rfl (by kernel_rfl) (by kernel_rfl) (by rfl) (fun _ _ _ h => h) hS (Or.inl ⟨by rfl, ?y4a⟩) ?r4a
    case y4a => (intro w hSw; rw [unhide HS0] at hSw; (try dsimp only at hSw); go_split_ands; (go_simp <;> (try with_reducible rfl)))
    (try go_frame)
    refine takeE F (i := 5) (oi := _) (v := ?v5a) rfl (by kernel_rfl) (by kernel_rfl) (by rfl) (fun _ _ _ h => h) hS (Or.inl ⟨by rfl, ?y5a⟩) ?r5a
    case y5a => (intro w hSw; rw [unhide HS0] at hSw; (try dsimp only at hSw); go_split_ands; (go_simp <;> (try with_reducible rfl)))
    (try go_frame)
    refine takeE F (i := 6) (oi := _) (v := ?v6a) rfl (by kernel_rfl) (by kernel_rfl) (by rfl) (fun _ _ _ h => h) hS (Or.inl ⟨by rfl, ?y6a⟩) ?r6a
    case y6a => (intro w hSw; rw [unhide HS0] at hSw; (try dsimp only at hSw); go_split_ands; (go_simp <;> (try with_reducible rfl)))
    (try go_frame)
    refine takeE F (i := 7) (oi := _) (v := ?v7a) rfl (by kernel_rfl) (by kernel_rfl) (by rfl) (fun _ _ _ h => h) hS (Or.inl ⟨by rfl, ?y7a⟩) ?r7a
    case y7a => (intro w hSw; rw [unhide HS0] at hSw; (try dsimp only at hSw); go_split_ands; (go_simp <;> (try with_reducible rfl)))
    (try go_frame)
    refine takeE F (i := 8) (oi := _) (v := ?v8a) rfl (by kernel_rfl) (by kernel_rfl) (by rfl) (fun _ _ _ h => h) hS (Or.inl ⟨by rfl, ?y8a⟩) ?r8a
    case y8a => (intro w hSw; rw [unhide HS0] at hSw; (try dsimp only at hSw); go_split_ands; (go_simp <;> (try with_reducible rfl)))
    (try go_frame)
    refine takeE F (i := 9) (oi := _) (v := ?v9a) rfl (by kernel_rfl) (by kernel_rfl) (by rfl) (fun _ _ _ h => h) hS (Or.inl ⟨by rfl, ?y9a⟩) ?r9a
    case y9a => (intro w hSw; rw [unhide HS0] at hSw; (try dsimp only at hSw); go_split_ands; (go_simp <;> (try with_reducible rfl)))
    (try go_frame)
    refine takeE F (i := 10) (oi := _) (v := ?v10a) rfl (by kernel_rfl) (by kernel_rfl) (by rfl) (fun _ _ _ h => h) hS (Or.inl ⟨by rfl, ?y10a⟩) ?r10a
    case y10a => (intro w hSw; rw [unhide HS0] at hSw; (try dsimp only at hSw); go_split_ands; (go_simp <;> (try with_reducible rfl)))
    (try go_frame)
    refine takeE F (i := 11) (oi := _) (v := ?v11a) rfl (by kernel_rfl) (by kernel_rfl) (by rfl) (fun _ _ _ h => h) hS (Or.inl ⟨by rfl, ?y11a⟩) ?r11a
    case y11a => (intro w hSw; rw [unhide HS0] at hSw; (try dsimp only at hSw); go_split_ands; (go_simp <;> (try with_reducible rfl)))
    (try go_frame)
    refine takeE F (i := 12) (oi := _) (v := ?v12a) rfl (by kernel_rfl) (by kernel_rfl) (by rfl) (fun _ _ _ h => h) hS (Or.inl ⟨by rfl, ?y12a⟩) ?r12a
    case y12a => (intro w hSw; rw [unhide HS0] at hSw; (try dsimp only at hSw); go_split_ands; (go_simp <;> (try with_reducible rfl)))
    (try go_frame)
    refine takeE F (i := 13) (oi := _) (v := ?v13a) rfl (by kernel_rfl) (by kernel_rfl) (by rfl) (fun _ _ _ h => h) hS (Or.inl ⟨by rfl, ?y13a⟩) ?r13a
    case y13a => (intro w hSw; rw [unhide HS0] at hSw; (try dsimp only at hSw); go_split_ands; (go_simp <;> (try with_reducible rfl)))
    (try go_frame)
    refine takeE F (i := 14) (oi := _) (v := ?v14a) rfl (by kernel_rfl) (by kernel_rfl) (by rfl) (fun _ _ _ h => h) hS (Or.inl ⟨by rfl, ?y14a⟩) ?r14a
    case y14a => (intro w hSw; rw [unhide HS0] at hSw; (try dsimp only at hSw); go_split_ands; (go_simp <;> (try with_reducible rfl)))
    (try go_frame)
    refine takeE F (i := 15) (oi := _) (v := ?v15a) rfl (by kernel_rfl) (by kernel_rfl) (by rfl) (fun _ _ _ h => h) hS (Or.inl ⟨by rfl, ?y15a⟩) ?r15a
    case y15a => (intro w hSw; rw [unhide HS0] at hSw; (try dsimp only at hSw); go_split_ands; (go_simp <;> (try with_reducible rfl)))
    (try go_frame)
    refine stepE (i := 16) (by kernel_rfl) rfl (by rfl) (fun K hK => ?_)
    go_simp
    refine hK _ _ ?_ ?_
    · rw [unhide HS0]; (try dsimp only); go_keep
    clear hK K hS
    (try go_frame)
    refine stepE (i := 17) (by kernel_rfl) rfl (by rfl) (fun K hK => ?_)
    have hbel := ((Below.refl w0.heap.size w0).alloc (Nat.le_refl _) (.cells #[.int .i64 (nd : Int), .int .i64 (kid : Int), .int .i64 (m.i : Int), .int .i64 m.b] 81)).drew
    have hRow : Row _ B 81 4 wrV wv W := (show Row w0 B 81 4 wrV wv W from by rw [← hwv]; exact (unhide HR0).works).later hbel
    have hne : some g ≠ wv.ownBlock := by rw [← hwv]; exact (unhide HR0).works.neBlk (unhide HR0).blk (by decide)
    refine step_row Tryd.underlying51 info_work rfl (by decide) (by decide) wrV_len wrV_one rfl (.tmp 35) (.tmp 47) rfl (B := B) (v := wv) (l := W) hRow (Nat.le_trans (unhide HR0).base hbel.size) ⟨nd, kid, m.i, m.b⟩ w0.heap.size 1 (by simp [Act.eval]) (by simp [Act.eval]) (made_cells (at_new (w := w0) rfl) rfl) hW ?_
    intro v' w9 hr9 hg9 hv9
    obtain ⟨ng, nc, hv', -, -⟩ := hr9.form (by simp)
    rw [List.length_append, List.length_singleton] at hv'
    subst hv'
    have hc : ∀ {k : Nat} {u : Value}, w0.cell? ⟨g, k, none⟩ = some u → w9.cell? ⟨g, k, none⟩ = some u := fun c => hg9.cell (cell_later hbel c) hne
    have hz : ∀ k, w9.frozen? ⟨g, k, none⟩ = false := fun k => frozen_of_row w9 g k _ _ (grown_blk (row_below (unhide HR0).blk hbel) (fun j hj => hRow.type hj) (by decide) hg9)
    have HZ := hide hz
    have e9 := hz 9
    have d7 := hc c7
    have d8 := hc c8
    have d9 := hc c9
    have hS : S0 w9 := by rw [unhide HS0]; exact ⟨d7, d8, d9⟩
    have H9 := hide (And.intro hr9 (And.intro hg9 (And.intro hbel (And.intro hv9 hRow))))
    refine hK _ _ hS ?_
    clear hK K hc hz hr9 hg9 hbel hv9 hRow
    (try go_frame)
    refine takeE F (i := 18) (oi := _) (v := ?v18a) rfl (by kernel_rfl) (by kernel_rfl) (by rfl) (fun _ _ _ h => h) hS (Or.inl ⟨by rfl, ?y18a⟩) ?r18a
    case y18a => (intro w hSw; rw [unhide HS0] at hSw; (try dsimp only at hSw); go_split_ands; (go_simp <;> (try with_reducible rfl)))
    (try go_frame)
    refine takeE F (i := 19) (oi := _) (v := ?v19a) rfl (by kernel_rfl) (by kernel_rfl) (by rfl) (fun _ _ _ h => h) hS (Or.inl ⟨by rfl, ?y19a⟩) ?r19a
    case y19a => (intro w hSw; rw [unhide HS0] at hSw; (try dsimp only at hSw); go_split_ands; (go_simp <;> (try with_reducible rfl)))
    (try go_frame)
    refine lastE (by kernel_rfl) rfl (by kernel_rfl) (fun K hK => ?_)
    go_simp
    refine hK _ _ ?_
    clear hK K hS F HS0
    have e8 := unhide HZ 8
    clear HZ
    go_wp2_with fail
    go_end0
    obtain ⟨hr9, hg9, hbel, hv9, -⟩ := unhide H9
    rw [← hwv] at hg9 hv9
    have hR := (unhide HR0).later hbel
    exact ⟨rfl, _, (hR.grownW hg9 hr9).put 8 _ { m with node := kid, wv := _, b := (W.length : Int) } rfl rfl rfl rfl rfl rfl rfl, (unhide HB0).trans ((Fr.later hbel).trans ((Fr.growW (m := { m with node := kid }) hg9 hv9).trans (Fr.cell 8 _ rfl rfl rfl rfl rfl rfl)))⟩
  · go_enter Tryd.func30, Tryd.ntmps30
    go_wp2_with fail
    obtain ⟨w0, hw0⟩ : ∃ w0, w0 = w.setCell ⟨g, 6, none⟩ (.int .i64 (kid : Int)) := ⟨_, rfl⟩
    rw [← hw0]
    have h0 : Rep w0 B g { m with node := kid } N O W C G S := by rw [hw0]; exact (unhide HR).put 6 (.int .i64 (kid : Int)) { m with node := kid } rfl rfl rfl rfl rfl rfl rfl
    have hB0 : Fr g m { m with node := kid } w w0 := by rw [hw0]; exact Fr.cell 6 _ rfl rfl rfl rfl rfl rfl
    have HB0 := hide hB0
    have c7 := h0.c7
    have c8 := h0.c8
    have c9 := h0.c9
    have HR0 := hide h0
    clear hw0 hB0 h0 c2 c6 f6 k0 k6 hia hd hng hgn
    (try clear hd2)
    dsimp only at c7 c8 c9
    generalize hwv : m.wv = wv at c9
    obtain ⟨S0, hS0⟩ : ∃ S0 : World → Prop, S0 = fun w' => w'.cell? ⟨g, 7, none⟩ = some (.int .i64 (m.i : Int)) ∧ w'.cell? ⟨g, 8, none⟩ = some (.int .i64 m.b) ∧ w'.cell? ⟨g, 9, none⟩ = some (wv) := ⟨_, rfl⟩
    have HS0 := hide hS0
    have hS : S0 w0.drew := by rw [hS0]; exact ⟨c7, c8, c9⟩
    clear hS0
    refine startE (by kernel_rfl) 20 S0 ⟨by kernel_rfl, by kernel_rfl, by kernel_rfl, rfl⟩ ?_
    intro F
    refine takeE F (i := 0) (oi := _) (v := ?v0b) rfl (by kernel_rfl) (by kernel_rfl) (by rfl) (fun _ _ _ h => h) hS (Or.inl ⟨by rfl, ?y0b⟩) ?r0b
    case y0b => (intro w hSw; rw [unhide HS0] at hSw; (try dsimp only at hSw); go_split_ands; (go_simp <;> (try with_reducible rfl)))
    (try go_frame)
    refine takeE F (i := 1) (oi := _) (v := ?v1b) rfl (by kernel_rfl) (by kernel_rfl) (by rfl) (fun _ _ _ h => h) hS (Or.inl ⟨by rfl, ?y1b⟩) ?r1b
    case y1b => (intro w hSw; rw [unhide HS0] at hSw; (try dsimp only at hSw); go_split_ands; (go_simp <;> (try with_reducible rfl)))
    (try go_frame)
    refine takeE F (i := 2) (oi := _) (v := ?v2b) rfl (by kernel_rfl) (by kernel_rfl) (by rfl) (fun _ _ _ h => h) hS (Or.inl ⟨by rfl, ?y2b⟩) ?r2b
    case y2b => (intro w hSw; rw [unhide HS0] at hSw; (try dsimp only at hSw); go_split_ands; (go_simp <;> (try with_reducible rfl)))
    (try go_frame)
    refine takeE F (i := 3) (oi := _) (v := ?v3b) rfl (by kernel_rfl) (by kernel_rfl) (by rfl) (fun _ _ _ h => h) hS (Or.inl ⟨by rfl, ?y3b⟩) ?r3b
    case y3b => (intro w hSw; rw [unhide HS0] at hSw; (try dsimp only at hSw); go_split_ands; (go_simp <;> (try with_reducible rfl)))
    (try go_frame)
    refine takeE F (i := 4) (oi := _) (v := ?v4b) rfl (by kernel_rfl) (by kernel_rfl) (by rfl) (fun _ _ _ h => h) hS (Or.inl ⟨by rfl, ?y4b⟩) ?r4b
    case y4b => (intro w hSw; rw [unhide HS0] at hSw; (try dsimp only at hSw); go_split_ands; (go_simp <;> (try with_reducible rfl)))
    (try go_frame)
    refine takeE F (i := 5) (oi := _) (v := ?v5b) rfl (by kernel_rfl) (by kernel_rfl) (by rfl) (fun _ _ _ h => h) hS (Or.inl ⟨by rfl, ?y5b⟩) ?r5b
    case y5b => (intro w hSw; rw [unhide HS0] at hSw; (try dsimp only at hSw); go_split_ands; (go_simp <;> (try with_reducible rfl)))
    (try go_frame)
    refine takeE F (i := 6) (oi := _) (v := ?v6b) rfl (by kernel_rfl) (by kernel_rfl) (by rfl) (fun _ _ _ h => h) hS (Or.inl ⟨by rfl, ?y6b⟩) ?r6b
    case y6b => (intro w hSw; rw [unhide HS0] at hSw; (try dsimp only at hSw); go_split_ands; (go_simp <;> (try with_reducible rfl)))
    (try go_frame)
    refine takeE F (i := 7) (oi := _) (v := ?v7b) rfl (by kernel_rfl) (by kernel_rfl) (by rfl) (fun _ _ _ h => h) hS (Or.inl ⟨by rfl, ?y7b⟩) ?r7b
    case y7b => (intro w hSw; rw [unhide HS0] at hSw; (try dsimp only at hSw); go_split_ands; (go_simp <;> (try with_reducible rfl)))
    (try go_frame)
    refine takeE F (i := 8) (oi := _) (v := ?v8b) rfl (by kernel_rfl) (by kernel_rfl) (by rfl) (fun _ _ _ h => h) hS (Or.inl ⟨by rfl, ?y8b⟩) ?r8b
    case y8b => (intro w hSw; rw [unhide HS0] at hSw; (try dsimp only at hSw); go_split_ands; (go_simp <;> (try with_reducible rfl)))
    (try go_frame)
    refine takeE F (i := 9) (oi := _) (v := ?v9b) rfl (by kernel_rfl) (by kernel_rfl) (by rfl) (fun _ _ _ h => h) hS (Or.inl ⟨by rfl, ?y9b⟩) ?r9b
    case y9b => (intro w hSw; rw [unhide HS0] at hSw; (try dsimp only at hSw); go_split_ands; (go_simp <;> (try with_reducible rfl)))
    (try go_frame)
    refine takeE F (i := 10) (oi := _) (v := ?v10b) rfl (by kernel_rfl) (by kernel_rfl) (by rfl) (fun _ _ _ h => h) hS (Or.inl ⟨by rfl, ?y10b⟩) ?r10b
    case y10b => (intro w hSw; rw [unhide HS0] at hSw; (try dsimp only at hSw); go_split_ands; (go_simp <;> (try with_reducible rfl)))
    (try go_frame)
    refine takeE F (i := 11) (oi := _) (v := ?v11b) rfl (by kernel_rfl) (by kernel_rfl) (by rfl) (fun _ _ _ h => h) hS (Or.inl ⟨by rfl, ?y11b⟩) ?r11b
    case y11b => (intro w hSw; rw [unhide HS0] at hSw; (try dsimp only at hSw); go_split_ands; (go_simp <;> (try with_reducible rfl)))
    (try go_frame)
    refine takeE F (i := 12) (oi := _) (v := ?v12b) rfl (by kernel_rfl) (by kernel_rfl) (by rfl) (fun _ _ _ h => h) hS (Or.inl ⟨by rfl, ?y12b⟩) ?r12b
    case y12b => (intro w hSw; rw [unhide HS0] at hSw; (try dsimp only at hSw); go_split_ands; (go_simp <;> (try with_reducible rfl)))
    (try go_frame)
    refine takeE F (i := 13) (oi := _) (v := ?v13b) rfl (by kernel_rfl) (by kernel_rfl) (by rfl) (fun _ _ _ h => h) hS (Or.inl ⟨by rfl, ?y13b⟩) ?r13b
    case y13b => (intro w hSw; rw [unhide HS0] at hSw; (try dsimp only at hSw); go_split_ands; (go_simp <;> (try with_reducible rfl)))
    (try go_frame)
    refine takeE F (i := 14) (oi := _) (v := ?v14b) rfl (by kernel_rfl) (by kernel_rfl) (by rfl) (fun _ _ _ h => h) hS (Or.inl ⟨by rfl, ?y14b⟩) ?r14b
    case y14b => (intro w hSw; rw [unhide HS0] at hSw; (try dsimp only at hSw); go_split_ands; (go_simp <;> (try with_reducible rfl)))
    (try go_frame)
    refine takeE F (i := 15) (oi := _) (v := ?v15b) rfl (by kernel_rfl) (by kernel_rfl) (by rfl) (fun _ _ _ h => h) hS (Or.inl ⟨by rfl, ?y15b⟩) ?r15b
    case y15b => (intro w hSw; rw [unhide HS0] at hSw; (try dsimp only at hSw); go_split_ands; (go_simp <;> (try with_reducible rfl)))
    (try go_frame)
    refine stepE (i := 16) (by kernel_rfl) rfl (by rfl) (fun K hK => ?_)
    go_simp
    refine hK _ _ ?_ ?_
    · rw [unhide HS0]; (try dsimp only); go_keep
    clear hK K hS
    (try go_frame)
    refine stepE (i := 17) (by kernel_rfl) rfl (by rfl) (fun K hK => ?_)
    have hbel := ((Below.refl w0.heap.size w0).alloc (Nat.le_refl _) (.cells #[.int .i64 (nd : Int), .int .i64 (kid : Int), .int .i64 (m.i : Int), .int .i64 m.b] 81)).drew
    have hRow : Row _ B 81 4 wrV wv W := (show Row w0 B 81 4 wrV wv W from by rw [← hwv]; exact (unhide HR0).works).later hbel
    have hne : some g ≠ wv.ownBlock := by rw [← hwv]; exact (unhide HR0).works.neBlk (unhide HR0).blk (by decide)
    refine step_row Tryd.underlying51 info_work rfl (by decide) (by decide) wrV_len wrV_one rfl (.tmp 35) (.tmp 47) rfl (B := B) (v := wv) (l := W) hRow (Nat.le_trans (unhide HR0).base hbel.size) ⟨nd, kid, m.i, m.b⟩ w0.heap.size 1 (by simp [Act.eval]) (by simp [Act.eval]) (made_cells (at_new (w := w0) rfl) rfl) hW ?_
    intro v' w9 hr9 hg9 hv9
    obtain ⟨ng, nc, hv', -, -⟩ := hr9.form (by simp)
    rw [List.length_append, List.length_singleton] at hv'
    subst hv'
    have hc : ∀ {k : Nat} {u : Value}, w0.cell? ⟨g, k, none⟩ = some u → w9.cell? ⟨g, k, none⟩ = some u := fun c => hg9.cell (cell_later hbel c) hne
    have hz : ∀ k, w9.frozen? ⟨g, k, none⟩ = false := fun k => frozen_of_row w9 g k _ _ (grown_blk (row_below (unhide HR0).blk hbel) (fun j hj => hRow.type hj) (by decide) hg9)
    have HZ := hide hz
    have e9 := hz 9
    have d7 := hc c7
    have d8 := hc c8
    have d9 := hc c9
    have hS : S0 w9 := by rw [unhide HS0]; exact ⟨d7, d8, d9⟩
    have H9 := hide (And.intro hr9 (And.intro hg9 (And.intro hbel (And.intro hv9 hRow))))
    refine hK _ _ hS ?_
    clear hK K hc hz hr9 hg9 hbel hv9 hRow
    (try go_frame)
    refine takeE F (i := 18) (oi := _) (v := ?v18b) rfl (by kernel_rfl) (by kernel_rfl) (by rfl) (fun _ _ _ h => h) hS (Or.inl ⟨by rfl, ?y18b⟩) ?r18b
    case y18b => (intro w hSw; rw [unhide HS0] at hSw; (try dsimp only at hSw); go_split_ands; (go_simp <;> (try with_reducible rfl)))
    (try go_frame)
    refine takeE F (i := 19) (oi := _) (v := ?v19b) rfl (by kernel_rfl) (by kernel_rfl) (by rfl) (fun _ _ _ h => h) hS (Or.inl ⟨by rfl, ?y19b⟩) ?r19b
    case y19b => (intro w hSw; rw [unhide HS0] at hSw; (try dsimp only at hSw); go_split_ands; (go_simp <;> (try with_reducible rfl)))
    (try go_frame)
    refine lastE (by kernel_rfl) rfl (by kernel_rfl) (fun K hK => ?_)
    go_simp
    refine hK _ _ ?_
    clear hK K hS F HS0
    have e8 := unhide HZ 8
    clear HZ
    go_wp2_with fail
    go_end0
    obtain ⟨hr9, hg9, hbel, hv9, -⟩ := unhide H9
    rw [← hwv] at hg9 hv9
    have hR := (unhide HR0).later hbel
    exact ⟨rfl, _, (hR.grownW hg9 hr9).put 8 _ { m with node := kid, wv := _, b := (W.length : Int) } rfl rfl rfl rfl rfl rfl rfl, (unhide HB0).trans ((Fr.later hbel).trans ((Fr.growW (m := { m with node := kid }) hg9 hv9).trans (Fr.cell 8 _ rfl rfl rfl rfl rfl rfl)))⟩
end Go.Proofs.YtkggmodabpjobaaDoor
