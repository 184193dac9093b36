/- What come does at a kind with kids that is entered. -/
import Derived.Test.YtkggmodabpjobaaDoorScanEnter
import Derived.Test.YtkggmodabpjobaaDoorScanChoose
import Derived.Test.YtkggmodabpjobaaDoorScanOnly
import Derived.Deep.QuietTactic
import Derived.BigQuiet
namespace Go.Proofs.YtkggmodabpjobaaDoor
open Go.RowKit

set_option maxRecDepth 100000 in
set_option maxHeartbeats 4000000 in
theorem come_kid {w : World} {B g : Nat} {m : MS} {N : List Nd} {O : List Int} {W : List Wr} {C : List Cr} {G S : List Gft} {x : Nd} (h : Rep w B g m N O W C G S) (hx : N[m.node]? = some x) (htf : m.ticks < m.fuel) (hfu : m.fuel ≤ 100000) (hk : x.k = 18 ∨ x.k = 21 ∨ x.k = 22) (hne : x.k ≠ 18 ∨ x.fi + 1 ≠ x.en) (hfi : x.fi < 1000000) (hW : W.length ≤ 1000000) :
    Calls Tryd.prog 20 #[.pointer (some ⟨g, 0, none⟩)] w fun e w' => e = .returned (.int .i64 0) ∧ ∃ v, Rep w' B g { m with ticks := m.ticks + 1, node := x.fi, wv := v, b := (W.length : Int) } N O (W ++ [⟨m.node, x.fi, m.i, m.b⟩]) C G S ∧ Fr g m { m with ticks := m.ticks + 1, node := x.fi, wv := v, b := (W.length : Int) } w w' := by
  have hnl : m.node < N.length := (List.getElem?_eq_some_iff.1 hx).1
  obtain ⟨gn, cap, hnv, hcap, -⟩ := h.nodes.form (by intro e; rw [e] at hnl; simp at hnl)
  have hia := idx_run (g := gn) (n := N.length) (cap := cap) Tryd.underlying49 size_node hnl
  have hng : ¬ gn = g := fun e => h.nodes.neBlk h.blk (by decide) (by rw [hnv, e]; rfl)
  have hgn : ¬ g = gn := fun e => hng e.symm
  have c15 := h.c15
  have c16 := h.c16
  have f16 := h.frozen 16
  have ht : ((m.ticks : Int) == (m.fuel : Int)) = false := by rw [beq_eq_false_iff_ne]; omega
  have HR := hide h
  have HX := hide (And.intro hx hnv)
  clear h hx hnv
  go_enter Tryd.func20, Tryd.ntmps20
  go_wp2_with fail
  go_quiet (fail)
  obtain ⟨wq, hwq⟩ : ∃ wq, wq = w.drewN nq := ⟨_, rfl⟩
  rw [← hwq]
  have hbq : Below w.heap.size w wq := by rw [hwq]; exact below_drewN (Below.refl _ _) _
  have hq := (unhide HR).later hbq
  have c16 := cell_later hbq c16
  have f16 := hq.frozen 16
  have HQ := hide hq
  have HBQ := hide hbq
  clear hwq hbq hq c15
  go_wp2_with fail
  obtain ⟨m1, hm1⟩ : ∃ m1 : MS, m1 = { m with ticks := m.ticks + 1 } := ⟨_, rfl⟩
  obtain ⟨w0, hw0⟩ : ∃ w0, w0 = wq.setCell ⟨g, 16, none⟩ (.int .i64 ((m.ticks : Int) + 1)) := ⟨_, rfl⟩
  rw [← hw0]
  have h0 : Rep w0 B g m1 N O W C G S := by rw [hm1, hw0]; exact (unhide HQ).put 16 (.int .i64 ((m.ticks : Int) + 1)) { m with ticks := m.ticks + 1 } rfl rfl rfl rfl rfl rfl rfl
  have hF0 : Fr g m m1 w w0 := by rw [hm1, hw0]; exact (Fr.later (unhide HBQ)).trans (Fr.cell (m := m) (m' := { m with ticks := m.ticks + 1 }) 16 _ rfl rfl rfl rfl rfl rfl)
  have hnv1 : m1.nv = .slice (some ⟨gn, 0, none⟩) N.length cap := by rw [hm1]; exact (unhide HX).2
  have c2 : w0.cell? ⟨g, 2, none⟩ = some (.slice (some ⟨gn, 0, none⟩) N.length cap) := by rw [h0.c2, hnv1]
  have c6 : w0.cell? ⟨g, 6, none⟩ = some (.int .i64 (m.node : Int)) := by have := h0.c6; rw [hm1] at this; exact this
  have HM := hide hm1
  have H0 := hide h0
  have HF0 := hide hF0
  have HNV := hide hnv1
  clear h0 hF0 hw0 hm1 hnv1 c16 f16 HQ HBQ
  go_quiet (fail)
  obtain ⟨w1, hw1⟩ : ∃ w1, w1 = w0.drewN nq := ⟨_, rfl⟩
  rw [← hw1]
  have hb1 : Below w0.heap.size w0 w1 := by rw [hw1]; exact below_drewN (Below.refl _ _) _
  have h1 := (unhide H0).later hb1
  have c6 := cell_later hb1 c6
  have hcells : ∀ k u, (ndV x)[k]? = some u → w1.cell? ⟨gn, m.node * 10 + k, none⟩ = some u := fun k u hu => h1.nodes.cell ndV_len (unhide HNV) (unhide HX).1 hu
  have k0 : w1.cell? ⟨gn, m.node * 10, none⟩ = some (.int .i64 x.k) := hcells 0 _ rfl
  have k5 : w1.cell? ⟨gn, m.node * 10 + 5, none⟩ = some (.int .i64 (x.fi : Int)) := hcells 5 _ rfl
  have c0 : w1.cell? ⟨g, 0, none⟩ = some (.string m.s) := by have := h1.c0; rw [unhide HM] at this; exact this
  have c7 : w1.cell? ⟨g, 7, none⟩ = some (.int .i64 (m.i : Int)) := by have := h1.c7; rw [unhide HM] at this; exact this
  have c17 := h1.c17
  have f7 := h1.frozen 7
  have f17 := h1.frozen 17
  have HCE := hide hcells
  have HF1 := hide ((unhide HF0).trans (Fr.later hb1))
  have H1 := hide h1
  clear h1 hw1 hb1 c2 H0 HF0 hcells
  rcases hk with hk | hk | hk
  · have HE := hide (fun W0 hb => enter_any (w := W0) ((unhide H1).later hb) m.node x.fi x (unhide HX).1 hne hfi hW)
    rw [hk] at k0
    clear hk hne HCE
    go_wp2_with fail
    obtain ⟨S0, hS0⟩ : ∃ S0 : World → Prop, S0 = fun w' => w'.cell? ⟨g, 6, none⟩ = some (.int .i64 (m.node : Int)) ∧ w'.cell? ⟨gn, m.node * 10 + 5, none⟩ = some (.int .i64 (x.fi : Int)) := ⟨_, rfl⟩
    have HS0 := hide hS0
    have hS : S0 w1.drew := by rw [hS0]; exact ⟨c6, k5⟩
    clear hS0
    refine startE (by kernel_rfl) 9 S0 ⟨by kernel_rfl, by kernel_rfl, by kernel_rfl, rfl⟩ ?_
    intro F
    refine takeE F (i := 0) (oi := _) (v := ?v0a) rfl (by kernel_rfl) (by kernel_rfl) (by rfl) (fun _ _ _ h => h) hS (Or.inl ⟨by rfl, ?y0a⟩) ?r0a
    case y0a => (intro w hSw; rw [unhide HS0] at hSw; (try dsimp only at hSw); go_split_ands; (go_simp <;> (try with_reducible rfl)))
    (try go_frame)
    refine takeE F (i := 1) (oi := _) (v := ?v1a) rfl (by kernel_rfl) (by kernel_rfl) (by rfl) (fun _ _ _ h => h) hS (Or.inl ⟨by rfl, ?y1a⟩) ?r1a
    case y1a => (intro w hSw; rw [unhide HS0] at hSw; (try dsimp only at hSw); go_split_ands; (go_simp <;> (try with_reducible rfl)))
    (try go_frame)
    refine takeE F (i := 2) (oi := _) (v := ?v2a) rfl (by kernel_rfl) (by kernel_rfl) (by rfl) (fun _ _ _ h => h) hS (Or.inl ⟨by rfl, ?y2a⟩) ?r2a
    case y2a => (intro w hSw; rw [unhide HS0] at hSw; (try dsimp only at hSw); go_split_ands; (go_simp <;> (try with_reducible rfl)))
    (try go_frame)
    refine takeE F (i := 3) (oi := _) (v := ?v3a) rfl (by kernel_rfl) (by kernel_rfl) (by rfl) (fun _ _ _ h => h) hS (Or.inl ⟨by rfl, ?y3a⟩) ?r3a
    case y3a => (intro w hSw; rw [unhide HS0] at hSw; (try dsimp only at hSw); go_split_ands; (go_simp <;> (try with_reducible rfl)))
    (try go_frame)
    refine takeE F (i := 4) (oi := _) (v := ?v4a) rfl (by kernel_rfl) (by kernel_rfl) (by rfl) (fun _ _ _ h => h) hS (Or.inl ⟨by rfl, ?y4a⟩) ?r4a
    case y4a => (intro w hSw; rw [unhide HS0] at hSw; (try dsimp only at hSw); go_split_ands; (go_simp <;> (try with_reducible rfl)))
    (try go_frame)
    refine takeE F (i := 5) (oi := _) (v := ?v5a) rfl (by kernel_rfl) (by kernel_rfl) (by rfl) (fun _ _ _ h => h) hS (Or.inl ⟨by rfl, ?y5a⟩) ?r5a
    case y5a => (intro w hSw; rw [unhide HS0] at hSw; (try dsimp only at hSw); go_split_ands; (go_simp <;> (try with_reducible rfl)))
    (try go_frame)
    refine takeE F (i := 6) (oi := _) (v := ?v6a) rfl (by kernel_rfl) (by kernel_rfl) (by rfl) (fun _ _ _ h => h) hS (Or.inl ⟨by rfl, ?y6a⟩) ?r6a
    case y6a => (intro w hSw; rw [unhide HS0] at hSw; (try dsimp only at hSw); go_split_ands; (go_simp <;> (try with_reducible rfl)))
    (try go_frame)
    refine takeE F (i := 7) (oi := _) (v := ?v7a) rfl (by kernel_rfl) (by kernel_rfl) (by rfl) (fun _ _ _ h => h) hS (Or.inl ⟨by rfl, ?y7a⟩) ?r7a
    case y7a => (intro w hSw; rw [unhide HS0] at hSw; (try dsimp only at hSw); go_split_ands; (go_simp <;> (try with_reducible rfl)))
    (try go_frame)
    refine takeE F (i := 8) (oi := _) (v := ?v8a) rfl (by kernel_rfl) (by kernel_rfl) (by rfl) (fun _ _ _ h => h) hS (Or.inl ⟨by rfl, ?y8a⟩) ?r8a
    case y8a => (intro w hSw; rw [unhide HS0] at hSw; (try dsimp only at hSw); go_split_ands; (go_simp <;> (try with_reducible rfl)))
    (try go_frame)
    refine lastE (by kernel_rfl) rfl (by kernel_rfl) (fun K hK => ?_)
    go_simp
    have hb := (Below.refl w1.heap.size w1).drew
    refine (unhide HE _ hb).mono ?_
    rintro e w3 ⟨rfl, u, hr, hf⟩
    refine hK _ _ ?_
    have H3 := hide hr
    have HF3 := hide (((unhide HF1).trans (Fr.later hb)).trans hf)
    clear hr hf hK K hS F HS0 HE hb
    go_wp2_with fail
    go_ret
    have r2 := unhide H3
    have f := unhide HF3
    rw [unhide HM] at r2 f
    exact ⟨rfl, u, r2, f⟩
  · have HE := hide (fun W0 hb => enter_any (w := W0) ((unhide H1).later hb) m.node x.fi x (unhide HX).1 hne hfi hW)
    rw [hk] at k0
    clear hk hne HCE
    go_wp2_with fail
    obtain ⟨S0, hS0⟩ : ∃ S0 : World → Prop, S0 = fun w' => w'.cell? ⟨g, 6, none⟩ = some (.int .i64 (m.node : Int)) ∧ w'.cell? ⟨gn, m.node * 10 + 5, none⟩ = some (.int .i64 (x.fi : Int)) := ⟨_, rfl⟩
    have HS0 := hide hS0
    have hS : S0 w1.drew := by rw [hS0]; exact ⟨c6, k5⟩
    clear hS0
    refine startE (by kernel_rfl) 9 S0 ⟨by kernel_rfl, by kernel_rfl, by kernel_rfl, rfl⟩ ?_
    intro F
    refine takeE F (i := 0) (oi := _) (v := ?v0b) rfl (by kernel_rfl) (by kernel_rfl) (by rfl) (fun _ _ _ h => h) hS (Or.inl ⟨by rfl, ?y0b⟩) ?r0b
    case y0b => (intro w hSw; rw [unhide HS0] at hSw; (try dsimp only at hSw); go_split_ands; (go_simp <;> (try with_reducible rfl)))
    (try go_frame)
    refine takeE F (i := 1) (oi := _) (v := ?v1b) rfl (by kernel_rfl) (by kernel_rfl) (by rfl) (fun _ _ _ h => h) hS (Or.inl ⟨by rfl, ?y1b⟩) ?r1b
    case y1b => (intro w hSw; rw [unhide HS0] at hSw; (try dsimp only at hSw); go_split_ands; (go_simp <;> (try with_reducible rfl)))
    (try go_frame)
    refine takeE F (i := 2) (oi := _) (v := ?v2b) rfl (by kernel_rfl) (by kernel_rfl) (by rfl) (fun _ _ _ h => h) hS (Or.inl ⟨by rfl, ?y2b⟩) ?r2b
    case y2b => (intro w hSw; rw [unhide HS0] at hSw; (try dsimp only at hSw); go_split_ands; (go_simp <;> (try with_reducible rfl)))
    (try go_frame)
    refine takeE F (i := 3) (oi := _) (v := ?v3b) rfl (by kernel_rfl) (by kernel_rfl) (by rfl) (fun _ _ _ h => h) hS (Or.inl ⟨by rfl, ?y3b⟩) ?r3b
    case y3b => (intro w hSw; rw [unhide HS0] at hSw; (try dsimp only at hSw); go_split_ands; (go_simp <;> (try with_reducible rfl)))
    (try go_frame)
    refine takeE F (i := 4) (oi := _) (v := ?v4b) rfl (by kernel_rfl) (by kernel_rfl) (by rfl) (fun _ _ _ h => h) hS (Or.inl ⟨by rfl, ?y4b⟩) ?r4b
    case y4b => (intro w hSw; rw [unhide HS0] at hSw; (try dsimp only at hSw); go_split_ands; (go_simp <;> (try with_reducible rfl)))
    (try go_frame)
    refine takeE F (i := 5) (oi := _) (v := ?v5b) rfl (by kernel_rfl) (by kernel_rfl) (by rfl) (fun _ _ _ h => h) hS (Or.inl ⟨by rfl, ?y5b⟩) ?r5b
    case y5b => (intro w hSw; rw [unhide HS0] at hSw; (try dsimp only at hSw); go_split_ands; (go_simp <;> (try with_reducible rfl)))
    (try go_frame)
    refine takeE F (i := 6) (oi := _) (v := ?v6b) rfl (by kernel_rfl) (by kernel_rfl) (by rfl) (fun _ _ _ h => h) hS (Or.inl ⟨by rfl, ?y6b⟩) ?r6b
    case y6b => (intro w hSw; rw [unhide HS0] at hSw; (try dsimp only at hSw); go_split_ands; (go_simp <;> (try with_reducible rfl)))
    (try go_frame)
    refine takeE F (i := 7) (oi := _) (v := ?v7b) rfl (by kernel_rfl) (by kernel_rfl) (by rfl) (fun _ _ _ h => h) hS (Or.inl ⟨by rfl, ?y7b⟩) ?r7b
    case y7b => (intro w hSw; rw [unhide HS0] at hSw; (try dsimp only at hSw); go_split_ands; (go_simp <;> (try with_reducible rfl)))
    (try go_frame)
    refine takeE F (i := 8) (oi := _) (v := ?v8b) rfl (by kernel_rfl) (by kernel_rfl) (by rfl) (fun _ _ _ h => h) hS (Or.inl ⟨by rfl, ?y8b⟩) ?r8b
    case y8b => (intro w hSw; rw [unhide HS0] at hSw; (try dsimp only at hSw); go_split_ands; (go_simp <;> (try with_reducible rfl)))
    (try go_frame)
    refine lastE (by kernel_rfl) rfl (by kernel_rfl) (fun K hK => ?_)
    go_simp
    have hb := (Below.refl w1.heap.size w1).drew
    refine (unhide HE _ hb).mono ?_
    rintro e w3 ⟨rfl, u, hr, hf⟩
    refine hK _ _ ?_
    have H3 := hide hr
    have HF3 := hide (((unhide HF1).trans (Fr.later hb)).trans hf)
    clear hr hf hK K hS F HS0 HE hb
    go_wp2_with fail
    go_ret
    have r2 := unhide H3
    have f := unhide HF3
    rw [unhide HM] at r2 f
    exact ⟨rfl, u, r2, f⟩
  · have HE := hide (fun W0 hb => enter_any (w := W0) ((unhide H1).later hb) m.node x.fi x (unhide HX).1 hne hfi hW)
    rw [hk] at k0
    clear hk hne HCE
    go_wp2_with fail
    obtain ⟨S0, hS0⟩ : ∃ S0 : World → Prop, S0 = fun w' => w'.cell? ⟨g, 6, none⟩ = some (.int .i64 (m.node : Int)) ∧ w'.cell? ⟨gn, m.node * 10 + 5, none⟩ = some (.int .i64 (x.fi : Int)) := ⟨_, rfl⟩
    have HS0 := hide hS0
    have hS : S0 w1.drew := by rw [hS0]; exact ⟨c6, k5⟩
    clear hS0
    refine startE (by kernel_rfl) 9 S0 ⟨by kernel_rfl, by kernel_rfl, by kernel_rfl, rfl⟩ ?_
    intro F
    refine takeE F (i := 0) (oi := _) (v := ?v0c) rfl (by kernel_rfl) (by kernel_rfl) (by rfl) (fun _ _ _ h => h) hS (Or.inl ⟨by rfl, ?y0c⟩) ?r0c
    case y0c => (intro w hSw; rw [unhide HS0] at hSw; (try dsimp only at hSw); go_split_ands; (go_simp <;> (try with_reducible rfl)))
    (try go_frame)
    refine takeE F (i := 1) (oi := _) (v := ?v1c) rfl (by kernel_rfl) (by kernel_rfl) (by rfl) (fun _ _ _ h => h) hS (Or.inl ⟨by rfl, ?y1c⟩) ?r1c
    case y1c => (intro w hSw; rw [unhide HS0] at hSw; (try dsimp only at hSw); go_split_ands; (go_simp <;> (try with_reducible rfl)))
    (try go_frame)
    refine takeE F (i := 2) (oi := _) (v := ?v2c) rfl (by kernel_rfl) (by kernel_rfl) (by rfl) (fun _ _ _ h => h) hS (Or.inl ⟨by rfl, ?y2c⟩) ?r2c
    case y2c => (intro w hSw; rw [unhide HS0] at hSw; (try dsimp only at hSw); go_split_ands; (go_simp <;> (try with_reducible rfl)))
    (try go_frame)
    refine takeE F (i := 3) (oi := _) (v := ?v3c) rfl (by kernel_rfl) (by kernel_rfl) (by rfl) (fun _ _ _ h => h) hS (Or.inl ⟨by rfl, ?y3c⟩) ?r3c
    case y3c => (intro w hSw; rw [unhide HS0] at hSw; (try dsimp only at hSw); go_split_ands; (go_simp <;> (try with_reducible rfl)))
    (try go_frame)
    refine takeE F (i := 4) (oi := _) (v := ?v4c) rfl (by kernel_rfl) (by kernel_rfl) (by rfl) (fun _ _ _ h => h) hS (Or.inl ⟨by rfl, ?y4c⟩) ?r4c
    case y4c => (intro w hSw; rw [unhide HS0] at hSw; (try dsimp only at hSw); go_split_ands; (go_simp <;> (try with_reducible rfl)))
    (try go_frame)
    refine takeE F (i := 5) (oi := _) (v := ?v5c) rfl (by kernel_rfl) (by kernel_rfl) (by rfl) (fun _ _ _ h => h) hS (Or.inl ⟨by rfl, ?y5c⟩) ?r5c
    case y5c => (intro w hSw; rw [unhide HS0] at hSw; (try dsimp only at hSw); go_split_ands; (go_simp <;> (try with_reducible rfl)))
    (try go_frame)
    refine takeE F (i := 6) (oi := _) (v := ?v6c) rfl (by kernel_rfl) (by kernel_rfl) (by rfl) (fun _ _ _ h => h) hS (Or.inl ⟨by rfl, ?y6c⟩) ?r6c
    case y6c => (intro w hSw; rw [unhide HS0] at hSw; (try dsimp only at hSw); go_split_ands; (go_simp <;> (try with_reducible rfl)))
    (try go_frame)
    refine takeE F (i := 7) (oi := _) (v := ?v7c) rfl (by kernel_rfl) (by kernel_rfl) (by rfl) (fun _ _ _ h => h) hS (Or.inl ⟨by rfl, ?y7c⟩) ?r7c
    case y7c => (intro w hSw; rw [unhide HS0] at hSw; (try dsimp only at hSw); go_split_ands; (go_simp <;> (try with_reducible rfl)))
    (try go_frame)
    refine takeE F (i := 8) (oi := _) (v := ?v8c) rfl (by kernel_rfl) (by kernel_rfl) (by rfl) (fun _ _ _ h => h) hS (Or.inl ⟨by rfl, ?y8c⟩) ?r8c
    case y8c => (intro w hSw; rw [unhide HS0] at hSw; (try dsimp only at hSw); go_split_ands; (go_simp <;> (try with_reducible rfl)))
    (try go_frame)
    refine lastE (by kernel_rfl) rfl (by kernel_rfl) (fun K hK => ?_)
    go_simp
    have hb := (Below.refl w1.heap.size w1).drew
    refine (unhide HE _ hb).mono ?_
    rintro e w3 ⟨rfl, u, hr, hf⟩
    refine hK _ _ ?_
    have H3 := hide hr
    have HF3 := hide (((unhide HF1).trans (Fr.later hb)).trans hf)
    clear hr hf hK K hS F HS0 HE hb
    go_wp2_with fail
    go_ret
    have r2 := unhide H3
    have f := unhide HF3
    rw [unhide HM] at r2 f
    exact ⟨rfl, u, r2, f⟩
end Go.Proofs.YtkggmodabpjobaaDoor
