/- What follow does where something is told, of any contract of tell. What follow does at pieces one behind the other: the last one. What follow does at pieces one behind the other. What follow does at any number of times. What follow does at any number of times, where nothing was matched. What follow does where something is given. -/
import Derived.Test.YtkggmodabpjobaaDoorScanEnter
import Derived.Test.YtkggmodabpjobaaDoorScanChoose
import Derived.Test.YtkggmodabpjobaaDoorScanTell
import Derived.BigRegion
import Derived.Deep.QuietTactic
import Derived.BigQuiet
namespace Go.Proofs.YtkggmodabpjobaaDoor
open Go.RowKit

set_option maxRecDepth 100000 in
set_option maxHeartbeats 4000000 in
theorem follow_immQ {w : World} {B g : Nat} {m : MS} {N : List Nd} {O : List Int} {W : List Wr} {C : List Cr} {G S : List Gft} {r : Wr} {x : Nd} {bi : Nat} (h : Rep w B g m N O W C G S) (hb : m.b = (bi : Int)) (hr : W[bi]? = some r) (hx : N[r.node]? = some x) (hk : x.k = 22) (hri : r.i ≤ m.i) (hmi : m.i ≤ m.s.size) (_hs : m.s.size ≤ 65536) (Q : World → Prop) (hC : ∀ w1, Rep w1 B g { m with b := r.b } N O W C G S → Fr g m { m with b := r.b } w w1 → Calls Tryd.prog 32 #[.pointer (some ⟨g, 0, none⟩), .string x.nm, .string (m.s.extract r.i m.i)] w1 fun e w' => e = .returned (.tuple #[]) ∧ Q w') :
    Calls Tryd.prog 21 #[.pointer (some ⟨g, 0, none⟩)] w fun e w' => e = .returned (.int .i64 1) ∧ Q w' := by
  have hbl : bi < W.length := (List.getElem?_eq_some_iff.1 hr).1
  have hnl : r.node < N.length := (List.getElem?_eq_some_iff.1 hx).1
  obtain ⟨gn, cap, hnv, hcap, -⟩ := h.nodes.form (by intro e; rw [e] at hnl; simp at hnl)
  obtain ⟨gw, wc, hwv, hwc, -⟩ := h.works.form (by intro e; rw [e] at hbl; simp at hbl)
  have o0 : w.cell? ⟨gw, bi * 4, none⟩ = some (.int .i64 (r.node : Int)) := h.works.cell wrV_len hwv hr (k := 0) rfl
  have o1 : w.cell? ⟨gw, bi * 4 + 1, none⟩ = some (.int .i64 (r.kid : Int)) := h.works.cell wrV_len hwv hr (k := 1) rfl
  have o2 : w.cell? ⟨gw, bi * 4 + 2, none⟩ = some (.int .i64 (r.i : Int)) := h.works.cell wrV_len hwv hr (k := 2) rfl
  have o3 : w.cell? ⟨gw, bi * 4 + 3, none⟩ = some (.int .i64 r.b) := h.works.cell wrV_len hwv hr (k := 3) rfl
  have hib := idx_run (g := gw) (n := W.length) (cap := wc) Tryd.underlying51 size_work hbl
  have hia := idx_run (g := gn) (n := N.length) (cap := cap) Tryd.underlying49 size_node hnl
  have c2 := h.c2
  have c8 := h.c8
  have c9 := h.c9
  have f8 := h.frozen 8
  have hgl := h.lt
  have hwl : gw < w.heap.size := (h.works.low (k := gw) (by rw [hwv]; rfl)).2
  have hwz : ¬ gw = w.heap.size := by omega
  have hzw : ¬ w.heap.size = gw := by omega
  have hnz0 : gn < w.heap.size := (h.nodes.low (k := gn) (by rw [hnv]; rfl)).2
  have hnz : ¬ gn = w.heap.size := by omega
  have hng : ¬ gn = g := fun e => h.nodes.neBlk h.blk (by decide) (by rw [hnv, e]; rfl)
  have hgn : ¬ g = gn := fun e => hng e.symm
  have hgz : ¬ g = w.heap.size := by omega
  have hzg : ¬ w.heap.size = g := by omega
  rw [hnv] at c2
  rw [hwv] at c9
  rw [hb] at c8
  have HR := hide h
  have HX := hide (And.intro hx hnv)
  have HQC := hide hC
  clear h hr hx hnv hwv hb hC
  go_enter Tryd.func21, Tryd.ntmps21
  go_wp2_with fail
  go_region
  go_wp2_with fail
  obtain ⟨m1, hm1⟩ : ∃ m1 : MS, m1 = { m with b := r.b } := ⟨_, rfl⟩
  obtain ⟨w0, hw0⟩ : ∃ w0, w0 = ((w.setCell ⟨g, 8, none⟩ (.int .i64 r.b)).alloc (.cells #[.int .i64 (r.node : Int), .int .i64 (r.kid : Int), .int .i64 (r.i : Int), .int .i64 r.b] 81)).drew := ⟨_, rfl⟩
  rw [← hw0]
  have hbl0 : Below (w.setCell ⟨g, 8, none⟩ (.int .i64 r.b)).heap.size (w.setCell ⟨g, 8, none⟩ (.int .i64 r.b)) w0 := by rw [hw0]; exact ((Below.refl _ _).alloc (Nat.le_refl _) _).drew
  have h0 : Rep w0 B g m1 N O W C G S := by rw [hm1]; exact ((unhide HR).put 8 (.int .i64 r.b) { m with b := r.b } rfl rfl rfl rfl rfl rfl rfl).later hbl0
  have hF0 : Fr g m m1 w w0 := by rw [hm1]; exact (Fr.cell (m := m) (m' := { m with b := r.b }) 8 _ rfl rfl rfl rfl rfl rfl).trans (Fr.later hbl0)
  have hbox : w0.heap[w.heap.size]? = some (.cells #[.int .i64 (r.node : Int), .int .i64 (r.kid : Int), .int .i64 (r.i : Int), .int .i64 r.b] 81 (0, 0)) := by rw [hw0]; exact at_new (by simp)
  have hz0 : w.heap.size < w0.heap.size := (Array.getElem?_eq_some_iff.1 hbox).1
  obtain ⟨z, hz⟩ : ∃ z, z = w.heap.size := ⟨_, rfl⟩
  rw [← hz] at hbox hgz hzg hnz hz0 ⊢
  have p0 : w0.cell? ⟨z, 0, none⟩ = some (.int .i64 (r.node : Int)) := by rw [cell_of_row _ _ _ _ _ _ hbox]; rfl
  have p1 : w0.cell? ⟨z, 1, none⟩ = some (.int .i64 (r.kid : Int)) := by rw [cell_of_row _ _ _ _ _ _ hbox]; rfl
  have p2 : w0.cell? ⟨z, 2, none⟩ = some (.int .i64 (r.i : Int)) := by rw [cell_of_row _ _ _ _ _ _ hbox]; rfl
  have hnv1 : m1.nv = .slice (some ⟨gn, 0, none⟩) N.length cap := by rw [hm1]; exact (unhide HX).2
  have k0 : w0.cell? ⟨gn, r.node * 10, none⟩ = some (.int .i64 x.k) := h0.nodes.cell ndV_len hnv1 (unhide HX).1 (k := 0) rfl
  have k3 : w0.cell? ⟨gn, r.node * 10 + 3, none⟩ = some (.string x.nm) := h0.nodes.cell ndV_len hnv1 (unhide HX).1 (k := 3) rfl
  clear c2 c8 c9 f8
  have c2 : w0.cell? ⟨g, 2, none⟩ = some (.slice (some ⟨gn, 0, none⟩) N.length cap) := by rw [h0.c2, hnv1]
  have HM := hide hm1
  have H0 := hide h0
  have HF0 := hide hF0
  clear h0 hF0 hw0 hbl0 hm1 o0 o1 o2 o3 hib hwl hwz hzw hgl hnz0 hbox hnv1 hwc hz
  go_quiet (fail)
  obtain ⟨w1, hw1⟩ : ∃ w1, w1 = w0.drewN nq := ⟨_, rfl⟩
  rw [← hw1]
  have hb1 : Below w0.heap.size w0 w1 := by rw [hw1]; exact below_drewN (Below.refl _ _) _
  have h1 := (unhide H0).later hb1
  have p0 := cell_later hb1 p0
  have p1 := cell_later hb1 p1
  have p2 := cell_later hb1 p2
  have k0 := cell_later hb1 k0
  have k3 := cell_later hb1 k3
  have c0 : w1.cell? ⟨g, 0, none⟩ = some (.string m.s) := by have := h1.c0; rw [unhide HM] at this; exact this
  have c6 := h1.c6
  have c7 : w1.cell? ⟨g, 7, none⟩ = some (.int .i64 (m.i : Int)) := by have := h1.c7; rw [unhide HM] at this; exact this
  have c11 := h1.c11
  have f6 := h1.frozen 6
  have f11 := h1.frozen 11
  have HF1 := hide ((unhide HF0).trans (Fr.later hb1))
  have H1 := hide h1
  clear h1 hw1 hb1 c2 hz0 H0 HF0
  have h3 : (r.i : Int) ≤ (m.i : Int) := by omega
  have h4 : (m.i : Int) ≤ (m.s.size : Int) := by omega
  have hu := unhide H1
  have hv := unhide HF1
  rw [unhide HM] at hu hv
  have HE := hide (fun W0 (hb : Below w1.heap.size w1 W0) => unhide HQC W0 (hu.later hb) (hv.trans (Fr.later hb)))
  clear hu hv HQC
  rw [hk] at k0
  clear hk
  go_wp2_with fail
  obtain ⟨S0, hS0⟩ : ∃ S0 : World → Prop, S0 = fun w' => w'.cell? ⟨gn, r.node * 10 + 3, none⟩ = some (.string x.nm) ∧ w'.cell? ⟨g, 0, none⟩ = some (.string m.s) ∧ w'.cell? ⟨z, 2, none⟩ = some (.int .i64 (r.i : Int)) ∧ w'.cell? ⟨g, 7, none⟩ = some (.int .i64 (m.i : Int)) := ⟨_, rfl⟩
  have HS0 := hide hS0
  have hS : S0 w1.drew := by rw [hS0]; exact ⟨k3, c0, p2, c7⟩
  clear hS0
  refine startE (by kernel_rfl) 16 S0 ⟨by kernel_rfl, by kernel_rfl, by kernel_rfl, rfl⟩ ?_
  intro F
  refine takeE F (i := 0) (oi := _) (v := ?v0) rfl (by kernel_rfl) (by kernel_rfl) (by rfl) (fun _ _ _ h => h) hS (Or.inl ⟨by rfl, ?y0⟩) ?r0
  case y0 => (intro w hSw; rw [unhide HS0] at hSw; (try dsimp only at hSw); go_split_ands; (go_simp <;> (try with_reducible rfl)))
  (try go_frame)
  refine takeE F (i := 1) (oi := _) (v := ?v1) rfl (by kernel_rfl) (by kernel_rfl) (by rfl) (fun _ _ _ h => h) hS (Or.inl ⟨by rfl, ?y1⟩) ?r1
  case y1 => (intro w hSw; rw [unhide HS0] at hSw; (try dsimp only at hSw); go_split_ands; (go_simp <;> (try with_reducible rfl)))
  (try go_frame)
  refine takeE F (i := 2) (oi := _) (v := ?v2) rfl (by kernel_rfl) (by kernel_rfl) (by rfl) (fun _ _ _ h => h) hS (Or.inl ⟨by rfl, ?y2⟩) ?r2
  case y2 => (intro w hSw; rw [unhide HS0] at hSw; (try dsimp only at hSw); go_split_ands; (go_simp <;> (try with_reducible rfl)))
  (try go_frame)
  refine takeE F (i := 3) (oi := _) (v := ?v3) rfl (by kernel_rfl) (by kernel_rfl) (by rfl) (fun _ _ _ h => h) hS (Or.inl ⟨by rfl, ?y3⟩) ?r3
  case y3 => (intro w hSw; rw [unhide HS0] at hSw; (try dsimp only at hSw); go_split_ands; (go_simp <;> (try with_reducible rfl)))
  (try go_frame)
  refine takeE F (i := 4) (oi := _) (v := ?v4) rfl (by kernel_rfl) (by kernel_rfl) (by rfl) (fun _ _ _ h => h) hS (Or.inl ⟨by rfl, ?y4⟩) ?r4
  case y4 => (intro w hSw; rw [unhide HS0] at hSw; (try dsimp only at hSw); go_split_ands; (go_simp <;> (try with_reducible rfl)))
  (try go_frame)
  refine takeE F (i := 5) (oi := _) (v := ?v5) rfl (by kernel_rfl) (by kernel_rfl) (by rfl) (fun _ _ _ h => h) hS (Or.inl ⟨by rfl, ?y5⟩) ?r5
  case y5 => (intro w hSw; rw [unhide HS0] at hSw; (try dsimp only at hSw); go_split_ands; (go_simp <;> (try with_reducible rfl)))
  (try go_frame)
  refine takeE F (i := 6) (oi := _) (v := ?v6) rfl (by kernel_rfl) (by kernel_rfl) (by rfl) (fun _ _ _ h => h) hS (Or.inl ⟨by rfl, ?y6⟩) ?r6
  case y6 => (intro w hSw; rw [unhide HS0] at hSw; (try dsimp only at hSw); go_split_ands; (go_simp <;> (try with_reducible rfl)))
  (try go_frame)
  refine takeE F (i := 7) (oi := _) (v := ?v7) rfl (by kernel_rfl) (by kernel_rfl) (by rfl) (fun _ _ _ h => h) hS (Or.inl ⟨by rfl, ?y7⟩) ?r7
  case y7 => (intro w hSw; rw [unhide HS0] at hSw; (try dsimp only at hSw); go_split_ands; (go_simp <;> (try with_reducible rfl)))
  (try go_frame)
  refine takeE F (i := 8) (oi := _) (v := ?v8) rfl (by kernel_rfl) (by kernel_rfl) (by rfl) (fun _ _ _ h => h) hS (Or.inl ⟨by rfl, ?y8⟩) ?r8
  case y8 => (intro w hSw; rw [unhide HS0] at hSw; (try dsimp only at hSw); go_split_ands; (go_simp <;> (try with_reducible rfl)))
  (try go_frame)
  refine takeE F (i := 9) (oi := _) (v := ?v9) rfl (by kernel_rfl) (by kernel_rfl) (by rfl) (fun _ _ _ h => h) hS (Or.inl ⟨by rfl, ?y9⟩) ?r9
  case y9 => (intro w hSw; rw [unhide HS0] at hSw; (try dsimp only at hSw); go_split_ands; (go_simp <;> (try with_reducible rfl)))
  (try go_frame)
  refine takeE F (i := 10) (oi := _) (v := ?v10) rfl (by kernel_rfl) (by kernel_rfl) (by rfl) (fun _ _ _ h => h) hS (Or.inl ⟨by rfl, ?y10⟩) ?r10
  case y10 => (intro w hSw; rw [unhide HS0] at hSw; (try dsimp only at hSw); go_split_ands; (go_simp <;> (try with_reducible rfl)))
  (try go_frame)
  refine takeE F (i := 11) (oi := _) (v := ?v11) rfl (by kernel_rfl) (by kernel_rfl) (by rfl) (fun _ _ _ h => h) hS (Or.inl ⟨by rfl, ?y11⟩) ?r11
  case y11 => (intro w hSw; rw [unhide HS0] at hSw; (try dsimp only at hSw); go_split_ands; (go_simp <;> (try with_reducible rfl)))
  (try go_frame)
  refine takeE F (i := 12) (oi := _) (v := ?v12) rfl (by kernel_rfl) (by kernel_rfl) (by rfl) (fun _ _ _ h => h) hS (Or.inl ⟨by rfl, ?y12⟩) ?r12
  case y12 => (intro w hSw; rw [unhide HS0] at hSw; (try dsimp only at hSw); go_split_ands; (go_simp <;> (try with_reducible rfl)))
  (try go_frame)
  refine takeE F (i := 13) (oi := _) (v := ?v13) rfl (by kernel_rfl) (by kernel_rfl) (by rfl) (fun _ _ _ h => h) hS (Or.inl ⟨by rfl, ?y13⟩) ?r13
  case y13 => (intro w hSw; rw [unhide HS0] at hSw; (try dsimp only at hSw); go_split_ands; (go_simp <;> (try with_reducible rfl)))
  (try go_frame)
  refine takeE F (i := 14) (oi := _) (v := ?v14) rfl (by kernel_rfl) (by kernel_rfl) (by rfl) (fun _ _ _ h => h) hS (Or.inl ⟨by rfl, ?y14⟩) ?r14
  case y14 => (intro w hSw; rw [unhide HS0] at hSw; (try dsimp only at hSw); go_split_ands; (go_simp <;> (try with_reducible rfl)))
  (try go_frame)
  refine takeE F (i := 15) (oi := _) (v := ?v15) rfl (by kernel_rfl) (by kernel_rfl) (by rfl) (fun _ _ _ h => h) hS (Or.inl ⟨by rfl, ?y15⟩) ?r15
  case y15 => (intro w hSw; rw [unhide HS0] at hSw; (try dsimp only at hSw); go_split_ands; (go_simp <;> (try with_reducible rfl)))
  (try go_frame)
  refine lastE (by kernel_rfl) rfl (by kernel_rfl) (fun K hK => ?_)
  go_simp
  have hb2 := (Below.refl w1.heap.size w1).drew
  refine (unhide HE _ hb2).mono ?_
  rintro e w3 ⟨rfl, hr3⟩
  refine hK _ _ ?_
  have H3 := hide hr3
  clear hr3 hK K hS F HS0 HE hb2
  go_wp2_with fail
  go_ret
  exact ⟨rfl, unhide H3⟩
end Go.Proofs.YtkggmodabpjobaaDoor

namespace Go.Proofs.YtkggmodabpjobaaDoor
open Go.RowKit

set_option maxRecDepth 100000 in
set_option maxHeartbeats 4000000 in
theorem follow_last {w : World} {B g : Nat} {m : MS} {N : List Nd} {O : List Int} {W : List Wr} {C : List Cr} {G S : List Gft} {r : Wr} {x : Nd} {bi : Nat} (h : Rep w B g m N O W C G S) (hb : m.b = (bi : Int)) (hr : W[bi]? = some r) (hx : N[r.node]? = some x) (hk : x.k = 18) (he : r.kid + 2 = x.en) (hb2 : r.kid < 999999) :
    Calls Tryd.prog 21 #[.pointer (some ⟨g, 0, none⟩)] w fun e w' => e = .returned (.int .i64 0) ∧ Rep w' B g { m with b := r.b, node := r.kid + 1 } N O W C G S ∧ Fr g m { m with b := r.b, node := r.kid + 1 } w w' := by
  have hbl : bi < W.length := (List.getElem?_eq_some_iff.1 hr).1
  have hnl : r.node < N.length := (List.getElem?_eq_some_iff.1 hx).1
  obtain ⟨gn, cap, hnv, hcap, -⟩ := h.nodes.form (by intro e; rw [e] at hnl; simp at hnl)
  obtain ⟨gw, wc, hwv, hwc, -⟩ := h.works.form (by intro e; rw [e] at hbl; simp at hbl)
  have o0 : w.cell? ⟨gw, bi * 4, none⟩ = some (.int .i64 (r.node : Int)) := h.works.cell wrV_len hwv hr (k := 0) rfl
  have o1 : w.cell? ⟨gw, bi * 4 + 1, none⟩ = some (.int .i64 (r.kid : Int)) := h.works.cell wrV_len hwv hr (k := 1) rfl
  have o2 : w.cell? ⟨gw, bi * 4 + 2, none⟩ = some (.int .i64 (r.i : Int)) := h.works.cell wrV_len hwv hr (k := 2) rfl
  have o3 : w.cell? ⟨gw, bi * 4 + 3, none⟩ = some (.int .i64 r.b) := h.works.cell wrV_len hwv hr (k := 3) rfl
  have hib := idx_run (g := gw) (n := W.length) (cap := wc) Tryd.underlying51 size_work hbl
  have hia := idx_run (g := gn) (n := N.length) (cap := cap) Tryd.underlying49 size_node hnl
  have c2 := h.c2
  have c8 := h.c8
  have c9 := h.c9
  have f8 := h.frozen 8
  have hgl := h.lt
  have hwl : gw < w.heap.size := (h.works.low (k := gw) (by rw [hwv]; rfl)).2
  have hwz : ¬ gw = w.heap.size := by omega
  have hzw : ¬ w.heap.size = gw := by omega
  have hnz0 : gn < w.heap.size := (h.nodes.low (k := gn) (by rw [hnv]; rfl)).2
  have hnz : ¬ gn = w.heap.size := by omega
  have hng : ¬ gn = g := fun e => h.nodes.neBlk h.blk (by decide) (by rw [hnv, e]; rfl)
  have hgn : ¬ g = gn := fun e => hng e.symm
  have hgz : ¬ g = w.heap.size := by omega
  have hzg : ¬ w.heap.size = g := by omega
  rw [hnv] at c2
  rw [hwv] at c9
  rw [hb] at c8
  have HR := hide h
  have HX := hide (And.intro hx hnv)
  clear h hr hx hnv hwv hb
  go_enter Tryd.func21, Tryd.ntmps21
  go_wp2_with fail
  go_region
  go_wp2_with fail
  obtain ⟨m1, hm1⟩ : ∃ m1 : MS, m1 = { m with b := r.b } := ⟨_, rfl⟩
  obtain ⟨w0, hw0⟩ : ∃ w0, w0 = ((w.setCell ⟨g, 8, none⟩ (.int .i64 r.b)).alloc (.cells #[.int .i64 (r.node : Int), .int .i64 (r.kid : Int), .int .i64 (r.i : Int), .int .i64 r.b] 81)).drew := ⟨_, rfl⟩
  rw [← hw0]
  have hbl0 : Below (w.setCell ⟨g, 8, none⟩ (.int .i64 r.b)).heap.size (w.setCell ⟨g, 8, none⟩ (.int .i64 r.b)) w0 := by rw [hw0]; exact ((Below.refl _ _).alloc (Nat.le_refl _) _).drew
  have h0 : Rep w0 B g m1 N O W C G S := by rw [hm1]; exact ((unhide HR).put 8 (.int .i64 r.b) { m with b := r.b } rfl rfl rfl rfl rfl rfl rfl).later hbl0
  have hF0 : Fr g m m1 w w0 := by rw [hm1]; exact (Fr.cell (m := m) (m' := { m with b := r.b }) 8 _ rfl rfl rfl rfl rfl rfl).trans (Fr.later hbl0)
  have hbox : w0.heap[w.heap.size]? = some (.cells #[.int .i64 (r.node : Int), .int .i64 (r.kid : Int), .int .i64 (r.i : Int), .int .i64 r.b] 81 (0, 0)) := by rw [hw0]; exact at_new (by simp)
  have hz0 : w.heap.size < w0.heap.size := (Array.getElem?_eq_some_iff.1 hbox).1
  obtain ⟨z, hz⟩ : ∃ z, z = w.heap.size := ⟨_, rfl⟩
  rw [← hz] at hbox hgz hzg hnz hz0 ⊢
  have p0 : w0.cell? ⟨z, 0, none⟩ = some (.int .i64 (r.node : Int)) := by rw [cell_of_row _ _ _ _ _ _ hbox]; rfl
  have p1 : w0.cell? ⟨z, 1, none⟩ = some (.int .i64 (r.kid : Int)) := by rw [cell_of_row _ _ _ _ _ _ hbox]; rfl
  have p2 : w0.cell? ⟨z, 2, none⟩ = some (.int .i64 (r.i : Int)) := by rw [cell_of_row _ _ _ _ _ _ hbox]; rfl
  have hnv1 : m1.nv = .slice (some ⟨gn, 0, none⟩) N.length cap := by rw [hm1]; exact (unhide HX).2
  have k0 : w0.cell? ⟨gn, r.node * 10, none⟩ = some (.int .i64 x.k) := h0.nodes.cell ndV_len hnv1 (unhide HX).1 (k := 0) rfl
  have k3 : w0.cell? ⟨gn, r.node * 10 + 3, none⟩ = some (.string x.nm) := h0.nodes.cell ndV_len hnv1 (unhide HX).1 (k := 3) rfl
  clear c2 c8 c9 f8
  have c2 : w0.cell? ⟨g, 2, none⟩ = some (.slice (some ⟨gn, 0, none⟩) N.length cap) := by rw [h0.c2, hnv1]
  have HM := hide hm1
  have H0 := hide h0
  have HF0 := hide hF0
  clear h0 hF0 hw0 hbl0 hm1 o0 o1 o2 o3 hib hwl hwz hzw hgl hnz0 hbox hnv1 hwc hz
  go_quiet (fail)
  obtain ⟨w1, hw1⟩ : ∃ w1, w1 = w0.drewN nq := ⟨_, rfl⟩
  rw [← hw1]
  have hb1 : Below w0.heap.size w0 w1 := by rw [hw1]; exact below_drewN (Below.refl _ _) _
  have h1 := (unhide H0).later hb1
  have p0 := cell_later hb1 p0
  have p1 := cell_later hb1 p1
  have p2 := cell_later hb1 p2
  have k0 := cell_later hb1 k0
  have k3 := cell_later hb1 k3
  have c0 : w1.cell? ⟨g, 0, none⟩ = some (.string m.s) := by have := h1.c0; rw [unhide HM] at this; exact this
  have c6 := h1.c6
  have c7 : w1.cell? ⟨g, 7, none⟩ = some (.int .i64 (m.i : Int)) := by have := h1.c7; rw [unhide HM] at this; exact this
  have c11 := h1.c11
  have f6 := h1.frozen 6
  have f11 := h1.frozen 11
  have HF1 := hide ((unhide HF0).trans (Fr.later hb1))
  have H1 := hide h1
  clear h1 hw1 hb1 c2 hz0 H0 HF0
  have HE := hide (fun W0 hb => enter_last (w := W0) ((unhide H1).later hb) r.node (r.kid + 1) x (unhide HX).1 hk (by omega) (by omega))
  rw [hk] at k0
  clear hk
  go_wp2_with fail
  refine (unhide HE _ (Below.refl _ _)).mono ?_
  rintro e w2 ⟨rfl, h2, f2⟩
  have H2 := hide h2
  have F2 := hide f2
  clear h2 f2 HE
  go_wp2_with fail
  go_ret
  have r2 := unhide H2
  have f := (unhide HF1).trans (unhide F2)
  rw [unhide HM] at r2 f
  exact ⟨rfl, r2, f⟩
end Go.Proofs.YtkggmodabpjobaaDoor

namespace Go.Proofs.YtkggmodabpjobaaDoor
open Go.RowKit

set_option maxRecDepth 100000 in
set_option maxHeartbeats 4000000 in
theorem follow_cat {w : World} {B g : Nat} {m : MS} {N : List Nd} {O : List Int} {W : List Wr} {C : List Cr} {G S : List Gft} {r : Wr} {x : Nd} {bi : Nat} (h : Rep w B g m N O W C G S) (hb : m.b = (bi : Int)) (hr : W[bi]? = some r) (hx : N[r.node]? = some x) (hk : x.k = 18) (he : r.kid + 2 ≠ x.en) (hb2 : r.kid < 999999) (hW : W.length ≤ 1000000) :
    Calls Tryd.prog 21 #[.pointer (some ⟨g, 0, none⟩)] w fun e w' => e = .returned (.int .i64 0) ∧ ∃ v, Rep w' B g { m with b := (W.length : Int), node := r.kid + 1, wv := v } N O (W ++ [⟨r.node, r.kid + 1, m.i, r.b⟩]) C G S ∧ Fr g m { m with b := (W.length : Int), node := r.kid + 1, wv := v } w w' := by
  have hbl : bi < W.length := (List.getElem?_eq_some_iff.1 hr).1
  have hnl : r.node < N.length := (List.getElem?_eq_some_iff.1 hx).1
  obtain ⟨gn, cap, hnv, hcap, -⟩ := h.nodes.form (by intro e; rw [e] at hnl; simp at hnl)
  obtain ⟨gw, wc, hwv, hwc, -⟩ := h.works.form (by intro e; rw [e] at hbl; simp at hbl)
  have o0 : w.cell? ⟨gw, bi * 4, none⟩ = some (.int .i64 (r.node : Int)) := h.works.cell wrV_len hwv hr (k := 0) rfl
  have o1 : w.cell? ⟨gw, bi * 4 + 1, none⟩ = some (.int .i64 (r.kid : Int)) := h.works.cell wrV_len hwv hr (k := 1) rfl
  have o2 : w.cell? ⟨gw, bi * 4 + 2, none⟩ = some (.int .i64 (r.i : Int)) := h.works.cell wrV_len hwv hr (k := 2) rfl
  have o3 : w.cell? ⟨gw, bi * 4 + 3, none⟩ = some (.int .i64 r.b) := h.works.cell wrV_len hwv hr (k := 3) rfl
  have hib := idx_run (g := gw) (n := W.length) (cap := wc) Tryd.underlying51 size_work hbl
  have hia := idx_run (g := gn) (n := N.length) (cap := cap) Tryd.underlying49 size_node hnl
  have c2 := h.c2
  have c8 := h.c8
  have c9 := h.c9
  have f8 := h.frozen 8
  have hgl := h.lt
  have hwl : gw < w.heap.size := (h.works.low (k := gw) (by rw [hwv]; rfl)).2
  have hwz : ¬ gw = w.heap.size := by omega
  have hzw : ¬ w.heap.size = gw := by omega
  have hnz0 : gn < w.heap.size := (h.nodes.low (k := gn) (by rw [hnv]; rfl)).2
  have hnz : ¬ gn = w.heap.size := by omega
  have hng : ¬ gn = g := fun e => h.nodes.neBlk h.blk (by decide) (by rw [hnv, e]; rfl)
  have hgn : ¬ g = gn := fun e => hng e.symm
  have hgz : ¬ g = w.heap.size := by omega
  have hzg : ¬ w.heap.size = g := by omega
  rw [hnv] at c2
  rw [hwv] at c9
  rw [hb] at c8
  have HR := hide h
  have HX := hide (And.intro hx hnv)
  clear h hr hx hnv hwv hb
  go_enter Tryd.func21, Tryd.ntmps21
  go_wp2_with fail
  go_region
  go_wp2_with fail
  obtain ⟨m1, hm1⟩ : ∃ m1 : MS, m1 = { m with b := r.b } := ⟨_, rfl⟩
  obtain ⟨w0, hw0⟩ : ∃ w0, w0 = ((w.setCell ⟨g, 8, none⟩ (.int .i64 r.b)).alloc (.cells #[.int .i64 (r.node : Int), .int .i64 (r.kid : Int), .int .i64 (r.i : Int), .int .i64 r.b] 81)).drew := ⟨_, rfl⟩
  rw [← hw0]
  have hbl0 : Below (w.setCell ⟨g, 8, none⟩ (.int .i64 r.b)).heap.size (w.setCell ⟨g, 8, none⟩ (.int .i64 r.b)) w0 := by rw [hw0]; exact ((Below.refl _ _).alloc (Nat.le_refl _) _).drew
  have h0 : Rep w0 B g m1 N O W C G S := by rw [hm1]; exact ((unhide HR).put 8 (.int .i64 r.b) { m with b := r.b } rfl rfl rfl rfl rfl rfl rfl).later hbl0
  have hF0 : Fr g m m1 w w0 := by rw [hm1]; exact (Fr.cell (m := m) (m' := { m with b := r.b }) 8 _ rfl rfl rfl rfl rfl rfl).trans (Fr.later hbl0)
  have hbox : w0.heap[w.heap.size]? = some (.cells #[.int .i64 (r.node : Int), .int .i64 (r.kid : Int), .int .i64 (r.i : Int), .int .i64 r.b] 81 (0, 0)) := by rw [hw0]; exact at_new (by simp)
  have hz0 : w.heap.size < w0.heap.size := (Array.getElem?_eq_some_iff.1 hbox).1
  obtain ⟨z, hz⟩ : ∃ z, z = w.heap.size := ⟨_, rfl⟩
  rw [← hz] at hbox hgz hzg hnz hz0 ⊢
  have p0 : w0.cell? ⟨z, 0, none⟩ = some (.int .i64 (r.node : Int)) := by rw [cell_of_row _ _ _ _ _ _ hbox]; rfl
  have p1 : w0.cell? ⟨z, 1, none⟩ = some (.int .i64 (r.kid : Int)) := by rw [cell_of_row _ _ _ _ _ _ hbox]; rfl
  have p2 : w0.cell? ⟨z, 2, none⟩ = some (.int .i64 (r.i : Int)) := by rw [cell_of_row _ _ _ _ _ _ hbox]; rfl
  have hnv1 : m1.nv = .slice (some ⟨gn, 0, none⟩) N.length cap := by rw [hm1]; exact (unhide HX).2
  have k0 : w0.cell? ⟨gn, r.node * 10, none⟩ = some (.int .i64 x.k) := h0.nodes.cell ndV_len hnv1 (unhide HX).1 (k := 0) rfl
  have k3 : w0.cell? ⟨gn, r.node * 10 + 3, none⟩ = some (.string x.nm) := h0.nodes.cell ndV_len hnv1 (unhide HX).1 (k := 3) rfl
  clear c2 c8 c9 f8
  have c2 : w0.cell? ⟨g, 2, none⟩ = some (.slice (some ⟨gn, 0, none⟩) N.length cap) := by rw [h0.c2, hnv1]
  have HM := hide hm1
  have H0 := hide h0
  have HF0 := hide hF0
  clear h0 hF0 hw0 hbl0 hm1 o0 o1 o2 o3 hib hwl hwz hzw hgl hnz0 hbox hnv1 hwc hz
  go_quiet (fail)
  obtain ⟨w1, hw1⟩ : ∃ w1, w1 = w0.drewN nq := ⟨_, rfl⟩
  rw [← hw1]
  have hb1 : Below w0.heap.size w0 w1 := by rw [hw1]; exact below_drewN (Below.refl _ _) _
  have h1 := (unhide H0).later hb1
  have p0 := cell_later hb1 p0
  have p1 := cell_later hb1 p1
  have p2 := cell_later hb1 p2
  have k0 := cell_later hb1 k0
  have k3 := cell_later hb1 k3
  have c0 : w1.cell? ⟨g, 0, none⟩ = some (.string m.s) := by have := h1.c0; rw [unhide HM] at this; exact this
  have c6 := h1.c6
  have c7 : w1.cell? ⟨g, 7, none⟩ = some (.int .i64 (m.i : Int)) := by have := h1.c7; rw [unhide HM] at this; exact this
  have c11 := h1.c11
  have f6 := h1.frozen 6
  have f11 := h1.frozen 11
  have HF1 := hide ((unhide HF0).trans (Fr.later hb1))
  have H1 := hide h1
  clear h1 hw1 hb1 c2 hz0 H0 HF0
  have HE := hide (fun W0 hb => enter_any (w := W0) ((unhide H1).later hb) r.node (r.kid + 1) x (unhide HX).1 (.inr (by omega)) (by omega) hW)
  rw [hk] at k0
  clear hk
  go_wp2_with fail
  refine (unhide HE _ (Below.refl _ _)).mono ?_
  rintro e w2 ⟨rfl, v, h2, f2⟩
  have H2 := hide h2
  have F2 := hide f2
  clear h2 f2 HE
  go_wp2_with fail
  go_ret
  have r2 := unhide H2
  have f := (unhide HF1).trans (unhide F2)
  rw [unhide HM] at r2 f
  exact ⟨rfl, v, r2, f⟩
end Go.Proofs.YtkggmodabpjobaaDoor

namespace Go.Proofs.YtkggmodabpjobaaDoor
open Go.RowKit

set_option maxRecDepth 100000 in
set_option maxHeartbeats 4000000 in
theorem follow_arbno {w : World} {B g : Nat} {m : MS} {N : List Nd} {O : List Int} {W : List Wr} {C : List Cr} {G S : List Gft} {r : Wr} {x : Nd} {bi : Nat} (h : Rep w B g m N O W C G S) (hb : m.b = (bi : Int)) (hr : W[bi]? = some r) (hx : N[r.node]? = some x) (hk : x.k = 20) (hi : m.i ≠ r.i) (hC : C.length ≤ 1000000) :
    Calls Tryd.prog 21 #[.pointer (some ⟨g, 0, none⟩)] w fun e w' => e = .returned (.int .i64 1) ∧ ∃ v, Rep w' B g { m with b := r.b, node := r.node, cv := v } N O W (C ++ [⟨r.node, -1, m.i, r.b, W.length, G.length⟩]) G S ∧ Fr g m { m with b := r.b, node := r.node, cv := v } w w' := by
  have hbl : bi < W.length := (List.getElem?_eq_some_iff.1 hr).1
  have hnl : r.node < N.length := (List.getElem?_eq_some_iff.1 hx).1
  obtain ⟨gn, cap, hnv, hcap, -⟩ := h.nodes.form (by intro e; rw [e] at hnl; simp at hnl)
  obtain ⟨gw, wc, hwv, hwc, -⟩ := h.works.form (by intro e; rw [e] at hbl; simp at hbl)
  have o0 : w.cell? ⟨gw, bi * 4, none⟩ = some (.int .i64 (r.node : Int)) := h.works.cell wrV_len hwv hr (k := 0) rfl
  have o1 : w.cell? ⟨gw, bi * 4 + 1, none⟩ = some (.int .i64 (r.kid : Int)) := h.works.cell wrV_len hwv hr (k := 1) rfl
  have o2 : w.cell? ⟨gw, bi * 4 + 2, none⟩ = some (.int .i64 (r.i : Int)) := h.works.cell wrV_len hwv hr (k := 2) rfl
  have o3 : w.cell? ⟨gw, bi * 4 + 3, none⟩ = some (.int .i64 r.b) := h.works.cell wrV_len hwv hr (k := 3) rfl
  have hib := idx_run (g := gw) (n := W.length) (cap := wc) Tryd.underlying51 size_work hbl
  have hia := idx_run (g := gn) (n := N.length) (cap := cap) Tryd.underlying49 size_node hnl
  have c2 := h.c2
  have c8 := h.c8
  have c9 := h.c9
  have f8 := h.frozen 8
  have hgl := h.lt
  have hwl : gw < w.heap.size := (h.works.low (k := gw) (by rw [hwv]; rfl)).2
  have hwz : ¬ gw = w.heap.size := by omega
  have hzw : ¬ w.heap.size = gw := by omega
  have hnz0 : gn < w.heap.size := (h.nodes.low (k := gn) (by rw [hnv]; rfl)).2
  have hnz : ¬ gn = w.heap.size := by omega
  have hng : ¬ gn = g := fun e => h.nodes.neBlk h.blk (by decide) (by rw [hnv, e]; rfl)
  have hgn : ¬ g = gn := fun e => hng e.symm
  have hgz : ¬ g = w.heap.size := by omega
  have hzg : ¬ w.heap.size = g := by omega
  rw [hnv] at c2
  rw [hwv] at c9
  rw [hb] at c8
  have HR := hide h
  have HX := hide (And.intro hx hnv)
  clear h hr hx hnv hwv hb
  go_enter Tryd.func21, Tryd.ntmps21
  go_wp2_with fail
  go_region
  go_wp2_with fail
  obtain ⟨m1, hm1⟩ : ∃ m1 : MS, m1 = { m with b := r.b } := ⟨_, rfl⟩
  obtain ⟨w0, hw0⟩ : ∃ w0, w0 = ((w.setCell ⟨g, 8, none⟩ (.int .i64 r.b)).alloc (.cells #[.int .i64 (r.node : Int), .int .i64 (r.kid : Int), .int .i64 (r.i : Int), .int .i64 r.b] 81)).drew := ⟨_, rfl⟩
  rw [← hw0]
  have hbl0 : Below (w.setCell ⟨g, 8, none⟩ (.int .i64 r.b)).heap.size (w.setCell ⟨g, 8, none⟩ (.int .i64 r.b)) w0 := by rw [hw0]; exact ((Below.refl _ _).alloc (Nat.le_refl _) _).drew
  have h0 : Rep w0 B g m1 N O W C G S := by rw [hm1]; exact ((unhide HR).put 8 (.int .i64 r.b) { m with b := r.b } rfl rfl rfl rfl rfl rfl rfl).later hbl0
  have hF0 : Fr g m m1 w w0 := by rw [hm1]; exact (Fr.cell (m := m) (m' := { m with b := r.b }) 8 _ rfl rfl rfl rfl rfl rfl).trans (Fr.later hbl0)
  have hbox : w0.heap[w.heap.size]? = some (.cells #[.int .i64 (r.node : Int), .int .i64 (r.kid : Int), .int .i64 (r.i : Int), .int .i64 r.b] 81 (0, 0)) := by rw [hw0]; exact at_new (by simp)
  have hz0 : w.heap.size < w0.heap.size := (Array.getElem?_eq_some_iff.1 hbox).1
  obtain ⟨z, hz⟩ : ∃ z, z = w.heap.size := ⟨_, rfl⟩
  rw [← hz] at hbox hgz hzg hnz hz0 ⊢
  have p0 : w0.cell? ⟨z, 0, none⟩ = some (.int .i64 (r.node : Int)) := by rw [cell_of_row _ _ _ _ _ _ hbox]; rfl
  have p1 : w0.cell? ⟨z, 1, none⟩ = some (.int .i64 (r.kid : Int)) := by rw [cell_of_row _ _ _ _ _ _ hbox]; rfl
  have p2 : w0.cell? ⟨z, 2, none⟩ = some (.int .i64 (r.i : Int)) := by rw [cell_of_row _ _ _ _ _ _ hbox]; rfl
  have hnv1 : m1.nv = .slice (some ⟨gn, 0, none⟩) N.length cap := by rw [hm1]; exact (unhide HX).2
  have k0 : w0.cell? ⟨gn, r.node * 10, none⟩ = some (.int .i64 x.k) := h0.nodes.cell ndV_len hnv1 (unhide HX).1 (k := 0) rfl
  have k3 : w0.cell? ⟨gn, r.node * 10 + 3, none⟩ = some (.string x.nm) := h0.nodes.cell ndV_len hnv1 (unhide HX).1 (k := 3) rfl
  clear c2 c8 c9 f8
  have c2 : w0.cell? ⟨g, 2, none⟩ = some (.slice (some ⟨gn, 0, none⟩) N.length cap) := by rw [h0.c2, hnv1]
  have HM := hide hm1
  have H0 := hide h0
  have HF0 := hide hF0
  clear h0 hF0 hw0 hbl0 hm1 o0 o1 o2 o3 hib hwl hwz hzw hgl hnz0 hbox hnv1 hwc hz
  go_quiet (fail)
  obtain ⟨w1, hw1⟩ : ∃ w1, w1 = w0.drewN nq := ⟨_, rfl⟩
  rw [← hw1]
  have hb1 : Below w0.heap.size w0 w1 := by rw [hw1]; exact below_drewN (Below.refl _ _) _
  have h1 := (unhide H0).later hb1
  have p0 := cell_later hb1 p0
  have p1 := cell_later hb1 p1
  have p2 := cell_later hb1 p2
  have k0 := cell_later hb1 k0
  have k3 := cell_later hb1 k3
  have c0 : w1.cell? ⟨g, 0, none⟩ = some (.string m.s) := by have := h1.c0; rw [unhide HM] at this; exact this
  have c6 := h1.c6
  have c7 : w1.cell? ⟨g, 7, none⟩ = some (.int .i64 (m.i : Int)) := by have := h1.c7; rw [unhide HM] at this; exact this
  have c11 := h1.c11
  have f6 := h1.frozen 6
  have f11 := h1.frozen 11
  have HF1 := hide ((unhide HF0).trans (Fr.later hb1))
  have H1 := hide h1
  clear h1 hw1 hb1 c2 hz0 H0 HF0
  have h3 : ((m.i : Int) == (r.i : Int)) = false := by rw [beq_eq_false_iff_ne]; omega
  rw [hk] at k0
  clear hk
  go_wp2_with fail
  go_quiet (fail)
  obtain ⟨w2, hw2⟩ : ∃ w2, w2 = w1.drewN nq := ⟨_, rfl⟩
  rw [← hw2]
  have hb2 : Below w1.heap.size w1 w2 := by rw [hw2]; exact below_drewN (Below.refl _ _) _
  have p0 := cell_later hb2 p0
  have c6 := cell_later hb2 c6
  have r9 := ((unhide H1).later hb2).put 6 (.int .i64 (r.node : Int)) { m1 with node := r.node } rfl rfl rfl rfl rfl rfl rfl
  have f9 := ((unhide HF1).trans (Fr.later hb2)).trans (Fr.cell (m' := { m1 with node := r.node }) 6 (.int .i64 (r.node : Int)) rfl rfl rfl rfl rfl rfl)
  have f6 := ((unhide H1).later hb2).frozen 6
  have HE := hide (choose_any r9 (-1) hC)
  have HF6 := hide f9
  clear r9 f9 hw2 hb2 p1 p2 k0 k3 c0 c7 c11 f11
  go_wp2_with fail
  refine (unhide HE).mono ?_
  rintro e w3 ⟨rfl, v, h3, f3⟩
  have H2 := hide h3
  have F2 := hide f3
  clear h3 f3 HE
  go_wp2_with fail
  go_ret
  have r2 := unhide H2
  have f := (unhide HF6).trans (unhide F2)
  rw [unhide HM] at r2 f
  exact ⟨rfl, v, r2, f⟩
end Go.Proofs.YtkggmodabpjobaaDoor

namespace Go.Proofs.YtkggmodabpjobaaDoor
open Go.RowKit

set_option maxRecDepth 100000 in
set_option maxHeartbeats 4000000 in
theorem follow_same {w : World} {B g : Nat} {m : MS} {N : List Nd} {O : List Int} {W : List Wr} {C : List Cr} {G S : List Gft} {r : Wr} {x : Nd} {bi : Nat} (h : Rep w B g m N O W C G S) (hb : m.b = (bi : Int)) (hr : W[bi]? = some r) (hx : N[r.node]? = some x) (hk : x.k = 20) (hi : m.i = r.i) :
    Calls Tryd.prog 21 #[.pointer (some ⟨g, 0, none⟩)] w fun e w' => e = .returned (.int .i64 2) ∧ Rep w' B g { m with b := r.b } N O W C G S ∧ Fr g m { m with b := r.b } w w' := by
  have hbl : bi < W.length := (List.getElem?_eq_some_iff.1 hr).1
  have hnl : r.node < N.length := (List.getElem?_eq_some_iff.1 hx).1
  obtain ⟨gn, cap, hnv, hcap, -⟩ := h.nodes.form (by intro e; rw [e] at hnl; simp at hnl)
  obtain ⟨gw, wc, hwv, hwc, -⟩ := h.works.form (by intro e; rw [e] at hbl; simp at hbl)
  have o0 : w.cell? ⟨gw, bi * 4, none⟩ = some (.int .i64 (r.node : Int)) := h.works.cell wrV_len hwv hr (k := 0) rfl
  have o1 : w.cell? ⟨gw, bi * 4 + 1, none⟩ = some (.int .i64 (r.kid : Int)) := h.works.cell wrV_len hwv hr (k := 1) rfl
  have o2 : w.cell? ⟨gw, bi * 4 + 2, none⟩ = some (.int .i64 (r.i : Int)) := h.works.cell wrV_len hwv hr (k := 2) rfl
  have o3 : w.cell? ⟨gw, bi * 4 + 3, none⟩ = some (.int .i64 r.b) := h.works.cell wrV_len hwv hr (k := 3) rfl
  have hib := idx_run (g := gw) (n := W.length) (cap := wc) Tryd.underlying51 size_work hbl
  have hia := idx_run (g := gn) (n := N.length) (cap := cap) Tryd.underlying49 size_node hnl
  have c2 := h.c2
  have c8 := h.c8
  have c9 := h.c9
  have f8 := h.frozen 8
  have hgl := h.lt
  have hwl : gw < w.heap.size := (h.works.low (k := gw) (by rw [hwv]; rfl)).2
  have hwz : ¬ gw = w.heap.size := by omega
  have hzw : ¬ w.heap.size = gw := by omega
  have hnz0 : gn < w.heap.size := (h.nodes.low (k := gn) (by rw [hnv]; rfl)).2
  have hnz : ¬ gn = w.heap.size := by omega
  have hng : ¬ gn = g := fun e => h.nodes.neBlk h.blk (by decide) (by rw [hnv, e]; rfl)
  have hgn : ¬ g = gn := fun e => hng e.symm
  have hgz : ¬ g = w.heap.size := by omega
  have hzg : ¬ w.heap.size = g := by omega
  rw [hnv] at c2
  rw [hwv] at c9
  rw [hb] at c8
  have HR := hide h
  have HX := hide (And.intro hx hnv)
  clear h hr hx hnv hwv hb
  go_enter Tryd.func21, Tryd.ntmps21
  go_wp2_with fail
  go_region
  go_wp2_with fail
  obtain ⟨m1, hm1⟩ : ∃ m1 : MS, m1 = { m with b := r.b } := ⟨_, rfl⟩
  obtain ⟨w0, hw0⟩ : ∃ w0, w0 = ((w.setCell ⟨g, 8, none⟩ (.int .i64 r.b)).alloc (.cells #[.int .i64 (r.node : Int), .int .i64 (r.kid : Int), .int .i64 (r.i : Int), .int .i64 r.b] 81)).drew := ⟨_, rfl⟩
  rw [← hw0]
  have hbl0 : Below (w.setCell ⟨g, 8, none⟩ (.int .i64 r.b)).heap.size (w.setCell ⟨g, 8, none⟩ (.int .i64 r.b)) w0 := by rw [hw0]; exact ((Below.refl _ _).alloc (Nat.le_refl _) _).drew
  have h0 : Rep w0 B g m1 N O W C G S := by rw [hm1]; exact ((unhide HR).put 8 (.int .i64 r.b) { m with b := r.b } rfl rfl rfl rfl rfl rfl rfl).later hbl0
  have hF0 : Fr g m m1 w w0 := by rw [hm1]; exact (Fr.cell (m := m) (m' := { m with b := r.b }) 8 _ rfl rfl rfl rfl rfl rfl).trans (Fr.later hbl0)
  have hbox : w0.heap[w.heap.size]? = some (.cells #[.int .i64 (r.node : Int), .int .i64 (r.kid : Int), .int .i64 (r.i : Int), .int .i64 r.b] 81 (0, 0)) := by rw [hw0]; exact at_new (by simp)
  have hz0 : w.heap.size < w0.heap.size := (Array.getElem?_eq_some_iff.1 hbox).1
  obtain ⟨z, hz⟩ : ∃ z, z = w.heap.size := ⟨_, rfl⟩
  rw [← hz] at hbox hgz hzg hnz hz0 ⊢
  have p0 : w0.cell? ⟨z, 0, none⟩ = some (.int .i64 (r.node : Int)) := by rw [cell_of_row _ _ _ _ _ _ hbox]; rfl
  have p1 : w0.cell? ⟨z, 1, none⟩ = some (.int .i64 (r.kid : Int)) := by rw [cell_of_row _ _ _ _ _ _ hbox]; rfl
  have p2 : w0.cell? ⟨z, 2, none⟩ = some (.int .i64 (r.i : Int)) := by rw [cell_of_row _ _ _ _ _ _ hbox]; rfl
  have hnv1 : m1.nv = .slice (some ⟨gn, 0, none⟩) N.length cap := by rw [hm1]; exact (unhide HX).2
  have k0 : w0.cell? ⟨gn, r.node * 10, none⟩ = some (.int .i64 x.k) := h0.nodes.cell ndV_len hnv1 (unhide HX).1 (k := 0) rfl
  have k3 : w0.cell? ⟨gn, r.node * 10 + 3, none⟩ = some (.string x.nm) := h0.nodes.cell ndV_len hnv1 (unhide HX).1 (k := 3) rfl
  clear c2 c8 c9 f8
  have c2 : w0.cell? ⟨g, 2, none⟩ = some (.slice (some ⟨gn, 0, none⟩) N.length cap) := by rw [h0.c2, hnv1]
  have HM := hide hm1
  have H0 := hide h0
  have HF0 := hide hF0
  clear h0 hF0 hw0 hbl0 hm1 o0 o1 o2 o3 hib hwl hwz hzw hgl hnz0 hbox hnv1 hwc hz
  go_quiet (fail)
  obtain ⟨w1, hw1⟩ : ∃ w1, w1 = w0.drewN nq := ⟨_, rfl⟩
  rw [← hw1]
  have hb1 : Below w0.heap.size w0 w1 := by rw [hw1]; exact below_drewN (Below.refl _ _) _
  have h1 := (unhide H0).later hb1
  have p0 := cell_later hb1 p0
  have p1 := cell_later hb1 p1
  have p2 := cell_later hb1 p2
  have k0 := cell_later hb1 k0
  have k3 := cell_later hb1 k3
  have c0 : w1.cell? ⟨g, 0, none⟩ = some (.string m.s) := by have := h1.c0; rw [unhide HM] at this; exact this
  have c6 := h1.c6
  have c7 : w1.cell? ⟨g, 7, none⟩ = some (.int .i64 (m.i : Int)) := by have := h1.c7; rw [unhide HM] at this; exact this
  have c11 := h1.c11
  have f6 := h1.frozen 6
  have f11 := h1.frozen 11
  have HF1 := hide ((unhide HF0).trans (Fr.later hb1))
  have H1 := hide h1
  clear h1 hw1 hb1 c2 hz0 H0 HF0
  have h3 : ((m.i : Int) == (r.i : Int)) = true := by rw [beq_iff_eq]; omega
  rw [hk] at k0
  clear hk
  go_wp2_with fail
  go_quiet (fail)
  go_wp2_with fail
  go_ret
  have hb2 := fun W9 : World => below_drewN (Below.refl W9.heap.size W9) nq
  have r2 := (unhide H1).later (hb2 _)
  have f := (unhide HF1).trans (Fr.later (hb2 _))
  rw [unhide HM] at r2 f
  exact ⟨rfl, r2, f⟩
end Go.Proofs.YtkggmodabpjobaaDoor

namespace Go.Proofs.YtkggmodabpjobaaDoor
open Go.RowKit

set_option maxRecDepth 100000 in
set_option maxHeartbeats 4000000 in
theorem follow_cond {w : World} {B g : Nat} {m : MS} {N : List Nd} {O : List Int} {W : List Wr} {C : List Cr} {G S : List Gft} {r : Wr} {x : Nd} {bi : Nat} (h : Rep w B g m N O W C G S) (hb : m.b = (bi : Int)) (hr : W[bi]? = some r) (hx : N[r.node]? = some x) (hk : x.k = 21) (hri : r.i ≤ m.i) (hmi : m.i ≤ m.s.size) (_hs : m.s.size ≤ 65536) (hG : G.length ≤ 1000000) :
    Calls Tryd.prog 21 #[.pointer (some ⟨g, 0, none⟩)] w fun e w' => e = .returned (.int .i64 1) ∧ ∃ v, Rep w' B g { m with b := r.b, gv := v } N O W C (G ++ [(x.nm, sub m.s r.i m.i)]) S ∧ Fr g m { m with b := r.b, gv := v } w w' := by
  have hbl : bi < W.length := (List.getElem?_eq_some_iff.1 hr).1
  have hnl : r.node < N.length := (List.getElem?_eq_some_iff.1 hx).1
  obtain ⟨gn, cap, hnv, hcap, -⟩ := h.nodes.form (by intro e; rw [e] at hnl; simp at hnl)
  obtain ⟨gw, wc, hwv, hwc, -⟩ := h.works.form (by intro e; rw [e] at hbl; simp at hbl)
  have o0 : w.cell? ⟨gw, bi * 4, none⟩ = some (.int .i64 (r.node : Int)) := h.works.cell wrV_len hwv hr (k := 0) rfl
  have o1 : w.cell? ⟨gw, bi * 4 + 1, none⟩ = some (.int .i64 (r.kid : Int)) := h.works.cell wrV_len hwv hr (k := 1) rfl
  have o2 : w.cell? ⟨gw, bi * 4 + 2, none⟩ = some (.int .i64 (r.i : Int)) := h.works.cell wrV_len hwv hr (k := 2) rfl
  have o3 : w.cell? ⟨gw, bi * 4 + 3, none⟩ = some (.int .i64 r.b) := h.works.cell wrV_len hwv hr (k := 3) rfl
  have hib := idx_run (g := gw) (n := W.length) (cap := wc) Tryd.underlying51 size_work hbl
  have hia := idx_run (g := gn) (n := N.length) (cap := cap) Tryd.underlying49 size_node hnl
  have c2 := h.c2
  have c8 := h.c8
  have c9 := h.c9
  have f8 := h.frozen 8
  have hgl := h.lt
  have hwl : gw < w.heap.size := (h.works.low (k := gw) (by rw [hwv]; rfl)).2
  have hwz : ¬ gw = w.heap.size := by omega
  have hzw : ¬ w.heap.size = gw := by omega
  have hnz0 : gn < w.heap.size := (h.nodes.low (k := gn) (by rw [hnv]; rfl)).2
  have hnz : ¬ gn = w.heap.size := by omega
  have hng : ¬ gn = g := fun e => h.nodes.neBlk h.blk (by decide) (by rw [hnv, e]; rfl)
  have hgn : ¬ g = gn := fun e => hng e.symm
  have hgz : ¬ g = w.heap.size := by omega
  have hzg : ¬ w.heap.size = g := by omega
  rw [hnv] at c2
  rw [hwv] at c9
  rw [hb] at c8
  have HR := hide h
  have HX := hide (And.intro hx hnv)
  clear h hr hx hnv hwv hb
  go_enter Tryd.func21, Tryd.ntmps21
  go_wp2_with fail
  go_region
  go_wp2_with fail
  obtain ⟨m1, hm1⟩ : ∃ m1 : MS, m1 = { m with b := r.b } := ⟨_, rfl⟩
  obtain ⟨w0, hw0⟩ : ∃ w0, w0 = ((w.setCell ⟨g, 8, none⟩ (.int .i64 r.b)).alloc (.cells #[.int .i64 (r.node : Int), .int .i64 (r.kid : Int), .int .i64 (r.i : Int), .int .i64 r.b] 81)).drew := ⟨_, rfl⟩
  rw [← hw0]
  have hbl0 : Below (w.setCell ⟨g, 8, none⟩ (.int .i64 r.b)).heap.size (w.setCell ⟨g, 8, none⟩ (.int .i64 r.b)) w0 := by rw [hw0]; exact ((Below.refl _ _).alloc (Nat.le_refl _) _).drew
  have h0 : Rep w0 B g m1 N O W C G S := by rw [hm1]; exact ((unhide HR).put 8 (.int .i64 r.b) { m with b := r.b } rfl rfl rfl rfl rfl rfl rfl).later hbl0
  have hF0 : Fr g m m1 w w0 := by rw [hm1]; exact (Fr.cell (m := m) (m' := { m with b := r.b }) 8 _ rfl rfl rfl rfl rfl rfl).trans (Fr.later hbl0)
  have hbox : w0.heap[w.heap.size]? = some (.cells #[.int .i64 (r.node : Int), .int .i64 (r.kid : Int), .int .i64 (r.i : Int), .int .i64 r.b] 81 (0, 0)) := by rw [hw0]; exact at_new (by simp)
  have hz0 : w.heap.size < w0.heap.size := (Array.getElem?_eq_some_iff.1 hbox).1
  obtain ⟨z, hz⟩ : ∃ z, z = w.heap.size := ⟨_, rfl⟩
  rw [← hz] at hbox hgz hzg hnz hz0 ⊢
  have p0 : w0.cell? ⟨z, 0, none⟩ = some (.int .i64 (r.node : Int)) := by rw [cell_of_row _ _ _ _ _ _ hbox]; rfl
  have p1 : w0.cell? ⟨z, 1, none⟩ = some (.int .i64 (r.kid : Int)) := by rw [cell_of_row _ _ _ _ _ _ hbox]; rfl
  have p2 : w0.cell? ⟨z, 2, none⟩ = some (.int .i64 (r.i : Int)) := by rw [cell_of_row _ _ _ _ _ _ hbox]; rfl
  have hnv1 : m1.nv = .slice (some ⟨gn, 0, none⟩) N.length cap := by rw [hm1]; exact (unhide HX).2
  have k0 : w0.cell? ⟨gn, r.node * 10, none⟩ = some (.int .i64 x.k) := h0.nodes.cell ndV_len hnv1 (unhide HX).1 (k := 0) rfl
  have k3 : w0.cell? ⟨gn, r.node * 10 + 3, none⟩ = some (.string x.nm) := h0.nodes.cell ndV_len hnv1 (unhide HX).1 (k := 3) rfl
  clear c2 c8 c9 f8
  have c2 : w0.cell? ⟨g, 2, none⟩ = some (.slice (some ⟨gn, 0, none⟩) N.length cap) := by rw [h0.c2, hnv1]
  have HM := hide hm1
  have H0 := hide h0
  have HF0 := hide hF0
  have HBX := hide hbox
  clear h0 hF0 hw0 hbl0 hm1 o0 o1 o2 o3 hib hwl hwz hzw hgl hnz0 hbox hnv1 hwc hz
  go_quiet (fail)
  obtain ⟨w1, hw1⟩ : ∃ w1, w1 = w0.drewN nq := ⟨_, rfl⟩
  rw [← hw1]
  have hb1 : Below w0.heap.size w0 w1 := by rw [hw1]; exact below_drewN (Below.refl _ _) _
  have h1 := (unhide H0).later hb1
  have p0 := cell_later hb1 p0
  have p1 := cell_later hb1 p1
  have p2 := cell_later hb1 p2
  have k0 := cell_later hb1 k0
  have k3 := cell_later hb1 k3
  have c0 : w1.cell? ⟨g, 0, none⟩ = some (.string m.s) := by have := h1.c0; rw [unhide HM] at this; exact this
  have c6 := h1.c6
  have c7 : w1.cell? ⟨g, 7, none⟩ = some (.int .i64 (m.i : Int)) := by have := h1.c7; rw [unhide HM] at this; exact this
  have c11 := h1.c11
  have f6 := h1.frozen 6
  have f11 := h1.frozen 11
  have HF1 := hide ((unhide HF0).trans (Fr.later hb1))
  have H1 := hide h1
  have hbox1 : w1.heap[z]? = some (.cells #[.int .i64 (r.node : Int), .int .i64 (r.kid : Int), .int .i64 (r.i : Int), .int .i64 r.b] 81 (0, 0)) := row_below (unhide HBX) hb1
  have hneZ : ∀ u, m1.gv = u → some z ≠ u.ownBlock := fun u hu => by rw [← hu]; exact h1.given.neBlk hbox1 (by decide)
  have hneN : ∀ u, m1.gv = u → some gn ≠ u.ownBlock := fun u hu e => by
    obtain ⟨c1, q1⟩ := h1.given.type (k := gn) (by rw [hu]; exact e.symm)
    obtain ⟨c2, q2⟩ := h1.nodes.type (k := gn) (by rw [unhide HM]; show m.nv.ownBlock = some gn; rw [(unhide HX).2]; rfl)
    rw [q1] at q2
    injection q2 with q2
    injection q2 with _ q2
    exact absurd q2 (by decide)
  clear h1 hw1 hb1 c2 hz0 H0 HF0 hbox1 HBX
  have h3 : (r.i : Int) ≤ (m.i : Int) := by omega
  have h4 : (m.i : Int) ≤ (m.s.size : Int) := by omega
  rw [hk] at k0
  clear hk
  go_wp2_with fail
  generalize hgv : m1.gv = gv at c11
  have hgvE := hgv
  obtain ⟨S0, hS0⟩ : ∃ S0 : World → Prop, S0 = fun w' => w'.cell? ⟨g, 11, none⟩ = some (gv) ∧ w'.cell? ⟨g, 0, none⟩ = some (.string m.s) ∧ w'.cell? ⟨g, 7, none⟩ = some (.int .i64 (m.i : Int)) ∧ w'.cell? ⟨gn, r.node * 10 + 3, none⟩ = some (.string x.nm) ∧ w'.cell? ⟨z, 2, none⟩ = some (.int .i64 (r.i : Int)) := ⟨_, rfl⟩
  have HS0 := hide hS0
  have hS : S0 w1.drew := by rw [hS0]; exact ⟨c11, c0, c7, k3, p2⟩
  clear hS0
  refine startE (by kernel_rfl) 25 S0 ⟨by kernel_rfl, by kernel_rfl, by kernel_rfl, rfl⟩ ?_
  intro F
  refine takeE F (i := 0) (oi := _) (v := ?v0) rfl (by kernel_rfl) (by kernel_rfl) (by rfl) (fun _ _ _ h => h) hS (Or.inl ⟨by rfl, ?y0⟩) ?r0
  case y0 => (intro w hSw; rw [unhide HS0] at hSw; (try dsimp only at hSw); go_split_ands; (go_simp <;> (try with_reducible rfl)))
  (try go_frame)
  refine takeE F (i := 1) (oi := _) (v := ?v1) rfl (by kernel_rfl) (by kernel_rfl) (by rfl) (fun _ _ _ h => h) hS (Or.inl ⟨by rfl, ?y1⟩) ?r1
  case y1 => (intro w hSw; rw [unhide HS0] at hSw; (try dsimp only at hSw); go_split_ands; (go_simp <;> (try with_reducible rfl)))
  (try go_frame)
  refine takeE F (i := 2) (oi := _) (v := ?v2) rfl (by kernel_rfl) (by kernel_rfl) (by rfl) (fun _ _ _ h => h) hS (Or.inl ⟨by rfl, ?y2⟩) ?r2
  case y2 => (intro w hSw; rw [unhide HS0] at hSw; (try dsimp only at hSw); go_split_ands; (go_simp <;> (try with_reducible rfl)))
  (try go_frame)
  refine takeE F (i := 3) (oi := _) (v := ?v3) rfl (by kernel_rfl) (by kernel_rfl) (by rfl) (fun _ _ _ h => h) hS (Or.inl ⟨by rfl, ?y3⟩) ?r3
  case y3 => (intro w hSw; rw [unhide HS0] at hSw; (try dsimp only at hSw); go_split_ands; (go_simp <;> (try with_reducible rfl)))
  (try go_frame)
  refine takeE F (i := 4) (oi := _) (v := ?v4) rfl (by kernel_rfl) (by kernel_rfl) (by rfl) (fun _ _ _ h => h) hS (Or.inl ⟨by rfl, ?y4⟩) ?r4
  case y4 => (intro w hSw; rw [unhide HS0] at hSw; (try dsimp only at hSw); go_split_ands; (go_simp <;> (try with_reducible rfl)))
  (try go_frame)
  refine takeE F (i := 5) (oi := _) (v := ?v5) rfl (by kernel_rfl) (by kernel_rfl) (by rfl) (fun _ _ _ h => h) hS (Or.inl ⟨by rfl, ?y5⟩) ?r5
  case y5 => (intro w hSw; rw [unhide HS0] at hSw; (try dsimp only at hSw); go_split_ands; (go_simp <;> (try with_reducible rfl)))
  (try go_frame)
  refine takeE F (i := 6) (oi := _) (v := ?v6) rfl (by kernel_rfl) (by kernel_rfl) (by rfl) (fun _ _ _ h => h) hS (Or.inl ⟨by rfl, ?y6⟩) ?r6
  case y6 => (intro w hSw; rw [unhide HS0] at hSw; (try dsimp only at hSw); go_split_ands; (go_simp <;> (try with_reducible rfl)))
  (try go_frame)
  refine takeE F (i := 7) (oi := _) (v := ?v7) rfl (by kernel_rfl) (by kernel_rfl) (by rfl) (fun _ _ _ h => h) hS (Or.inl ⟨by rfl, ?y7⟩) ?r7
  case y7 => (intro w hSw; rw [unhide HS0] at hSw; (try dsimp only at hSw); go_split_ands; (go_simp <;> (try with_reducible rfl)))
  (try go_frame)
  refine takeE F (i := 8) (oi := _) (v := ?v8) rfl (by kernel_rfl) (by kernel_rfl) (by rfl) (fun _ _ _ h => h) hS (Or.inl ⟨by rfl, ?y8⟩) ?r8
  case y8 => (intro w hSw; rw [unhide HS0] at hSw; (try dsimp only at hSw); go_split_ands; (go_simp <;> (try with_reducible rfl)))
  (try go_frame)
  refine takeE F (i := 9) (oi := _) (v := ?v9) rfl (by kernel_rfl) (by kernel_rfl) (by rfl) (fun _ _ _ h => h) hS (Or.inl ⟨by rfl, ?y9⟩) ?r9
  case y9 => (intro w hSw; rw [unhide HS0] at hSw; (try dsimp only at hSw); go_split_ands; (go_simp <;> (try with_reducible rfl)))
  (try go_frame)
  refine takeE F (i := 10) (oi := _) (v := ?v10) rfl (by kernel_rfl) (by kernel_rfl) (by rfl) (fun _ _ _ h => h) hS (Or.inl ⟨by rfl, ?y10⟩) ?r10
  case y10 => (intro w hSw; rw [unhide HS0] at hSw; (try dsimp only at hSw); go_split_ands; (go_simp <;> (try with_reducible rfl)))
  (try go_frame)
  refine takeE F (i := 11) (oi := _) (v := ?v11) rfl (by kernel_rfl) (by kernel_rfl) (by rfl) (fun _ _ _ h => h) hS (Or.inl ⟨by rfl, ?y11⟩) ?r11
  case y11 => (intro w hSw; rw [unhide HS0] at hSw; (try dsimp only at hSw); go_split_ands; (go_simp <;> (try with_reducible rfl)))
  (try go_frame)
  refine takeE F (i := 12) (oi := _) (v := ?v12) rfl (by kernel_rfl) (by kernel_rfl) (by rfl) (fun _ _ _ h => h) hS (Or.inl ⟨by rfl, ?y12⟩) ?r12
  case y12 => (intro w hSw; rw [unhide HS0] at hSw; (try dsimp only at hSw); go_split_ands; (go_simp <;> (try with_reducible rfl)))
  (try go_frame)
  refine takeE F (i := 13) (oi := _) (v := ?v13) rfl (by kernel_rfl) (by kernel_rfl) (by rfl) (fun _ _ _ h => h) hS (Or.inl ⟨by rfl, ?y13⟩) ?r13
  case y13 => (intro w hSw; rw [unhide HS0] at hSw; (try dsimp only at hSw); go_split_ands; (go_simp <;> (try with_reducible rfl)))
  (try go_frame)
  refine takeE F (i := 14) (oi := _) (v := ?v14) rfl (by kernel_rfl) (by kernel_rfl) (by rfl) (fun _ _ _ h => h) hS (Or.inl ⟨by rfl, ?y14⟩) ?r14
  case y14 => (intro w hSw; rw [unhide HS0] at hSw; (try dsimp only at hSw); go_split_ands; (go_simp <;> (try with_reducible rfl)))
  (try go_frame)
  refine takeE F (i := 15) (oi := _) (v := ?v15) rfl (by kernel_rfl) (by kernel_rfl) (by rfl) (fun _ _ _ h => h) hS (Or.inl ⟨by rfl, ?y15⟩) ?r15
  case y15 => (intro w hSw; rw [unhide HS0] at hSw; (try dsimp only at hSw); go_split_ands; (go_simp <;> (try with_reducible rfl)))
  (try go_frame)
  refine takeE F (i := 16) (oi := _) (v := ?v16) rfl (by kernel_rfl) (by kernel_rfl) (by rfl) (fun _ _ _ h => h) hS (Or.inl ⟨by rfl, ?y16⟩) ?r16
  case y16 => (intro w hSw; rw [unhide HS0] at hSw; (try dsimp only at hSw); go_split_ands; (go_simp <;> (try with_reducible rfl)))
  (try go_frame)
  refine takeE F (i := 17) (oi := _) (v := ?v17) rfl (by kernel_rfl) (by kernel_rfl) (by rfl) (fun _ _ _ h => h) hS (Or.inl ⟨by rfl, ?y17⟩) ?r17
  case y17 => (intro w hSw; rw [unhide HS0] at hSw; (try dsimp only at hSw); go_split_ands; (go_simp <;> (try with_reducible rfl)))
  (try go_frame)
  refine takeE F (i := 18) (oi := _) (v := ?v18) rfl (by kernel_rfl) (by kernel_rfl) (by rfl) (fun _ _ _ h => h) hS (Or.inl ⟨by rfl, ?y18⟩) ?r18
  case y18 => (intro w hSw; rw [unhide HS0] at hSw; (try dsimp only at hSw); go_split_ands; (go_simp <;> (try with_reducible rfl)))
  (try go_frame)
  refine takeE F (i := 19) (oi := _) (v := ?v19) rfl (by kernel_rfl) (by kernel_rfl) (by rfl) (fun _ _ _ h => h) hS (Or.inl ⟨by rfl, ?y19⟩) ?r19
  case y19 => (intro w hSw; rw [unhide HS0] at hSw; (try dsimp only at hSw); go_split_ands; (go_simp <;> (try with_reducible rfl)))
  (try go_frame)
  refine takeE F (i := 20) (oi := _) (v := ?v20) rfl (by kernel_rfl) (by kernel_rfl) (by rfl) (fun _ _ _ h => h) hS (Or.inl ⟨by rfl, ?y20⟩) ?r20
  case y20 => (intro w hSw; rw [unhide HS0] at hSw; (try dsimp only at hSw); go_split_ands; (go_simp <;> (try with_reducible rfl)))
  (try go_frame)
  refine stepE (i := 21) (by kernel_rfl) rfl (by rfl) (fun K hK => ?_)
  go_simp
  refine hK _ _ ?_ ?_
  · rw [unhide HS0]; (try dsimp only); go_keep
  clear hK K hS
  (try go_frame)
  refine stepE (i := 22) (by kernel_rfl) rfl (by rfl) (fun K hK => ?_)
  have hbel := ((Below.refl w1.heap.size w1).alloc (Nat.le_refl _) (.cells #[.string x.nm, .string (m.s.extract r.i m.i)] 44)).drew
  have hRow : Row _ B 44 2 gfV gv G := (show Row w1 B 44 2 gfV gv G from by rw [← hgv]; exact (unhide H1).given).later hbel
  have hne : some g ≠ gv.ownBlock := by rw [← hgv]; exact (unhide H1).given.neBlk (unhide H1).blk (by decide)
  refine step_row Tryd.underlying30 info_gift rfl (by decide) (by decide) gfV_len gfV_one rfl (.tmp 62) (.tmp 79) rfl (B := B) (v := gv) (l := G) hRow (Nat.le_trans (unhide H1).base hbel.size) (x.nm, sub m.s r.i m.i) w1.heap.size 1 (by simp [Act.eval]) (by simp [Act.eval]) (made_cells (at_new (w := w1) rfl) rfl) hG ?_
  intro v' w9 hr9 hg9 hv9
  obtain ⟨ng, nc, hv', -, -⟩ := hr9.form (by simp)
  rw [List.length_append, List.length_singleton] at hv'
  subst hv'
  have hc : ∀ {k : Nat} {u : Value}, w1.cell? ⟨g, k, none⟩ = some u → w9.cell? ⟨g, k, none⟩ = some u := fun c => hg9.cell (cell_later hbel c) hne
  have hz : ∀ k, w9.frozen? ⟨g, k, none⟩ = false := fun k => frozen_of_row w9 g k _ _ (grown_blk (row_below (unhide H1).blk hbel) (fun j hj => hRow.type hj) (by decide) hg9)
  have HZ := hide hz
  have e9 := hz 11
  have d11 := hc c11
  have d0 := hc c0
  have d7 := hc c7
  have hS : S0 w9 := by rw [unhide HS0]; exact ⟨d11, d0, d7, hg9.cell (cell_later hbel k3) (hneN gv hgvE), hg9.cell (cell_later hbel p2) (hneZ gv hgvE)⟩
  have H9 := hide (And.intro hr9 (And.intro hg9 (And.intro hbel (And.intro hv9 hRow))))
  refine hK _ _ hS ?_
  clear hK K hc hz hr9 hg9 hbel hv9 hRow
  (try go_frame)
  refine takeE F (i := 23) (oi := _) (v := ?v23) rfl (by kernel_rfl) (by kernel_rfl) (by rfl) (fun _ _ _ h => h) hS (Or.inl ⟨by rfl, ?y23⟩) ?r23
  case y23 => (intro w hSw; rw [unhide HS0] at hSw; (try dsimp only at hSw); go_split_ands; (go_simp <;> (try with_reducible rfl)))
  (try go_frame)
  refine takeE F (i := 24) (oi := _) (v := ?v24) rfl (by kernel_rfl) (by kernel_rfl) (by rfl) (fun _ _ _ h => h) hS (Or.inl ⟨by rfl, ?y24⟩) ?r24
  case y24 => (intro w hSw; rw [unhide HS0] at hSw; (try dsimp only at hSw); go_split_ands; (go_simp <;> (try with_reducible rfl)))
  (try go_frame)
  refine lastE (by kernel_rfl) rfl (by kernel_rfl) (fun K hK => ?_)
  go_simp
  refine hK _ _ ?_
  clear hK K hS F HS0
  clear HZ hneZ hneN hgvE
  go_wp2_with fail
  go_ret
  obtain ⟨hr9, hg9, hbel, hv9, -⟩ := unhide H9
  rw [← hgv] at hg9 hv9
  have r2 := ((unhide H1).later hbel).grownG hg9 hr9 hv9
  have f := (unhide HF1).trans ((Fr.later hbel).trans (Fr.growG hg9 hv9))
  rw [unhide HM] at r2 f
  exact ⟨rfl, _, r2, f⟩
end Go.Proofs.YtkggmodabpjobaaDoor
