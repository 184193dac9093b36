/- What follow does at pieces one behind the other: the last one. -/
import Derived.Test.YtohbkmeomphleaaDoorScanEnter
import Derived.Test.YtohbkmeomphleaaDoorScanChoose
import Derived.Test.YtohbkmeomphleaaDoorScanTell
import Derived.BigRegion
import Derived.Deep.QuietTactic
import Derived.BigQuiet
namespace Go.Proofs.YtohbkmeomphleaaDoor
open Go.RowKit

set_option maxRecDepth 100000 in
set_option maxHeartbeats 4000000 in
theorem follow_last {w : World} {B g : Nat} {m : MS} {N : List Nd} {O : List Int} {W : List Wr} {C : List Cr} {G S : List Gft} {r : Wr} {x : Nd} {bi : Nat} (h : Rep w B g m N O W C G S) (hb : m.b = (bi : Int)) (hr : W[bi]? = some r) (hx : N[r.node]? = some x) (hk : x.k = 18) (he : r.kid + 2 = x.en) (hb2 : r.kid < 999999) :
    Calls Tryd.prog 29 #[.pointer (some ⟨g, 0, none⟩)] w fun e w' => e = .returned (.int .i64 0) ∧ Rep w' B g { m with b := r.b, node := r.kid + 1 } N O W C G S ∧ Fr g m { m with b := r.b, node := r.kid + 1 } w w' := by
  have hbl : bi < W.length := (List.getElem?_eq_some_iff.1 hr).1
  have hnl : r.node < N.length := (List.getElem?_eq_some_iff.1 hx).1
  obtain ⟨gn, cap, hnv, hcap, -⟩ := h.nodes.form (by intro e; rw [e] at hnl; simp at hnl)
  obtain ⟨gw, wc, hwv, hwc, -⟩ := h.works.form (by intro e; rw [e] at hbl; simp at hbl)
  have o0 : w.cell? ⟨gw, bi * 4, none⟩ = some (.int .i64 (r.node : Int)) := h.works.cell wrV_len hwv hr (k := 0) rfl
  have o1 : w.cell? ⟨gw, bi * 4 + 1, none⟩ = some (.int .i64 (r.kid : Int)) := h.works.cell wrV_len hwv hr (k := 1) rfl
  have o2 : w.cell? ⟨gw, bi * 4 + 2, none⟩ = some (.int .i64 (r.i : Int)) := h.works.cell wrV_len hwv hr (k := 2) rfl
  have o3 : w.cell? ⟨gw, bi * 4 + 3, none⟩ = some (.int .i64 r.b) := h.works.cell wrV_len hwv hr (k := 3) rfl
  have hib := idx_run (g := gw) (n := W.length) (cap := wc) Tryd.underlying56 size_work hbl
  have hia := idx_run (g := gn) (n := N.length) (cap := cap) Tryd.underlying54 size_node hnl
  have c2 := h.c2
  have c8 := h.c8
  have c9 := h.c9
  have f8 := h.frozen 8
  have hgl := h.lt
  have hwl : gw < w.heap.size := (h.works.low (k := gw) (by rw [hwv]; rfl)).2
  have hwz : ¬ gw = w.heap.size := by omega
  have hzw : ¬ w.heap.size = gw := by omega
  have hnz0 : gn < w.heap.size := (h.nodes.low (k := gn) (by rw [hnv]; rfl)).2
  have hnz : ¬ gn = w.heap.size := by omega
  have hng : ¬ gn = g := fun e => h.nodes.neBlk h.blk (by decide) (by rw [hnv, e]; rfl)
  have hgn : ¬ g = gn := fun e => hng e.symm
  have hgz : ¬ g = w.heap.size := by omega
  have hzg : ¬ w.heap.size = g := by omega
  rw [hnv] at c2
  rw [hwv] at c9
  rw [hb] at c8
  have HR := hide h
  have HX := hide (And.intro hx hnv)
  clear h hr hx hnv hwv hb
  go_enter Tryd.func29, Tryd.ntmps29
  go_wp2_with fail
  go_region
  go_wp2_with fail
  obtain ⟨m1, hm1⟩ : ∃ m1 : MS, m1 = { m with b := r.b } := ⟨_, rfl⟩
  obtain ⟨w0, hw0⟩ : ∃ w0, w0 = ((w.setCell ⟨g, 8, none⟩ (.int .i64 r.b)).alloc (.cells #[.int .i64 (r.node : Int), .int .i64 (r.kid : Int), .int .i64 (r.i : Int), .int .i64 r.b] 88)).drew := ⟨_, rfl⟩
  rw [← hw0]
  have hbl0 : Below (w.setCell ⟨g, 8, none⟩ (.int .i64 r.b)).heap.size (w.setCell ⟨g, 8, none⟩ (.int .i64 r.b)) w0 := by rw [hw0]; exact ((Below.refl _ _).alloc (Nat.le_refl _) _).drew
  have h0 : Rep w0 B g m1 N O W C G S := by rw [hm1]; exact ((unhide HR).put 8 (.int .i64 r.b) { m with b := r.b } rfl rfl rfl rfl rfl rfl rfl).later hbl0
  have hF0 : Fr g m m1 w w0 := by rw [hm1]; exact (Fr.cell (m := m) (m' := { m with b := r.b }) 8 _ rfl rfl rfl rfl rfl rfl).trans (Fr.later hbl0)
  have hbox : w0.heap[w.heap.size]? = some (.cells #[.int .i64 (r.node : Int), .int .i64 (r.kid : Int), .int .i64 (r.i : Int), .int .i64 r.b] 88 (0, 0)) := by rw [hw0]; exact at_new (by simp)
  have hz0 : w.heap.size < w0.heap.size := (Array.getElem?_eq_some_iff.1 hbox).1
  obtain ⟨z, hz⟩ : ∃ z, z = w.heap.size := ⟨_, rfl⟩
  rw [← hz] at hbox hgz hzg hnz hz0 ⊢
  have p0 : w0.cell? ⟨z, 0, none⟩ = some (.int .i64 (r.node : Int)) := by rw [cell_of_row _ _ _ _ _ _ hbox]; rfl
  have p1 : w0.cell? ⟨z, 1, none⟩ = some (.int .i64 (r.kid : Int)) := by rw [cell_of_row _ _ _ _ _ _ hbox]; rfl
  have p2 : w0.cell? ⟨z, 2, none⟩ = some (.int .i64 (r.i : Int)) := by rw [cell_of_row _ _ _ _ _ _ hbox]; rfl
  have hnv1 : m1.nv = .slice (some ⟨gn, 0, none⟩) N.length cap := by rw [hm1]; exact (unhide HX).2
  have k0 : w0.cell? ⟨gn, r.node * 10, none⟩ = some (.int .i64 x.k) := h0.nodes.cell ndV_len hnv1 (unhide HX).1 (k := 0) rfl
  have k3 : w0.cell? ⟨gn, r.node * 10 + 3, none⟩ = some (.string x.nm) := h0.nodes.cell ndV_len hnv1 (unhide HX).1 (k := 3) rfl
  clear c2 c8 c9 f8
  have c2 : w0.cell? ⟨g, 2, none⟩ = some (.slice (some ⟨gn, 0, none⟩) N.length cap) := by rw [h0.c2, hnv1]
  have HM := hide hm1
  have H0 := hide h0
  have HF0 := hide hF0
  clear h0 hF0 hw0 hbl0 hm1 o0 o1 o2 o3 hib hwl hwz hzw hgl hnz0 hbox hnv1 hwc hz
  go_quiet (fail)
  obtain ⟨w1, hw1⟩ : ∃ w1, w1 = w0.drewN nq := ⟨_, rfl⟩
  rw [← hw1]
  have hb1 : Below w0.heap.size w0 w1 := by rw [hw1]; exact below_drewN (Below.refl _ _) _
  have h1 := (unhide H0).later hb1
  have p0 := cell_later hb1 p0
  have p1 := cell_later hb1 p1
  have p2 := cell_later hb1 p2
  have k0 := cell_later hb1 k0
  have k3 := cell_later hb1 k3
  have c0 : w1.cell? ⟨g, 0, none⟩ = some (.string m.s) := by have := h1.c0; rw [unhide HM] at this; exact this
  have c6 := h1.c6
  have c7 : w1.cell? ⟨g, 7, none⟩ = some (.int .i64 (m.i : Int)) := by have := h1.c7; rw [unhide HM] at this; exact this
  have c11 := h1.c11
  have f6 := h1.frozen 6
  have f11 := h1.frozen 11
  have HF1 := hide ((unhide HF0).trans (Fr.later hb1))
  have H1 := hide h1
  clear h1 hw1 hb1 c2 hz0 H0 HF0
  have HE := hide (fun W0 hb => enter_last (w := W0) ((unhide H1).later hb) r.node (r.kid + 1) x (unhide HX).1 hk (by omega) (by omega))
  rw [hk] at k0
  clear hk
  go_wp2_with fail
  refine (unhide HE _ (Below.refl _ _)).mono ?_
  rintro e w2 ⟨rfl, h2, f2⟩
  have H2 := hide h2
  have F2 := hide f2
  clear h2 f2 HE
  go_wp2_with fail
  go_ret
  have r2 := unhide H2
  have f := (unhide HF1).trans (unhide F2)
  rw [unhide HM] at r2 f
  exact ⟨rfl, r2, f⟩
end Go.Proofs.YtohbkmeomphleaaDoor
