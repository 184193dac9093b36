/- What come does at a kind that looks for bytes of a text. -/
import Derived.Test.YtkggmodabpjobaaDoorScanEnter
import Derived.Test.YtkggmodabpjobaaDoorScanChoose
import Derived.Test.YtkggmodabpjobaaDoorScanOnly2
import Derived.Deep.QuietTactic
import Derived.BigQuiet
namespace Go.Proofs.YtkggmodabpjobaaDoor
open Go.RowKit

/-- What is left behind. -/
def ComS (w : World) (B g : Nat) (m : MS) (N : List Nd) (O : List Int) (W : List Wr) (C : List Cr) (G S : List Gft) (T : PT) (e : Ending) (w' : World) : Prop := ∃ N', Same N N' ∧ NS w' m.s N' ∧
  ((∃ a : Nat, e = .returned (.int .i64 1) ∧ onl m.s T m.i = some a ∧ Rep w' B g { m with ticks := m.ticks + 1, i := a } N' O W C G S ∧ Fr g m { m with ticks := m.ticks + 1, i := a } w w') ∨
  (e = .returned (.int .i64 2) ∧ onl m.s T m.i = none ∧ Rep w' B g { m with ticks := m.ticks + 1 } N' O W C G S ∧ Fr g m { m with ticks := m.ticks + 1 } w w'))

set_option maxRecDepth 100000 in
set_option maxHeartbeats 4000000 in
theorem come_set {w : World} {B g : Nat} {m : MS} {N : List Nd} {O : List Int} {W : List Wr} {C : List Cr} {G S : List Gft} {x : Nd} (h : Rep w B g m N O W C G S) (hx : N[m.node]? = some x) (htf : m.ticks < m.fuel) (hfu : m.fuel ≤ 100000) {T : PT} (hk : leafK x.k) (hns : NS w m.s N) (hon : ∀ gn cap w1, Rep w1 B g { m with ticks := m.ticks + 1 } N O W C G S → m.nv = .slice (some ⟨gn, 0, none⟩) N.length cap → NS w1 m.s N → Calls Tryd.prog 34 #[.pointer (some ⟨g, 0, none⟩), .pointer (some ⟨gn, m.node * 10, none⟩), .int .i64 (m.i : Int)] w1 (OnlySet w1 B g { m with ticks := m.ticks + 1 } N O W C G S T m.i)) :
    Calls Tryd.prog 20 #[.pointer (some ⟨g, 0, none⟩)] w fun e w' => ComS w B g m N O W C G S T e w' := by
  have hnl : m.node < N.length := (List.getElem?_eq_some_iff.1 hx).1
  obtain ⟨gn, cap, hnv, hcap, -⟩ := h.nodes.form (by intro e; rw [e] at hnl; simp at hnl)
  have hia := idx_run (g := gn) (n := N.length) (cap := cap) Tryd.underlying49 size_node hnl
  have hng : ¬ gn = g := fun e => h.nodes.neBlk h.blk (by decide) (by rw [hnv, e]; rfl)
  have hgn : ¬ g = gn := fun e => hng e.symm
  have c15 := h.c15
  have c16 := h.c16
  have f16 := h.frozen 16
  have ht : ((m.ticks : Int) == (m.fuel : Int)) = false := by rw [beq_eq_false_iff_ne]; omega
  have HR := hide h
  have HX := hide (And.intro hx hnv)
  have HNS := hide hns
  clear hns h hx hnv
  go_enter Tryd.func20, Tryd.ntmps20
  go_wp2_with fail
  go_quiet (fail)
  obtain ⟨wq, hwq⟩ : ∃ wq, wq = w.drewN nq := ⟨_, rfl⟩
  rw [← hwq]
  have hbq : Below w.heap.size w wq := by rw [hwq]; exact below_drewN (Below.refl _ _) _
  have hq := (unhide HR).later hbq
  have c16 := cell_later hbq c16
  have f16 := hq.frozen 16
  have HQ := hide hq
  have HBQ := hide hbq
  clear hwq hbq hq c15
  go_wp2_with fail
  obtain ⟨m1, hm1⟩ : ∃ m1 : MS, m1 = { m with ticks := m.ticks + 1 } := ⟨_, rfl⟩
  obtain ⟨w0, hw0⟩ : ∃ w0, w0 = wq.setCell ⟨g, 16, none⟩ (.int .i64 ((m.ticks : Int) + 1)) := ⟨_, rfl⟩
  rw [← hw0]
  have h0 : Rep w0 B g m1 N O W C G S := by rw [hm1, hw0]; exact (unhide HQ).put 16 (.int .i64 ((m.ticks : Int) + 1)) { m with ticks := m.ticks + 1 } rfl rfl rfl rfl rfl rfl rfl
  have hF0 : Fr g m m1 w w0 := by rw [hm1, hw0]; exact (Fr.later (unhide HBQ)).trans (Fr.cell (m := m) (m' := { m with ticks := m.ticks + 1 }) 16 _ rfl rfl rfl rfl rfl rfl)
  have hnv1 : m1.nv = .slice (some ⟨gn, 0, none⟩) N.length cap := by rw [hm1]; exact (unhide HX).2
  have c2 : w0.cell? ⟨g, 2, none⟩ = some (.slice (some ⟨gn, 0, none⟩) N.length cap) := by rw [h0.c2, hnv1]
  have c6 : w0.cell? ⟨g, 6, none⟩ = some (.int .i64 (m.node : Int)) := by have := h0.c6; rw [hm1] at this; exact this
  have HM := hide hm1
  have H0 := hide h0
  have HF0 := hide hF0
  have HNV := hide hnv1
  clear h0 hF0 hw0 hm1 hnv1 c16 f16 HQ HBQ
  go_quiet (fail)
  obtain ⟨w1, hw1⟩ : ∃ w1, w1 = w0.drewN nq := ⟨_, rfl⟩
  rw [← hw1]
  have hb1 : Below w0.heap.size w0 w1 := by rw [hw1]; exact below_drewN (Below.refl _ _) _
  have h1 := (unhide H0).later hb1
  have c6 := cell_later hb1 c6
  have hcells : ∀ k u, (ndV x)[k]? = some u → w1.cell? ⟨gn, m.node * 10 + k, none⟩ = some u := fun k u hu => h1.nodes.cell ndV_len (unhide HNV) (unhide HX).1 hu
  have k0 : w1.cell? ⟨gn, m.node * 10, none⟩ = some (.int .i64 x.k) := hcells 0 _ rfl
  have k5 : w1.cell? ⟨gn, m.node * 10 + 5, none⟩ = some (.int .i64 (x.fi : Int)) := hcells 5 _ rfl
  have c0 : w1.cell? ⟨g, 0, none⟩ = some (.string m.s) := by have := h1.c0; rw [unhide HM] at this; exact this
  have c7 : w1.cell? ⟨g, 7, none⟩ = some (.int .i64 (m.i : Int)) := by have := h1.c7; rw [unhide HM] at this; exact this
  have c17 := h1.c17
  have f7 := h1.frozen 7
  have f17 := h1.frozen 17
  have HCE := hide hcells
  have HF1 := hide ((unhide HF0).trans (Fr.later hb1))
  have H1 := hide h1
  clear h1 hw1 hb1 c2 H0 HF0 hcells
  have HE := hide (hon gn cap w1 (by rw [← unhide HM]; exact unhide H1) (unhide HX).2 ((unhide HNS).fr (unhide HR) (unhide HF1)))
  clear hon HCE
  obtain ⟨l17, l16, l20, l19, l13, l7, l14, l18, l21, l22, l24, l23⟩ := hk
  have b17 : (x.k == 17) = false := by rw [beq_eq_false_iff_ne]; exact l17
  have b16 : (x.k == 16) = false := by rw [beq_eq_false_iff_ne]; exact l16
  have b20 : (x.k == 20) = false := by rw [beq_eq_false_iff_ne]; exact l20
  have b19 : (x.k == 19) = false := by rw [beq_eq_false_iff_ne]; exact l19
  have b13 : (x.k == 13) = false := by rw [beq_eq_false_iff_ne]; exact l13
  have b7 : (x.k == 7) = false := by rw [beq_eq_false_iff_ne]; exact l7
  have b14 : (x.k == 14) = false := by rw [beq_eq_false_iff_ne]; exact l14
  have b18 : (x.k == 18) = false := by rw [beq_eq_false_iff_ne]; exact l18
  have b21 : (x.k == 21) = false := by rw [beq_eq_false_iff_ne]; exact l21
  have b22 : (x.k == 22) = false := by rw [beq_eq_false_iff_ne]; exact l22
  have b24 : (x.k == 24) = false := by rw [beq_eq_false_iff_ne]; exact l24
  have b23 : (x.k == 23) = false := by rw [beq_eq_false_iff_ne]; exact l23
  clear l17 l16 l20 l19 l13 l7 l14 l18 l21 l22 l24 l23
  go_wp2_with fail
  refine (unhide HE).mono ?_
  rintro e w2 ⟨to, ok, N', rfl, h1, h2, r2, fo, sm2, ns2⟩
  have HO1 := hide h1
  have HO2 := hide h2
  rw [← unhide HM] at r2 fo
  have f2 := (unhide HF1).trans fo
  have c7 := r2.c7
  have f7 := r2.frozen 7
  have H2 := hide r2
  have HF2 := hide f2
  have HSM := hide (And.intro sm2 ns2)
  clear h1 h2 fo sm2 ns2 r2 f2 HE k0 k5 c0 c6 c17 f17 H1 HF1
  cases ok
  · have HN := hide (unhide HO2 rfl)
    go_wp2_with fail
    go_ret
    have r3 := unhide H2
    have f3 := unhide HF2
    rw [unhide HM] at r3 f3
    exact ⟨N', (unhide HSM).1, (unhide HSM).2, .inr ⟨rfl, unhide HN, r3, f3⟩⟩
  · obtain ⟨a, rfl, ha⟩ := unhide HO1 rfl
    have HN := hide ha
    clear ha
    go_wp2_with fail
    go_ret
    have r3 := (unhide H2).put 7 (.int .i64 (a : Int)) { m1 with i := a } rfl rfl rfl rfl rfl rfl rfl
    have f4 := (Fr.cell (g := g) (w := w2) (m := m1) (m' := { m1 with i := a }) 7 (.int .i64 (a : Int)) rfl rfl rfl rfl rfl rfl)
    have f3 := (unhide HF2).trans f4
    have n3 := (unhide HSM).2.fr (unhide H2) f4
    rw [unhide HM] at r3 f3
    exact ⟨N', (unhide HSM).1, n3, .inl ⟨a, rfl, unhide HN, r3, f3⟩⟩
end Go.Proofs.YtkggmodabpjobaaDoor
