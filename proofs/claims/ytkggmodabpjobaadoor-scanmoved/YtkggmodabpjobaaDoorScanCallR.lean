/- What call does with a name that no rule has, and come there. What call does with a rule's pattern. What come does where a rule is called. What come does at a cursor. -/
import Derived.Test.YtkggmodabpjobaaDoorScanComeM
import Derived.Deep.RegionHeld3
import Derived.Test.YtkggmodabpjobaaDoorScanNewR
namespace Go.Proofs.YtkggmodabpjobaaDoor
open Go.RowKit

set_option maxRecDepth 100000 in
set_option maxHeartbeats 1000000 in
theorem call_none {w : World} {B g : Nat} {m : MS} {N : List Nd} {O : List Int} {W : List Wr} {C : List Cr} {G S : List Gft} (h : Rep w B g m N O W C G S) (r : Int) (hr : r < 0) :
    Calls Tryd.prog 31 #[.pointer (some ⟨g, 0, none⟩), .int .i64 r] w fun e w' => e = .returned (.int .i64 3) ∧ Rep w' B g { m with err := 7 } N O W C G S ∧ Fr g m { m with err := 7 } w w' := by
  have c18 := h.c18
  have f18 := h.frozen 18
  have HR := hide h
  clear h
  go_enter Tryd.func31, Tryd.ntmps31
  go_wp2_with fail
  go_ret
  exact ⟨rfl, (unhide HR).put 18 (.int .i64 7) { m with err := 7 } rfl rfl rfl rfl rfl rfl rfl, Fr.cell (m := m) (m' := { m with err := 7 }) 18 _ rfl rfl rfl rfl rfl rfl⟩

set_option maxRecDepth 100000 in
set_option maxHeartbeats 1000000 in
theorem come_noRule {w : World} {B g : Nat} {m : MS} {N : List Nd} {O : List Int} {W : List Wr} {C : List Cr} {G S : List Gft} {x : Nd} (h : Rep w B g m N O W C G S) (hx : N[m.node]? = some x) (htf : m.ticks < m.fuel) (hfu : m.fuel ≤ 100000) (hk : x.k = 24) (hru : x.ru < 0) :
    Calls Tryd.prog 20 #[.pointer (some ⟨g, 0, none⟩)] w fun e w' => e = .returned (.int .i64 3) ∧ Rep w' B g { m with ticks := m.ticks + 1, err := 7 } N O W C G S ∧ Fr g m { m with ticks := m.ticks + 1, err := 7 } w w' := by
  have hnl : m.node < N.length := (List.getElem?_eq_some_iff.1 hx).1
  obtain ⟨gn, cap, hnv, hcap, -⟩ := h.nodes.form (by intro e; rw [e] at hnl; simp at hnl)
  have hia := idx_run (g := gn) (n := N.length) (cap := cap) Tryd.underlying49 size_node hnl
  have hng : ¬ gn = g := fun e => h.nodes.neBlk h.blk (by decide) (by rw [hnv, e]; rfl)
  have hgn : ¬ g = gn := fun e => hng e.symm
  have c15 := h.c15
  have c16 := h.c16
  have f16 := h.frozen 16
  have ht : ((m.ticks : Int) == (m.fuel : Int)) = false := by rw [beq_eq_false_iff_ne]; omega
  have HR := hide h
  have HX := hide (And.intro hx hnv)
  clear h hx hnv
  go_enter Tryd.func20, Tryd.ntmps20
  go_wp2_with fail
  go_quiet (fail)
  obtain ⟨wq, hwq⟩ : ∃ wq, wq = w.drewN nq := ⟨_, rfl⟩
  rw [← hwq]
  have hbq : Below w.heap.size w wq := by rw [hwq]; exact below_drewN (Below.refl _ _) _
  have hq := (unhide HR).later hbq
  have c16 := cell_later hbq c16
  have f16 := hq.frozen 16
  have HQ := hide hq
  have HBQ := hide hbq
  clear hwq hbq hq c15
  go_wp2_with fail
  obtain ⟨m1, hm1⟩ : ∃ m1 : MS, m1 = { m with ticks := m.ticks + 1 } := ⟨_, rfl⟩
  obtain ⟨w0, hw0⟩ : ∃ w0, w0 = wq.setCell ⟨g, 16, none⟩ (.int .i64 ((m.ticks : Int) + 1)) := ⟨_, rfl⟩
  rw [← hw0]
  have h0 : Rep w0 B g m1 N O W C G S := by rw [hm1, hw0]; exact (unhide HQ).put 16 (.int .i64 ((m.ticks : Int) + 1)) { m with ticks := m.ticks + 1 } rfl rfl rfl rfl rfl rfl rfl
  have hF0 : Fr g m m1 w w0 := by rw [hm1, hw0]; exact (Fr.later (unhide HBQ)).trans (Fr.cell (m := m) (m' := { m with ticks := m.ticks + 1 }) 16 _ rfl rfl rfl rfl rfl rfl)
  have hnv1 : m1.nv = .slice (some ⟨gn, 0, none⟩) N.length cap := by rw [hm1]; exact (unhide HX).2
  have c2 : w0.cell? ⟨g, 2, none⟩ = some (.slice (some ⟨gn, 0, none⟩) N.length cap) := by rw [h0.c2, hnv1]
  have c6 : w0.cell? ⟨g, 6, none⟩ = some (.int .i64 (m.node : Int)) := by have := h0.c6; rw [hm1] at this; exact this
  have HM := hide hm1
  have H0 := hide h0
  have HF0 := hide hF0
  have HNV := hide hnv1
  clear h0 hF0 hw0 hm1 hnv1 c16 f16 HQ HBQ
  go_quiet (fail)
  obtain ⟨w1, hw1⟩ : ∃ w1, w1 = w0.drewN nq := ⟨_, rfl⟩
  rw [← hw1]
  have hb1 : Below w0.heap.size w0 w1 := by rw [hw1]; exact below_drewN (Below.refl _ _) _
  have h1 := (unhide H0).later hb1
  have c6 := cell_later hb1 c6
  have hcells : ∀ k u, (ndV x)[k]? = some u → w1.cell? ⟨gn, m.node * 10 + k, none⟩ = some u := fun k u hu => h1.nodes.cell ndV_len (unhide HNV) (unhide HX).1 hu
  have k0 : w1.cell? ⟨gn, m.node * 10, none⟩ = some (.int .i64 x.k) := hcells 0 _ rfl
  have k5 : w1.cell? ⟨gn, m.node * 10 + 5, none⟩ = some (.int .i64 (x.fi : Int)) := hcells 5 _ rfl
  have c0 : w1.cell? ⟨g, 0, none⟩ = some (.string m.s) := by have := h1.c0; rw [unhide HM] at this; exact this
  have c7 : w1.cell? ⟨g, 7, none⟩ = some (.int .i64 (m.i : Int)) := by have := h1.c7; rw [unhide HM] at this; exact this
  have c17 := h1.c17
  have f7 := h1.frozen 7
  have f17 := h1.frozen 17
  have HCE := hide hcells
  have HF1 := hide ((unhide HF0).trans (Fr.later hb1))
  have H1 := hide h1
  clear h1 hw1 hb1 c2 H0 HF0 hcells
  rw [hk] at k0
  have k4 : w1.cell? ⟨gn, m.node * 10 + 4, none⟩ = some (.int .i64 x.ru) := unhide HCE 4 _ rfl
  have HC := hide (call_none (unhide H1) x.ru hru)
  clear hk HCE
  go_wp2_with fail
  refine (unhide HC).mono ?_
  rintro e w2 ⟨rfl, r2, f2⟩
  have H2 := hide (And.intro r2 f2)
  clear r2 f2
  go_wp2_with fail
  go_ret
  obtain ⟨r2, f2⟩ := unhide H2
  have f := (unhide HF1).trans f2
  rw [unhide HM] at r2 f
  exact ⟨rfl, r2, f⟩
end Go.Proofs.YtkggmodabpjobaaDoor

namespace Go.Proofs.YtkggmodabpjobaaDoor
open Go.RowKit

theorem size_ints : (Tryd.prog.info? 3).map (·.size) = some 1 := by kernel_rfl
theorem idx_ints {g n cap i : Nat} (hi : i < n) (w : World) : (Instr.indexAt 50 (.slice (some ⟨g, 0, none⟩) n cap) (.int .i64 (i : Int))).run Tryd.prog w = .ok (.pointer (some ⟨g, i, none⟩)) w := by
  have := idx_run (g := g) (n := n) (cap := cap) Tryd.underlying50 size_ints hi w
  simpa using this
theorem rootCell {w : World} {B g : Nat} {m : MS} {N : List Nd} {O : List Int} {W : List Wr} {C : List Cr} {G S : List Gft} (h : Rep w B g m N O W C G S) {gr cap r : Nat} {z : Int} (hro : m.ro = .slice (some ⟨gr, 0, none⟩) O.length cap) (hr : O[r]? = some z) : w.cell? ⟨gr, r, none⟩ = some (.int .i64 z) := by
  have := h.roots.cell inV_len (g := gr) (cap := cap) (i := r) (k := 0) hro hr rfl
  simpa using this
set_option maxRecDepth 100000 in
set_option maxHeartbeats 1000000 in
theorem call_old {w : World} {B g : Nat} {m : MS} {N : List Nd} {O : List Int} {W : List Wr} {C : List Cr} {G S : List Gft} (h : Rep w B g m N O W C G S) {r z : Nat} (hr : O[r]? = some (z : Int)) :
    Calls Tryd.prog 31 #[.pointer (some ⟨g, 0, none⟩), .int .i64 (r : Int)] w fun e w' => e = .returned (.int .i64 0) ∧ Rep w' B g { m with node := z } N O W C G S ∧ Fr g m { m with node := z } w w' := by
  have hrl : r < O.length := (List.getElem?_eq_some_iff.1 hr).1
  obtain ⟨gr, cap, hro, hcap, -⟩ := h.roots.form (by intro e; rw [e] at hrl; simp at hrl)
  have hia := idx_ints (g := gr) (n := O.length) (cap := cap) hrl
  have c4 := h.c4
  rw [hro] at c4
  have q0 : w.cell? ⟨gr, r, none⟩ = some (.int .i64 (z : Int)) := by
    have := h.roots.cell inV_len (g := gr) (cap := cap) (i := r) (k := 0) hro hr rfl
    simpa using this
  have c6 := h.c6
  have f6 := h.frozen 6
  have h0 : ¬ ((r : Int) < 0) := by omega
  have h1 : ¬ ((z : Int) < 0) := by omega
  have HR := hide h
  clear h hr hro
  go_enter Tryd.func31, Tryd.ntmps31
  go_wp2_with fail
  go_ret
  exact ⟨rfl, (unhide HR).put 6 (.int .i64 (z : Int)) { m with node := z } rfl rfl rfl rfl rfl rfl rfl, Fr.cell (m := m) (m' := { m with node := z }) 6 _ rfl rfl rfl rfl rfl rfl⟩

set_option maxRecDepth 100000 in
set_option maxHeartbeats 4000000 in
theorem call_new {Wd w : World} {B g : Nat} {m : MS} {N : List Nd} {O : List Int} {W : List Wr} {C : List Cr} {G S : List Gft} {b o cr : Nat} {RL : List (ByteArray × PT)} (h : Rep w B g m N O W C G S) {r : Nat} {z : Int} {R : ByteArray × PT} (hr : O[r]? = some z) (hz : z < 0) (hR : RulesAt Wd b o RL) (hl : RL.length ≤ 1000000) (hrv : m.rv = .slice (some ⟨b, o, none⟩) RL.length cr) (hrr : RL[r]? = some R) (hbel : Below Wd.heap.size Wd w) (hWB : Wd.heap.size ≤ B) (hcn : N.length + R.2.cnt ≤ 800000) (hNZ : NZ R.2) :
    Calls Tryd.prog 31 #[.pointer (some ⟨g, 0, none⟩), .int .i64 (r : Int)] w fun e w' => e = .returned (.int .i64 0) ∧ ∃ v N', Rep w' B g { m with nv := v, node := N.length } N' (O.set r (N.length : Int)) W C G S ∧ Fr g m { m with nv := v, node := N.length } w w' ∧ Lies (fun nm => ruleAt nm RL 0) N' R.2 N.length ∧ (∀ i, i < N.length → N'[i]? = N[i]?) ∧ (N'.length = N.length + R.2.cnt ∧ (∀ {A : Nat}, Fresh A N → Fresh A N')) := by
  have hrl : r < O.length := (List.getElem?_eq_some_iff.1 hr).1
  have hrl2 : r < RL.length := (List.getElem?_eq_some_iff.1 hrr).1
  obtain ⟨gr, cap, hro, hcap, -⟩ := h.roots.form (by intro e; rw [e] at hrl; simp at hrl)
  have hia := idx_ints (g := gr) (n := O.length) (cap := cap) hrl
  have hib := idx_run' (b := b) (o := o) (n := RL.length) (cap := cr) hrl2
  have c1 := h.c1
  rw [hrv] at c1
  have c4 := h.c4
  rw [hro] at c4
  have q0 : w.cell? ⟨gr, r, none⟩ = some (.int .i64 z) := by
    have := h.roots.cell inV_len (g := gr) (cap := cap) (i := r) (k := 0) hro hr rfl
    simpa using this
  obtain ⟨p0, p1, p2, p3, p4, p5⟩ := (hR.later hbel).cells r R hrr
  unfold PT.kv at p5
  have h0 : ¬ ((r : Int) < 0) := by omega
  have HC := hide (fun W (hb : Below w.heap.size w W) => lay_anyG (fun nm => ruleAt nm RL 0) R.2 (hR.pats r R hrr) (bnext hbel hb) hWB (h.later hb) hcn hNZ (by rw [hrv]; exact rn_rules hR hl))
  unfold pv at HC
  have HR := hide (And.intro h (And.intro hr hro))
  clear h hr hro hR hbel hNZ hrr hrv p0
  go_enter Tryd.func31, Tryd.ntmps31
  go_wp2_with fail
  go_region_with (first | (go_at_call 19; refine (unhide HC _ ((Below.refl _ _).drew)).mono ?_; rintro e w1 ⟨rfl, v, N6, r6, f6, l6, o6, n6⟩; have d4 := r6.c4; simp only [(unhide HR).2.2] at d4; have x0 : w1.cell? ⟨gr, r, none⟩ = some (.int .i64 z) := rootCell r6 (unhide HR).2.2 (unhide HR).2.1; have x1 : w1.frozen? ⟨gr, r, none⟩ = false := r6.roots.frozen (unhide HR).2.2 r; have H6 := hide (And.intro r6 (And.intro f6 (And.intro l6 (And.intro o6 n6)))); clear r6 f6 l6 o6 n6))
  all_goals
    have hi : r < O.length := hrl
    have r7 := RepOset (unhide H6).1 (gn := gr) (a := r) (unhide HR).2.2 hi (N.length : Int)
    have f7 := (FrOset (w := w1) (g := g) (m := { m with nv := v }) (gn := gr) (by show m.ro.ownBlock = _; rw [(unhide HR).2.2]; rfl) r (.int .i64 (N.length : Int)))
    obtain ⟨w7, hw7⟩ : ∃ w7, w7 = w1.setCell ⟨gr, r, none⟩ (.int .i64 (N.length : Int)) := ⟨_, rfl⟩
    rw [← hw7] at r7 f7
    rw [← hw7]
    have y4 := r7.c4
    simp only [(unhide HR).2.2] at y4
    have y0 : w7.cell? ⟨gr, r, none⟩ = some (.int .i64 (N.length : Int)) := rootCell r7 (cap := cap) (by rw [List.length_set]; exact (unhide HR).2.2) (by rw [List.getElem?_set_self hi])
    have y6 := r7.c6
    have g6 := r7.frozen 6
    have H7 := hide (And.intro r7 f7)
    clear r7 f7 d4 x0 x1 hw7 HC c1 c4 q0 p1 p2 p3 p4 p5
    go_wp2_with fail
    go_ret
    exact ⟨rfl, v, N6, (unhide H7).1.put 6 (.int .i64 (N.length : Int)) { m with nv := v, node := N.length } rfl rfl rfl rfl rfl rfl rfl, (Fr.later ((Below.refl _ _).drew)).trans ((unhide H6).2.1.trans ((unhide H7).2.trans (Fr.cell (m := { m with nv := v }) (m' := { m with nv := v, node := N.length }) 6 _ rfl rfl rfl rfl rfl rfl))), (unhide H6).2.2.1, (unhide H6).2.2.2⟩
end Go.Proofs.YtkggmodabpjobaaDoor

namespace Go.Proofs.YtkggmodabpjobaaDoor
open Go.RowKit

set_option maxRecDepth 100000 in
set_option maxHeartbeats 1000000 in
theorem come_rule {w : World} {B g : Nat} {m : MS} {N : List Nd} {O : List Int} {W : List Wr} {C : List Cr} {G S : List Gft} {x : Nd} (h : Rep w B g m N O W C G S) (hx : N[m.node]? = some x) (htf : m.ticks < m.fuel) (hfu : m.fuel ≤ 100000) (hk : x.k = 24) (u : Int) (Q : World → Prop) (hC : ∀ w1, Rep w1 B g { m with ticks := m.ticks + 1 } N O W C G S → Fr g m { m with ticks := m.ticks + 1 } w w1 → Calls Tryd.prog 31 #[.pointer (some ⟨g, 0, none⟩), .int .i64 x.ru] w1 fun e w' => e = .returned (.int .i64 u) ∧ Q w') :
    Calls Tryd.prog 20 #[.pointer (some ⟨g, 0, none⟩)] w fun e w' => e = .returned (.int .i64 u) ∧ Q w' := by
  have hnl : m.node < N.length := (List.getElem?_eq_some_iff.1 hx).1
  obtain ⟨gn, cap, hnv, hcap, -⟩ := h.nodes.form (by intro e; rw [e] at hnl; simp at hnl)
  have hia := idx_run (g := gn) (n := N.length) (cap := cap) Tryd.underlying49 size_node hnl
  have hng : ¬ gn = g := fun e => h.nodes.neBlk h.blk (by decide) (by rw [hnv, e]; rfl)
  have hgn : ¬ g = gn := fun e => hng e.symm
  have c15 := h.c15
  have c16 := h.c16
  have f16 := h.frozen 16
  have ht : ((m.ticks : Int) == (m.fuel : Int)) = false := by rw [beq_eq_false_iff_ne]; omega
  have HR := hide h
  have HX := hide (And.intro hx hnv)
  have HQC := hide hC
  clear h hx hnv hC
  go_enter Tryd.func20, Tryd.ntmps20
  go_wp2_with fail
  go_quiet (fail)
  obtain ⟨wq, hwq⟩ : ∃ wq, wq = w.drewN nq := ⟨_, rfl⟩
  rw [← hwq]
  have hbq : Below w.heap.size w wq := by rw [hwq]; exact below_drewN (Below.refl _ _) _
  have hq := (unhide HR).later hbq
  have c16 := cell_later hbq c16
  have f16 := hq.frozen 16
  have HQ := hide hq
  have HBQ := hide hbq
  clear hwq hbq hq c15
  go_wp2_with fail
  obtain ⟨m1, hm1⟩ : ∃ m1 : MS, m1 = { m with ticks := m.ticks + 1 } := ⟨_, rfl⟩
  obtain ⟨w0, hw0⟩ : ∃ w0, w0 = wq.setCell ⟨g, 16, none⟩ (.int .i64 ((m.ticks : Int) + 1)) := ⟨_, rfl⟩
  rw [← hw0]
  have h0 : Rep w0 B g m1 N O W C G S := by rw [hm1, hw0]; exact (unhide HQ).put 16 (.int .i64 ((m.ticks : Int) + 1)) { m with ticks := m.ticks + 1 } rfl rfl rfl rfl rfl rfl rfl
  have hF0 : Fr g m m1 w w0 := by rw [hm1, hw0]; exact (Fr.later (unhide HBQ)).trans (Fr.cell (m := m) (m' := { m with ticks := m.ticks + 1 }) 16 _ rfl rfl rfl rfl rfl rfl)
  have hnv1 : m1.nv = .slice (some ⟨gn, 0, none⟩) N.length cap := by rw [hm1]; exact (unhide HX).2
  have c2 : w0.cell? ⟨g, 2, none⟩ = some (.slice (some ⟨gn, 0, none⟩) N.length cap) := by rw [h0.c2, hnv1]
  have c6 : w0.cell? ⟨g, 6, none⟩ = some (.int .i64 (m.node : Int)) := by have := h0.c6; rw [hm1] at this; exact this
  have HM := hide hm1
  have H0 := hide h0
  have HF0 := hide hF0
  have HNV := hide hnv1
  clear h0 hF0 hw0 hm1 hnv1 c16 f16 HQ HBQ
  go_quiet (fail)
  obtain ⟨w1, hw1⟩ : ∃ w1, w1 = w0.drewN nq := ⟨_, rfl⟩
  rw [← hw1]
  have hb1 : Below w0.heap.size w0 w1 := by rw [hw1]; exact below_drewN (Below.refl _ _) _
  have h1 := (unhide H0).later hb1
  have c6 := cell_later hb1 c6
  have hcells : ∀ k u, (ndV x)[k]? = some u → w1.cell? ⟨gn, m.node * 10 + k, none⟩ = some u := fun k u hu => h1.nodes.cell ndV_len (unhide HNV) (unhide HX).1 hu
  have k0 : w1.cell? ⟨gn, m.node * 10, none⟩ = some (.int .i64 x.k) := hcells 0 _ rfl
  have k5 : w1.cell? ⟨gn, m.node * 10 + 5, none⟩ = some (.int .i64 (x.fi : Int)) := hcells 5 _ rfl
  have c0 : w1.cell? ⟨g, 0, none⟩ = some (.string m.s) := by have := h1.c0; rw [unhide HM] at this; exact this
  have c7 : w1.cell? ⟨g, 7, none⟩ = some (.int .i64 (m.i : Int)) := by have := h1.c7; rw [unhide HM] at this; exact this
  have c17 := h1.c17
  have f7 := h1.frozen 7
  have f17 := h1.frozen 17
  have HCE := hide hcells
  have HF1 := hide ((unhide HF0).trans (Fr.later hb1))
  have H1 := hide h1
  clear h1 hw1 hb1 c2 H0 HF0 hcells
  rw [hk] at k0
  have k4 : w1.cell? ⟨gn, m.node * 10 + 4, none⟩ = some (.int .i64 x.ru) := unhide HCE 4 _ rfl
  have hu := unhide H1
  have hv := unhide HF1
  rw [unhide HM] at hu hv
  have HC := hide (unhide HQC w1 hu hv)
  clear hu hv HQC
  clear hk HCE
  go_wp2_with fail
  refine (unhide HC).mono ?_
  rintro e w2 ⟨rfl, r2⟩
  have H2 := hide r2
  clear r2
  go_wp2_with fail
  go_ret
  exact ⟨rfl, unhide H2⟩
end Go.Proofs.YtkggmodabpjobaaDoor

namespace Go.Proofs.YtkggmodabpjobaaDoor
open Go.RowKit

set_option maxRecDepth 100000 in
set_option maxHeartbeats 1000000 in
theorem come_cursorQ {w : World} {B g : Nat} {m : MS} {N : List Nd} {O : List Int} {W : List Wr} {C : List Cr} {G S : List Gft} {x : Nd} (h : Rep w B g m N O W C G S) (hx : N[m.node]? = some x) (htf : m.ticks < m.fuel) (hfu : m.fuel ≤ 100000) (hk : x.k = 23) (d : ByteArray) (Q : World → Prop) (hI : ∀ W, Fr g m { m with ticks := m.ticks + 1 } w W → Calls Tryd.prog 33 #[.int .i64 (m.i : Int)] W fun e w' => e = .returned (.string d) ∧ Below W.heap.size W w') (hC : ∀ w1, Rep w1 B g { m with ticks := m.ticks + 1 } N O W C G S → Fr g m { m with ticks := m.ticks + 1 } w w1 → Calls Tryd.prog 32 #[.pointer (some ⟨g, 0, none⟩), .string x.nm, .string d] w1 fun e w' => e = .returned (.tuple #[]) ∧ Q w') :
    Calls Tryd.prog 20 #[.pointer (some ⟨g, 0, none⟩)] w fun e w' => e = .returned (.int .i64 1) ∧ Q w' := by
  have hnl : m.node < N.length := (List.getElem?_eq_some_iff.1 hx).1
  obtain ⟨gn, cap, hnv, hcap, -⟩ := h.nodes.form (by intro e; rw [e] at hnl; simp at hnl)
  have hia := idx_run (g := gn) (n := N.length) (cap := cap) Tryd.underlying49 size_node hnl
  have hng : ¬ gn = g := fun e => h.nodes.neBlk h.blk (by decide) (by rw [hnv, e]; rfl)
  have hgn : ¬ g = gn := fun e => hng e.symm
  have c15 := h.c15
  have c16 := h.c16
  have f16 := h.frozen 16
  have ht : ((m.ticks : Int) == (m.fuel : Int)) = false := by rw [beq_eq_false_iff_ne]; omega
  have HR := hide h
  have HX := hide (And.intro hx hnv)
  have HQC := hide hC
  have HIT := hide hI
  clear h hx hnv hC hI
  go_enter Tryd.func20, Tryd.ntmps20
  go_wp2_with fail
  go_quiet (fail)
  obtain ⟨wq, hwq⟩ : ∃ wq, wq = w.drewN nq := ⟨_, rfl⟩
  rw [← hwq]
  have hbq : Below w.heap.size w wq := by rw [hwq]; exact below_drewN (Below.refl _ _) _
  have hq := (unhide HR).later hbq
  have c16 := cell_later hbq c16
  have f16 := hq.frozen 16
  have HQ := hide hq
  have HBQ := hide hbq
  clear hwq hbq hq c15
  go_wp2_with fail
  obtain ⟨m1, hm1⟩ : ∃ m1 : MS, m1 = { m with ticks := m.ticks + 1 } := ⟨_, rfl⟩
  obtain ⟨w0, hw0⟩ : ∃ w0, w0 = wq.setCell ⟨g, 16, none⟩ (.int .i64 ((m.ticks : Int) + 1)) := ⟨_, rfl⟩
  rw [← hw0]
  have h0 : Rep w0 B g m1 N O W C G S := by rw [hm1, hw0]; exact (unhide HQ).put 16 (.int .i64 ((m.ticks : Int) + 1)) { m with ticks := m.ticks + 1 } rfl rfl rfl rfl rfl rfl rfl
  have hF0 : Fr g m m1 w w0 := by rw [hm1, hw0]; exact (Fr.later (unhide HBQ)).trans (Fr.cell (m := m) (m' := { m with ticks := m.ticks + 1 }) 16 _ rfl rfl rfl rfl rfl rfl)
  have hnv1 : m1.nv = .slice (some ⟨gn, 0, none⟩) N.length cap := by rw [hm1]; exact (unhide HX).2
  have c2 : w0.cell? ⟨g, 2, none⟩ = some (.slice (some ⟨gn, 0, none⟩) N.length cap) := by rw [h0.c2, hnv1]
  have c6 : w0.cell? ⟨g, 6, none⟩ = some (.int .i64 (m.node : Int)) := by have := h0.c6; rw [hm1] at this; exact this
  have HM := hide hm1
  have H0 := hide h0
  have HF0 := hide hF0
  have HNV := hide hnv1
  clear h0 hF0 hw0 hm1 hnv1 c16 f16 HQ HBQ
  go_quiet (fail)
  obtain ⟨w1, hw1⟩ : ∃ w1, w1 = w0.drewN nq := ⟨_, rfl⟩
  rw [← hw1]
  have hb1 : Below w0.heap.size w0 w1 := by rw [hw1]; exact below_drewN (Below.refl _ _) _
  have h1 := (unhide H0).later hb1
  have c6 := cell_later hb1 c6
  have hcells : ∀ k u, (ndV x)[k]? = some u → w1.cell? ⟨gn, m.node * 10 + k, none⟩ = some u := fun k u hu => h1.nodes.cell ndV_len (unhide HNV) (unhide HX).1 hu
  have k0 : w1.cell? ⟨gn, m.node * 10, none⟩ = some (.int .i64 x.k) := hcells 0 _ rfl
  have k5 : w1.cell? ⟨gn, m.node * 10 + 5, none⟩ = some (.int .i64 (x.fi : Int)) := hcells 5 _ rfl
  have c0 : w1.cell? ⟨g, 0, none⟩ = some (.string m.s) := by have := h1.c0; rw [unhide HM] at this; exact this
  have c7 : w1.cell? ⟨g, 7, none⟩ = some (.int .i64 (m.i : Int)) := by have := h1.c7; rw [unhide HM] at this; exact this
  have c17 := h1.c17
  have f7 := h1.frozen 7
  have f17 := h1.frozen 17
  have HCE := hide hcells
  have HF1 := hide ((unhide HF0).trans (Fr.later hb1))
  have H1 := hide h1
  clear h1 hw1 hb1 c2 H0 HF0 hcells
  rw [hk] at k0
  have k3 : w1.cell? ⟨gn, m.node * 10 + 3, none⟩ = some (.string x.nm) := unhide HCE 3 _ rfl
  clear hk HCE
  go_wp2_with fail
  have hu := unhide H1
  have hv := unhide HF1
  rw [unhide HM] at hu hv
  have HT := hide (fun w2 (hb : Below w1.heap.size w1 w2) => unhide HQC w2 (hu.later hb) (hv.trans (Fr.later hb)))
  have HJ := hide (fun w2 (hb : Below w1.heap.size w1 w2) => unhide HIT w2 (hv.trans (Fr.later hb)))
  clear hu hv HIT
  go_region_with (first
    | (go_at_call 33; refine (unhide HJ _ (Below.refl w1.heap.size w1).drew).mono ?_; rintro e w2 ⟨rfl, hb2⟩; have hb2' := hide (bnext ((Below.refl w1.heap.size w1).drew) hb2); clear hb2; have j3 := cell_later (unhide hb2') k3)
    | (go_at_call 32; refine (unhide HT _ (unhide hb2').drew).mono ?_; rintro e w3 ⟨rfl, hq3⟩; have HQ3 := hide hq3; clear hq3)
    | (go_at_call 32; refine (unhide HT _ (unhide hb2')).mono ?_; rintro e w3 ⟨rfl, hq3⟩; have HQ3 := hide hq3; clear hq3))
  all_goals
    go_wp2_with fail
    go_ret
    exact ⟨rfl, unhide HQ3⟩
end Go.Proofs.YtkggmodabpjobaaDoor
