/- What retry does at a kind of many ways. -/
import Derived.Test.YtkggmodabpjobaaDoorScanEnter
import Derived.Test.YtkggmodabpjobaaDoorScanFurther
import Derived.BigRegion
import Derived.Deep.QuietTactic
import Derived.BigQuiet
namespace Go.Proofs.YtkggmodabpjobaaDoor
open Go.RowKit

/-- What it leaves behind. -/
def RetL (w : World) (B g : Nat) (m : MS) (N : List Nd) (O : List Int) (W : List Wr) (C : List Cr) (G S : List Gft) (c : Cr) (_x : Nd) (y : Nat) (e : Ending) (w' : World) : Prop :=
  ∃ m1 : MS, (∃ wv gv, m1 = { m with i := c.i, b := c.b, wv := wv, gv := gv }) ∧
     ((e = .returned (.int .i64 1) ∧ ∃ to nx : Nat, ((prs m.s y).map fun t => (t, t)) = some (to, nx) ∧ to ≤ m.s.size ∧ Rep w' B g { m1 with i := to } N O (W.take c.ws) (C ++ [{ c with x := (nx : Int) }]) (G.take c.gs) S ∧ Fr g m { m1 with i := to } w w') ∨
      (e = .returned (.int .i64 2) ∧ ((prs m.s y).map fun t => (t, t)) = none ∧ ∃ v, Rep w' B g { m1 with cv := v } N O (W.take c.ws) C (G.take c.gs) S ∧ Fr g m { m1 with cv := v } w w'))

set_option maxRecDepth 100000 in
set_option maxHeartbeats 4000000 in
theorem retry_bal {w : World} {B g : Nat} {m : MS} {N : List Nd} {O : List Int} {W : List Wr} {C : List Cr} {G S : List Gft} {c : Cr} {x : Nd} (h : Rep w B g m N O W (C ++ [c]) G S) (hx : N[c.node]? = some x) (hws : c.ws ≤ W.length) (hgs : c.gs ≤ G.length) (hC : C.length ≤ 1000000) (hk : x.k = 14) {y : Nat} (hy : c.x = (y : Int)) (hs : m.s.size ≤ 65536) (hyl : y ≤ m.s.size) :
    Calls Tryd.prog 22 #[.pointer (some ⟨g, 0, none⟩)] w fun e w' => RetL w B g m N O W C G S c x y e w' := by
  have hnl : c.node < N.length := (List.getElem?_eq_some_iff.1 hx).1
  obtain ⟨gn, cap, hnv, hcap, -⟩ := h.nodes.form (by intro e; rw [e] at hnl; simp at hnl)
  obtain ⟨gc, cc, hcv, hcc, -⟩ := h.choices.form (by simp)
  have hcx : (C ++ [c])[C.length]? = some c := by simp
  have j2 : w.cell? ⟨gc, C.length * 6 + 2, none⟩ = some (.int .i64 (c.i : Int)) := h.choices.cell crV_len hcv hcx (k := 2) rfl
  have j3 : w.cell? ⟨gc, C.length * 6 + 3, none⟩ = some (.int .i64 c.b) := h.choices.cell crV_len hcv hcx (k := 3) rfl
  have j4 : w.cell? ⟨gc, C.length * 6 + 4, none⟩ = some (.int .i64 (c.ws : Int)) := h.choices.cell crV_len hcv hcx (k := 4) rfl
  have j5 : w.cell? ⟨gc, C.length * 6 + 5, none⟩ = some (.int .i64 (c.gs : Int)) := h.choices.cell crV_len hcv hcx (k := 5) rfl
  have hng : ¬ gn = g := fun e => h.nodes.neBlk h.blk (by decide) (by rw [hnv, e]; rfl)
  have hgn : ¬ g = gn := fun e => hng e.symm
  have hnc : ¬ gn = gc := h.nodes.neRow h.choices (by decide) hnv hcv
  have hcn : ¬ gc = gn := fun e => hnc e.symm
  have hcg : ¬ gc = g := fun e => h.choices.neBlk h.blk (by decide) (by rw [hcv, e]; rfl)
  have hgc : ¬ g = gc := fun e => hcg e.symm
  obtain ⟨wa, wc, hwv, hwn, hwc⟩ := h.works.len
  obtain ⟨ga, gcp, hgv, hgn0, hgc0⟩ := h.given.len
  have hia := idx_run (g := gn) (n := N.length) (cap := cap) Tryd.underlying49 size_node hnl
  have hlen : (C ++ [c]).length = C.length + 1 := by simp
  rw [hlen] at hcv hcc
  have hic := idx_run (g := gc) (n := C.length + 1) (cap := cc) Tryd.underlying52 size_choice (show C.length < C.length + 1 by omega)
  have hcw := cut_run (a := wa) (n := W.length) (cap := wc) Tryd.underlying51 size_work hws hwc (h.works.zeroAt hwv)
  have hcg2 := cut_run (a := ga) (n := G.length) (cap := gcp) Tryd.underlying30 size_gift hgs hgc0 (h.given.zeroAt hgv)
  have hcc2 := cut_run (a := some ⟨gc, 0, none⟩) (n := C.length + 1) (cap := cc) Tryd.underlying52 size_choice (show C.length ≤ C.length + 1 by omega) hcc (fun x hx => by injection hx with hx; exact ⟨gc, hx.symm⟩)
  have c2 := h.c2
  have c7 := h.c7
  have c8 := h.c8
  have c9 := h.c9
  have c10 := h.c10
  have c11 := h.c11
  have f7 := h.frozen 7
  have f8 := h.frozen 8
  have f9 := h.frozen 9
  have f11 := h.frozen 11
  have hW1 : Row w B 81 4 wrV (.slice wa c.ws wc) (W.take c.ws) := h.works.take wrV_len hwv hws
  have hG1 : Row w B 44 2 gfV (.slice ga c.gs gcp) (G.take c.gs) := h.given.take gfV_len hgv hgs
  have hga : (Value.slice ga c.gs gcp).ownBlock = m.gv.ownBlock := by rw [hgv]; cases ga <;> rfl
  have hwa : (Value.slice wa c.ws wc).ownBlock = m.wv.ownBlock := by rw [hwv]; cases wa <;> rfl
  have HR := hide h
  have HT := hide (And.intro hW1 (And.intro hG1 (And.intro hga hwa)))
  rw [hnv] at c2
  rw [hcv] at c10
  rw [hwv] at c9
  rw [hgv] at c11
  have HX := hide (And.intro hx (And.intro hcx (And.intro hnv (And.intro hcv hlen))))
  clear h hx hnv hcv hwv hgv hcx hW1 hG1 hga hwa hwn hgn0
  go_enter Tryd.func22, Tryd.ntmps22
  go_wp2_with fail
  go_region
  obtain ⟨w0, hw0⟩ : ∃ w0, w0 = ((((w.setCell ⟨g, 7, none⟩ (.int .i64 (c.i : Int))).setCell ⟨g, 8, none⟩ (.int .i64 c.b)).setCell ⟨g, 9, none⟩ (.slice wa c.ws wc)).setCell ⟨g, 11, none⟩ (.slice ga c.gs gcp)).drew := ⟨_, rfl⟩
  rw [← hw0]
  obtain ⟨m1, hm1⟩ : ∃ m1 : MS, m1 = { m with i := c.i, b := c.b, wv := .slice wa c.ws wc, gv := .slice ga c.gs gcp } := ⟨_, rfl⟩
  have HM := hide hm1
  have h0 : Rep w0 B g m1 N O (W.take c.ws) (C ++ [c]) (G.take c.gs) S := by
    obtain ⟨hW1, hG1, hga, hwa⟩ := unhide HT
    have r1 := (unhide HR).put 7 (.int .i64 (c.i : Int)) { m with i := c.i } rfl rfl rfl rfl rfl rfl rfl
    have r2 := r1.put 8 (.int .i64 c.b) { m with i := c.i, b := c.b } rfl rfl rfl rfl rfl rfl rfl
    have b1 : But g w ((w.setCell ⟨g, 7, none⟩ (.int .i64 (c.i : Int))).setCell ⟨g, 8, none⟩ (.int .i64 c.b)) := ((But.refl g w).setCell 7 _).setCell 8 _
    have r3 := r2.putW (.slice wa c.ws wc) (hW1.keepBut (unhide HR).blk (by decide) b1)
    have r4 := r3.putG (.slice ga c.gs gcp) (hG1.keepBut (unhide HR).blk (by decide) (b1.setCell 9 _)) (fun k hk => r3.apart k (hga ▸ hk))
    rw [hw0, hm1]
    exact r4.later (Below.refl _ _).drew
  have hF : Fr g m m1 w w0 := by
    obtain ⟨-, -, hga, hwa⟩ := unhide HT
    rw [hw0, hm1]
    refine ⟨rfl, rfl, rfl, by simp, fun k hk hn => ?_, fun k hk => .inl ?_⟩
    · have hkg : k ≠ g := fun e => hn (.inl e)
      exact ((((But.refl g w).setCell 7 _).setCell 8 _).setCell 9 _ |>.setCell 11 _).block k hk hkg
    · rcases hk with y | y | y | y | y | y | y
      · exact .inl y
      · exact .inr (.inl y)
      · exact .inr (.inr (.inl y))
      · exact .inr (.inr (.inr (.inl (hwa ▸ y))))
      · exact .inr (.inr (.inr (.inr (.inl y))))
      · exact .inr (.inr (.inr (.inr (.inr (.inl (hga ▸ y))))))
      · exact .inr (.inr (.inr (.inr (.inr (.inr y)))))
  have HF := hide hF
  clear hw0 hF c2 c7 c8 c9 c10 c11 f7 f8 f9 f11 j2 j3 j4 j5 hcw hcg2 HT
  obtain ⟨hx, hcx, hnv, hcv, hlen⟩ := unhide HX
  have hnv1 : m1.nv = .slice (some ⟨gn, 0, none⟩) N.length cap := by rw [hm1]; exact hnv
  have hcv1 : m1.cv = .slice (some ⟨gc, 0, none⟩) (C.length + 1) cc := by rw [hm1]; exact hcv
  have k0 : w0.cell? ⟨gn, c.node * 10, none⟩ = some (.int .i64 x.k) := h0.nodes.cell ndV_len hnv1 hx (k := 0) rfl
  have k5 : w0.cell? ⟨gn, c.node * 10 + 5, none⟩ = some (.int .i64 (x.fi : Int)) := h0.nodes.cell ndV_len hnv1 hx (k := 5) rfl
  have k6 : w0.cell? ⟨gn, c.node * 10 + 6, none⟩ = some (.int .i64 (x.en : Int)) := h0.nodes.cell ndV_len hnv1 hx (k := 6) rfl
  have hcv2 : m1.cv = .slice (some ⟨gc, 0, none⟩) (C ++ [c]).length cc := by rw [hlen]; exact hcv1
  have j0 : w0.cell? ⟨gc, C.length * 6, none⟩ = some (.int .i64 (c.node : Int)) := h0.choices.cell crV_len hcv2 hcx (k := 0) rfl
  have j1 : w0.cell? ⟨gc, C.length * 6 + 1, none⟩ = some (.int .i64 c.x) := h0.choices.cell crV_len hcv2 hcx (k := 1) rfl
  have q1 : w0.frozen? ⟨gc, C.length * 6 + 1, none⟩ = false := h0.choices.frozen hcv2 _
  have hCpop : Row w0 B 84 6 crV (.slice (some ⟨gc, 0, none⟩) C.length cc) C := by
    have := h0.choices.take crV_len hcv2 (show C.length ≤ (C ++ [c]).length by simp)
    rwa [List.take_left] at this
  have c0 : w0.cell? ⟨g, 0, none⟩ = some (.string m.s) := by have := h0.c0; rw [hm1] at this; exact this
  have c2 : w0.cell? ⟨g, 2, none⟩ = some (.slice (some ⟨gn, 0, none⟩) N.length cap) := by rw [h0.c2, hnv1]
  have c6 := h0.c6
  have c7 := h0.c7
  have c10 : w0.cell? ⟨g, 10, none⟩ = some (.slice (some ⟨gc, 0, none⟩) (C.length + 1) cc) := by rw [h0.c10, hcv1]
  have c17 := h0.c17
  have f6 := h0.frozen 6
  have f7 := h0.frozen 7
  have f10 := h0.frozen 10
  have f17 := h0.frozen 17
  have H0 := hide h0
  have HCP := hide hCpop
  have HV := hide (And.intro hcv2 hcx)
  clear h0 hm1 hnv1 hcv1 hcv2 hx hcx hnv hcv hlen hCpop HX
  go_wp2_with fail
  go_quiet (fail)
  obtain ⟨w1, hw1⟩ : ∃ w1, w1 = w0.drewN nq := ⟨_, rfl⟩
  rw [← hw1]
  have hb1 : Below w0.heap.size w0 w1 := by rw [hw1]; exact below_drewN (Below.refl _ _) _
  have h1 := (unhide H0).later hb1
  have hF1 : Fr g m m1 w w1 := (unhide HF).trans (Fr.later hb1)
  have k0 := cell_later hb1 k0
  have k5 := cell_later hb1 k5
  have k6 := cell_later hb1 k6
  have j0 := cell_later hb1 j0
  have j1 := cell_later hb1 j1
  have c0 := cell_later hb1 c0
  have c2 := cell_later hb1 c2
  have c6 := cell_later hb1 c6
  have c7 := cell_later hb1 c7
  have c10 := cell_later hb1 c10
  have c17 := cell_later hb1 c17
  have f6 := h1.frozen 6
  have f7 := h1.frozen 7
  have f10 := h1.frozen 10
  have f17 := h1.frozen 17
  have q1 : w1.frozen? ⟨gc, C.length * 6 + 1, none⟩ = false := h1.choices.frozen (unhide HV).1 _
  have HC1 := hide ((unhide HCP).later hb1)
  have H1 := hide h1
  have HF1 := hide hF1
  clear h1 hF1 hw1 hb1 H0 HF HCP
  rw [hy] at j1
  have HE := hide (further_bal (T := ⟨x.k, ByteArray.empty, 0, ByteArray.empty, none, 0, 0, 0, 0, fun i => i.elim0⟩) (i := y) c0 k0 hs hyl hk)
  rw [hk] at k0
  have hown : m1.cv.ownBlock = some gc := by rw [(unhide HV).1]; rfl
  have HO := hide hown
  clear hk hy hown
  go_wp2_with fail
  refine (unhide HE).mono ?_
  rintro e w2 ⟨to, nx, ok, rfl, ho1, ho2, hb2⟩
  have h2 := (unhide H1).later hb2
  have fr2 := (unhide HF1).trans (Fr.later hb2)
  have c7 := cell_later hb2 c7
  have c10 := cell_later hb2 c10
  have j1 := cell_later hb2 j1
  have f7 := h2.frozen 7
  have f10 := h2.frozen 10
  have q1 : w2.frozen? ⟨gc, C.length * 6 + 1, none⟩ = false := h2.choices.frozen (unhide HV).1 _
  have HC2 := hide ((unhide HC1).later hb2)
  have H2 := hide h2
  have HF2 := hide fr2
  have HO1 := hide ho1
  have HO2 := hide ho2
  clear h2 fr2 ho1 ho2 hb2 H1 HF1 HC1 HE k0 k5 k6 j0 c0 c2 c6 c17 f6 f17
  cases ok
  · have hn := unhide HO2 rfl
    have HN := hide hn
    clear hn
    go_wp2_with fail
    go_ret
    exact ⟨m1, ⟨_, _, unhide HM⟩, .inr ⟨rfl, unhide HN, _, (unhide H2).putC _ (unhide HC2), (unhide HF2).trans (FrC (unhide HO).symm)⟩⟩
  · obtain ⟨a, b, rfl, rfl, hr, hal⟩ := unhide HO1 rfl
    have HN := hide (And.intro hr hal)
    clear hr hal
    go_wp2_with fail
    go_ret
    have r6 := (unhide H2).put 7 (.int .i64 (a : Int)) { m1 with i := a } rfl rfl rfl rfl rfl rfl rfl
    have hset : Row ((w2.setCell ⟨g, 7, none⟩ (.int .i64 (a : Int))).setCell ⟨gc, C.length * 6 + 1, none⟩ (.int .i64 (b : Int))) B 84 6 crV m1.cv (C ++ [{ c with x := (b : Int) }]) := by
      have := r6.choices.set crV_len (unhide HV).1 (unhide HV).2 (k := 1) (y := { c with x := (b : Int) }) (u := .int .i64 (b : Int)) (by decide) rfl
      rwa [List.set_append_right _ _ (Nat.le_refl _), Nat.sub_self, List.set_cons_zero] at this
    exact ⟨m1, ⟨_, _, unhide HM⟩, .inl ⟨rfl, a, b, (unhide HN).1, (unhide HN).2, RepCset r6 (unhide HO) _ _ hset, ((unhide HF2).trans (Fr.cell (m' := { m1 with i := a }) 7 _ rfl rfl rfl rfl rfl rfl)).trans (FrCset (m := { m1 with i := a }) (unhide HO) _ _)⟩⟩
end Go.Proofs.YtkggmodabpjobaaDoor
