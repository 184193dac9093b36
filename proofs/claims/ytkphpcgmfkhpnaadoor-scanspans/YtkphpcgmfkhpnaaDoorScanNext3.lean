/- Each turn behind a kid, and each turn back, does what is to be done. What next does with a pattern that looks for no byte of a text, tells nothing at once and calls nobody: it goes to the next way, or to the end. -/
import Derived.Test.YtkphpcgmfkhpnaaDoorScanSim2
import Derived.Test.YtkphpcgmfkhpnaaDoorScanFollowM
import Derived.Test.YtkphpcgmfkhpnaaDoorScanRetryF
import Derived.Test.YtkphpcgmfkhpnaaDoorScanRetryA
import Derived.Test.YtkphpcgmfkhpnaaDoorScanRetryN
import Derived.Test.YtkphpcgmfkhpnaaDoorScanRetryB
import Derived.Test.YtkphpcgmfkhpnaaDoorScanRetryL
import Derived.Test.YtkphpcgmfkhpnaaDoorScanRetryX
import Derived.Test.YtkphpcgmfkhpnaaDoorScanBegin
namespace Go.Proofs.YtkphpcgmfkhpnaaDoor
open Go.RowKit

theorem sim_follow (X : Ctx) (k : Nat) (w : World) (h : M1 X k w) : (w.cell? ⟨X.g, 8, none⟩ = some (.int .i64 (-1)) ∧ EE X true w) ∨ ((∃ b : Nat, w.cell? ⟨X.g, 8, none⟩ = some (.int .i64 (b : Int))) ∧ Calls Tryd.prog 27 #[.pointer (some ⟨X.g, 0, none⟩)] w fun e w' => ∃ t k', e = .returned (.int .i64 ((t : Nat) : Int)) ∧ t ≤ 2 ∧ k' < k ∧ MM X t k' w') := by
  obtain ⟨m, N, O, W, C, G, S, cs, em, ch, hc, hch, hd, hwl, hlen, hD, rfl⟩ := h
  have hti := hc.ti
  have hbig := hc.big
  have hts : tks [hs] = 0 := rfl
  have hnt : NoWay [hs] := noWay_one (by decide)
  cases ch with
  | nil =>
    left
    have hb : m.b = -1 := hch
    refine ⟨by rw [hc.rep.c8, hb], ?_⟩
    unfold EE
    rw [if_pos rfl]
    exact ⟨m, N, O, W, C, G, S, cs, em, hc, hwl, by simp at hlen; omega, by rw [hD, behind_nothing]⟩
  | cons kk ks =>
    right
    obtain ⟨bi, r0, hb, hr, hl, hF, hkk, hri, hile, hcat, hchn⟩ := hch
    have hch2 : ChainS X.rn X.s.size N W r0.b ks := by
      have := hchn.append (W.drop bi)
      rwa [List.take_append_drop] at this
    obtain ⟨x, hx, e1, e2, e3, e4, e5, e6, e7, hk⟩ := hl.node
    have ho := hF.ok
    obtain ⟨dn, dm, di⟩ := hd kk List.mem_cons_self
    have hdk : Deep (X.fuel - m.ticks) 1 m.i ks := fun j hj => hd j (List.mem_cons_of_mem _ hj)
    have hdk0 : Deep (X.fuel - m.ticks) 0 m.i ks := hdk.less (Nat.le_refl _) (by omega) (Nat.le_refl _)
    rw [List.length_cons] at hlen
    refine ⟨⟨bi, by rw [hc.rep.c8, hb]⟩, ?_⟩
    rcases hkk with q | q | q
    · obtain ⟨x', hx', hkid, hj⟩ := hcat q
      have : x' = x := Option.some.inj (hx'.symm.trans hx)
      subst this
      by_cases he : kk.j + 2 = kk.T.len
      · refine (follow_last hc.rep hb hr hx (by rw [e1]; exact q) (by omega) (by omega)).mono ?_
        rintro e w' ⟨rfl, r, f⟩
        have hst := behind_cat_last (s := X.s) (R := X.R) (dg := X.dg) (i := m.i) (g := G) (ch := ks) (cs := cs) q he
        refine ⟨0, _, rfl, by omega, ?_, ⟨_, N, O, W, C, G, S, cs, em ++ [hs], ks, kk.n, kk.T.kid (kk.j + 1), hc.step [hs] r f rfl rfl rfl rfl rfl hc.i (by show m.ticks ≤ _; exact hti) (by show m.ticks = _; rw [hts]; rfl) hnt hc.chs hc.dc (by show _ ≤ 2 * m.ticks + 1; omega) (by show _ ≤ 3 * m.ticks + 1; omega), hch2, ?_, hF.kid (by omega), dn, hdk0, by show _ ≤ 3 * m.ticks + 1; omega, ?_, rfl⟩⟩
        · rw [hst]; exact Nat.lt_succ_self _
        · show Lies _ _ _ (r0.kid + 1)
          rw [hkid, Nat.add_assoc]
          exact hk (kk.j + 1) (by omega)
        · rw [hD, hst, pre_put]
      · refine (follow_cat hc.rep hb hr hx (by rw [e1]; exact q) (by omega) (by omega) (by omega)).mono ?_
        rintro e w' ⟨rfl, v, r, f⟩
        have hst := behind_cat (s := X.s) (R := X.R) (dg := X.dg) (i := m.i) (g := G) (ch := ks) (cs := cs) q (by omega)
        have hnew : ChainS X.rn X.s.size N (W ++ [⟨r0.node, r0.kid + 1, m.i, r0.b⟩]) (W.length : Int) (⟨kk.n, 0, kk.T, kk.j + 1, m.i⟩ :: ks) :=
          ⟨W.length, ⟨r0.node, r0.kid + 1, m.i, r0.b⟩, rfl, by simp, hl, hF, by show kk.T.k = 18 ∨ kk.T.k = 20 ∨ kk.T.k = 21; omega, rfl, hc.i, fun _ => ⟨x', hx, by show r0.kid + 1 = _; rw [hkid]; rfl, by show kk.j + 1 + 1 < kk.T.len; omega⟩, by rw [List.take_left]; exact hch2⟩
        refine ⟨0, _, rfl, by omega, ?_, ⟨_, N, O, _, C, G, S, cs, em ++ [hs], _, kk.n, kk.T.kid (kk.j + 1), hc.step [hs] r f rfl rfl rfl rfl rfl hc.i (by show m.ticks ≤ _; exact hti) (by show m.ticks = _; rw [hts]; rfl) hnt (hc.chs.appendW _) hc.dc (by show _ ≤ 2 * m.ticks + 1; rw [List.length_append, List.length_singleton]; omega) (by show _ ≤ 3 * m.ticks + 1; omega), hnew, ?_, hF.kid (by omega), dn, deep_cons dn (fun z => by have : kk.T.k = 20 := z; omega) (Nat.le_refl _) hdk0, by show _ ≤ 3 * m.ticks + 1; rw [List.length_cons]; omega, ?_, rfl⟩⟩
        · rw [hst]; exact Nat.lt_succ_self _
        · show Lies _ _ _ (r0.kid + 1)
          rw [hkid, Nat.add_assoc]
          exact hk (kk.j + 1) (by omega)
        · rw [hD, hst, pre_put]
    · by_cases he : m.i = kk.i
      · refine (follow_same hc.rep hb hr hx (by rw [e1]; exact q) (by omega)).mono ?_
        rintro e w' ⟨rfl, r, f⟩
        have hst := behind_arbno_same (s := X.s) (R := X.R) (dg := X.dg) (g := G) (ch := ks) (cs := cs) q he
        refine ⟨2, _, rfl, by omega, ?_, ⟨_, N, O, W, C, G, S, cs, em ++ [hs], hc.step [hs] r f rfl rfl rfl rfl rfl hc.i (by show m.ticks ≤ _; exact hti) (by show m.ticks = _; rw [hts]; rfl) hnt hc.chs hc.dc (by show _ ≤ 2 * m.ticks + 1; omega) (by show _ ≤ 3 * m.ticks + 1; omega), hwl, by show _ ≤ 3 * m.ticks; omega, ?_, rfl⟩⟩
        · rw [hst]; exact Nat.lt_succ_self _
        · rw [hD, hst, pre_put]
      · obtain ⟨m', hm'⟩ : ∃ m', kk.m = m' + 1 := ⟨kk.m - 1, by have := dm q; omega⟩
        refine (follow_arbno hc.rep hb hr hx (by rw [e1]; exact q) (by omega) (by omega)).mono ?_
        rintro e w' ⟨rfl, v, r, f⟩
        have hst := behind_arbno (s := X.s) (R := X.R) (dg := X.dg) (g := G) (ch := ks) (cs := cs) q he hm'
        have hnew : ChsS X.rn X.s.size N (3 * m.ticks) W G (C ++ [⟨r0.node, -1, m.i, r0.b, W.length, G.length⟩]) (⟨kk.n, m', kk.T, 0, m.i, ks, G⟩ :: cs) :=
          ⟨C, _, rfl, hl, hF, by show kk.T.k = 16 ∨ kk.T.k = 19 ∨ kk.T.k = 20 ∨ kk.T.k = 13 ∨ kk.T.k = 14 ∨ kk.T.k = 7; omega, rfl, hc.i, Nat.le_refl _, Nat.le_refl _, take_all G, fun z => by have : kk.T.k = 19 := z; omega, fun z => by have : kk.T.k = 13 := z; omega, fun z => by have : kk.T.k = 14 ∨ kk.T.k = 7 := z; omega, by show (C ++ [_]).length + G.length + ks.length ≤ _; rw [List.length_append, List.length_singleton]; omega, by show ChainS _ _ _ (W.take W.length) _ _; rw [take_all]; exact hch2, by show ChsS _ _ _ _ (W.take W.length) (G.take G.length) _ _; rw [take_all, take_all]; exact hc.chs⟩
        have hdn : DeepC (X.fuel - m.ticks) (⟨kk.n, m', kk.T, 0, m.i, ks, G⟩ :: cs) := deepC_cons dn (fun _ => by have := dm q; show _ ≤ m'; omega) hdk hc.dc
        refine ⟨1, _, rfl, by omega, ?_, ⟨_, N, O, W, _, G, S, _, em ++ [hs], ks, hc.step [hs] r f rfl rfl rfl rfl rfl hc.i (by show m.ticks ≤ _; exact hti) (by show m.ticks = _; rw [hts]; rfl) hnt hnew hdn (by show _ ≤ 2 * m.ticks + 1; omega) (by show _ ≤ 3 * m.ticks + 1; rw [List.length_append, List.length_singleton]; omega), hch2, hdk, hwl, by show _ ≤ 3 * m.ticks; rw [List.length_append, List.length_singleton]; omega, ?_, rfl⟩⟩
        · rw [hst]; exact Nat.lt_succ_self _
        · rw [hD, hst, pre_put]
    · refine (follow_cond hc.rep hb hr hx (by rw [e1]; exact q) (by omega) (by rw [hc.s]; exact hc.i) (by rw [hc.s]; exact hc.sz) (by omega)).mono ?_
      rintro e w' ⟨rfl, v, r, f⟩
      have hgf : (x.nm, sub m.s r0.i m.i) = (kk.T.nm, sub X.s kk.i m.i) := by rw [e4 (.inl q), hri, hc.s]
      rw [hgf] at r
      have hst := behind_cond (s := X.s) (R := X.R) (dg := X.dg) (i := m.i) (g := G) (ch := ks) (cs := cs) q
      refine ⟨1, _, rfl, by omega, ?_, ⟨_, N, O, W, C, _, S, cs, em ++ [hs], ks, hc.step [hs] r f rfl rfl rfl rfl rfl hc.i (by show m.ticks ≤ _; exact hti) (by show m.ticks = _; rw [hts]; rfl) hnt (hc.chs.appendG _) hc.dc (by show _ ≤ 2 * m.ticks + 1; omega) (by show _ ≤ 3 * m.ticks + 1; rw [List.length_append, List.length_singleton]; omega), hch2, hdk, hwl, by show _ ≤ 3 * m.ticks; rw [List.length_append, List.length_singleton]; omega, ?_, rfl⟩⟩
      · rw [hst]; exact Nat.lt_succ_self _
      · rw [hD, hst, pre_put]

theorem sim_retry (X : Ctx) (k : Nat) (w : World) (h : M2 X k w) : Calls Tryd.prog 28 #[.pointer (some ⟨X.g, 0, none⟩)] w fun e w' => Turns (MM X) (EE X) k e w' := by
  obtain ⟨m, N, O, W, C, G, S, cs, em, hc, hwl, hgl, hD, rfl⟩ := h
  have hti := hc.ti
  have hbig := hc.big
  have hts : tks [hs] = 0 := rfl
  have hnt : NoWay [hs] := noWay_one (by decide)
  cases cs with
  | nil =>
    have hC : C = [] := hc.chs
    subst hC
    refine (retry_none hc.rep).mono ?_
    rintro e w' ⟨rfl, rfl⟩
    refine .inr ⟨rfl, ?_⟩
    unfold EE
    rw [if_neg (by decide)]
    exact ⟨m, N, O, W, [], G, S, em, hc.rep, hc.fr, hc.nw, hc.tk, hc.fu, hc.ti, hc.kp, hc.ns, .inr ⟨hc.er, 0, by rw [hD, back_nothing]; simp [pre, nil], .inl ⟨rfl, hc.sh⟩⟩⟩
  | cons kk ks =>
    obtain ⟨C0, c, hCe, hl, hF, hkk, hci, hile, hws, hgs, hG, h19, h13, h14, hq, hchn, hchs⟩ := hc.chs
    subst hCe
    obtain ⟨x, hx, e1, e2, e3, e4, e5, e6, e7, hk⟩ := hl.node
    have ho := hF.ok
    obtain ⟨dn, dm, dd⟩ := hc.dc kk List.mem_cons_self
    have hdk : DeepC (X.fuel - m.ticks) ks := fun j hj => hc.dc j (List.mem_cons_of_mem _ hj)
    have dd0 : Deep (X.fuel - m.ticks) 0 kk.i kk.ch := dd.less (Nat.le_refl _) (by omega) (Nat.le_refl _)
    rw [List.length_append, List.length_singleton] at hq hgl
    have hC0 : C0.length ≤ 1000000 := by omega
    have hlw : (W.take c.ws).length = c.ws := by rw [List.length_take]; omega
    have hlg : (G.take c.gs).length = c.gs := by rw [List.length_take]; omega
    have hw2 : (W.take c.ws).take c.ws = W.take c.ws := by rw [List.take_take, Nat.min_self]
    have hg2 : (G.take c.gs).take c.gs = G.take c.gs := by rw [List.take_take, Nat.min_self]
    rcases hkk with q | q | q | q | q | q
    · refine (retry_fence hc.rep hx hws hgs hC0 (by rw [e1]; exact q)).mono ?_
      rintro e w' ⟨m1, ⟨wv, gv, rfl⟩, rfl, r, f⟩
      have hst := back_fence (s := X.s) (R := X.R) (dg := X.dg) (cs := ks) q
      refine .inr ⟨rfl, ?_⟩
      unfold EE
      rw [if_neg (by decide)]
      exact ⟨_, N, O, _, _, _, S, em ++ [hs], r, hc.fr.trans f, hc.nw.append hnt, by show m.ticks = _; rw [tks_append, hts, hc.tk]; omega, hc.fu, hc.ti, hc.kp.step [hs] ⟨rfl, rfl, rfl⟩, hc.ns.fr hc.rep f, .inr ⟨hc.er, 1, by rw [hD, hst]; rfl, .inr ⟨rfl, rfl⟩⟩⟩
    · obtain ⟨x', hx', hcx, hxl⟩ := h19 q
      have : x' = x := Option.some.inj (hx'.symm.trans hx)
      subst this
      refine (retry_alt (y := x'.fi + kk.x) hc.rep hx hws hgs hC0 (by rw [e1]; exact q) hcx (by omega)).mono ?_
      rintro e w' ⟨m1, ⟨wv, gv, rfl⟩, rfl, v, r, f⟩
      by_cases he : kk.x + 1 = kk.T.len
      · rw [if_pos (by omega)] at r
        have hst := back_alt_last (s := X.s) (R := X.R) (dg := X.dg) (cs := ks) q he
        rw [← hci, ← hG] at hst
        refine .inl ⟨0, _, rfl, by omega, ?_, ⟨_, N, O, _, _, _, S, ks, em ++ [hs], kk.ch, kk.n, kk.T.kid kk.x, hc.step [hs] r f rfl rfl rfl rfl rfl (by show c.i ≤ _; omega) (by show m.ticks ≤ _; exact hti) (by show m.ticks = _; rw [hts]; rfl) hnt hchs hdk (by show _ ≤ 2 * m.ticks + 1; rw [hlw]; omega) (by show _ ≤ 3 * m.ticks + 1; rw [hlg]; omega), hchn, hk kk.x hxl, hF.kid hxl, dn, by show Deep _ _ c.i _; rw [hci]; exact dd0, by show _ ≤ 3 * m.ticks + 1; rw [hlg]; omega, ?_, rfl⟩⟩
        · rw [hst]; exact Nat.lt_succ_self _
        · rw [hD, hst, pre_put]
      · rw [if_neg (by omega)] at r
        have hst := back_alt (s := X.s) (R := X.R) (dg := X.dg) (cs := ks) q (by omega)
        rw [← hci, ← hG] at hst
        have hnew : ChsS X.rn X.s.size N (3 * m.ticks) (W.take c.ws) (G.take c.gs) (C0 ++ [{ c with x := ((x'.fi + kk.x + 1 : Nat) : Int) }]) ({ kk with x := kk.x + 1, i := c.i, g := G.take c.gs } :: ks) :=
          ⟨C0, _, rfl, hl, hF, by show kk.T.k = 16 ∨ kk.T.k = 19 ∨ kk.T.k = 20 ∨ kk.T.k = 13 ∨ kk.T.k = 14 ∨ kk.T.k = 7; omega, rfl, by show c.i ≤ _; omega, by show c.ws ≤ _; omega, by show c.gs ≤ _; omega, hg2, fun _ => ⟨x', hx, rfl, by show kk.x + 1 < kk.T.len; omega⟩, fun z => by have : kk.T.k = 13 := z; omega, fun z => by have : kk.T.k = 14 ∨ kk.T.k = 7 := z; omega, by show (C0 ++ [_]).length + c.gs + kk.ch.length ≤ _; rw [List.length_append, List.length_singleton]; omega, by show ChainS _ _ _ ((W.take c.ws).take c.ws) _ _; rw [hw2]; exact hchn, by show ChsS _ _ _ _ ((W.take c.ws).take c.ws) ((G.take c.gs).take c.gs) _ _; rw [hw2, hg2]; exact hchs⟩
        have hdn : DeepC (X.fuel - m.ticks) ({ kk with x := kk.x + 1, i := c.i, g := G.take c.gs } :: ks) := deepC_cons dn dm (by show Deep _ _ c.i kk.ch; rw [hci]; exact dd) hdk
        refine .inl ⟨0, _, rfl, by omega, ?_, ⟨_, N, O, _, _, _, S, _, em ++ [hs], kk.ch, kk.n, kk.T.kid kk.x, hc.step [hs] r f rfl rfl rfl rfl rfl (by show c.i ≤ _; omega) (by show m.ticks ≤ _; exact hti) (by show m.ticks = _; rw [hts]; rfl) hnt hnew hdn (by show _ ≤ 2 * m.ticks + 1; rw [hlw]; omega) (by show _ ≤ 3 * m.ticks + 1; rw [hlg, List.length_append, List.length_singleton]; omega), hchn, hk kk.x hxl, hF.kid hxl, dn, by show Deep _ _ c.i _; rw [hci]; exact dd0, by show _ ≤ 3 * m.ticks + 1; rw [hlg, List.length_append, List.length_singleton]; omega, ?_, rfl⟩⟩
        · rw [hst]; exact Nat.lt_succ_self _
        · rw [hD, hst, pre_put]
    · have hl1 := ho.2.2.2.2 (by omega)
      refine (retry_arbno hc.rep hx hws hgs hC0 (by rw [e1]; exact q) (by omega) (by omega)).mono ?_
      rintro e w' ⟨m1, ⟨wv, gv, rfl⟩, rfl, v, u, r, f⟩
      have hst := back_arbno (s := X.s) (R := X.R) (dg := X.dg) (cs := ks) q
      rw [← hci, ← hG] at hst
      have hnew : ChainS X.rn X.s.size N (W.take c.ws ++ [⟨c.node, x.fi, c.i, c.b⟩]) (c.ws : Int) (⟨kk.n, kk.m, kk.T, 0, c.i⟩ :: kk.ch) :=
        ⟨c.ws, ⟨c.node, x.fi, c.i, c.b⟩, rfl, by rw [List.getElem?_append_right (by omega), hlw]; simp, hl, hF, by show kk.T.k = 18 ∨ kk.T.k = 20 ∨ kk.T.k = 21; omega, rfl, by show c.i ≤ _; omega, fun z => by have : kk.T.k = 18 := z; omega, by rw [List.take_append_of_le_length (by omega), hw2]; exact hchn⟩
      refine .inl ⟨0, _, rfl, by omega, ?_, ⟨_, N, O, _, _, _, S, ks, em ++ [hs], _, kk.n, kk.T.kid 0, hc.step [hs] r f rfl rfl rfl rfl rfl (by show c.i ≤ _; omega) (by show m.ticks ≤ _; exact hti) (by show m.ticks = _; rw [hts]; rfl) hnt (hchs.appendW _) hdk (by show _ ≤ 2 * m.ticks + 1; rw [List.length_append, hlw, List.length_singleton]; omega) (by show _ ≤ 3 * m.ticks + 1; rw [hlg]; omega), hnew, hk 0 (by omega), hF.kid (by omega), dn, deep_cons dn (fun _ => by have := dm q; show _ ≤ kk.m; omega) (Nat.le_refl _) (by show Deep _ _ c.i _; rw [hci]; exact dd0), by show _ ≤ 3 * m.ticks + 1; rw [hlg, List.length_cons]; omega, ?_, rfl⟩⟩
      · rw [hst]; exact Nat.lt_succ_self _
      · rw [hD, hst, pre_put]
    · obtain ⟨hcx, hxl, hix⟩ := h13 q
      refine (retry_arb (y := kk.x) hc.rep hx hws hgs hC0 (by rw [e1]; exact q) hcx (by rw [hc.s]; exact hc.sz) (by rw [hc.s]; exact hxl)).mono ?_
      rintro e w' ⟨m1, ⟨wv, gv, rfl⟩, (⟨rfl, to, nx, hf, hle, r, f⟩ | ⟨rfl, hf, v, r, f⟩)⟩
      · rw [hc.s] at hf hle
        by_cases he : kk.x ≤ X.s.size
        · rw [if_pos he] at hf
          injection hf with hf
          injection hf with hf1 hf2
          subst hf1 hf2
          have hst := back_arb (s := X.s) (R := X.R) (dg := X.dg) (cs := ks) q he
          rw [← hG] at hst
          have hnew : ChsS X.rn X.s.size N (3 * m.ticks) (W.take c.ws) (G.take c.gs) (C0 ++ [{ c with x := (((kk.x + 1) : Nat) : Int) }]) ({ kk with x := (kk.x + 1), g := G.take c.gs } :: ks) :=
            ⟨C0, _, rfl, hl, hF, by show kk.T.k = 16 ∨ kk.T.k = 19 ∨ kk.T.k = 20 ∨ kk.T.k = 13 ∨ kk.T.k = 14 ∨ kk.T.k = 7; omega, hci, hile, by show c.ws ≤ _; omega, by show c.gs ≤ _; omega, hg2, fun z => by have : kk.T.k = 19 := z; omega, fun _ => ⟨rfl, by show (kk.x + 1) ≤ _; omega, by show kk.i ≤ (kk.x + 1); omega⟩, fun z => by have : kk.T.k = 14 ∨ kk.T.k = 7 := z; omega, by show (C0 ++ [_]).length + c.gs + kk.ch.length ≤ _; rw [List.length_append, List.length_singleton]; omega, by show ChainS _ _ _ ((W.take c.ws).take c.ws) _ _; rw [hw2]; exact hchn, by show ChsS _ _ _ _ ((W.take c.ws).take c.ws) ((G.take c.gs).take c.gs) _ _; rw [hw2, hg2]; exact hchs⟩
          have hdn : DeepC (X.fuel - m.ticks) ({ kk with x := (kk.x + 1), g := G.take c.gs } :: ks) := deepC_cons dn dm dd hdk
          refine .inl ⟨1, _, rfl, by omega, ?_, ⟨_, N, O, _, _, _, S, _, em ++ [hs], kk.ch, hc.step [hs] r f rfl rfl rfl rfl rfl (by show kk.x ≤ _; omega) (by show m.ticks ≤ _; exact hti) (by show m.ticks = _; rw [hts]; rfl) hnt hnew hdn (by show _ ≤ 2 * m.ticks + 1; rw [hlw]; omega) (by show _ ≤ 3 * m.ticks + 1; rw [hlg, List.length_append, List.length_singleton]; omega), hchn, dd.less (Nat.le_refl _) (Nat.le_refl _) (by show kk.i ≤ kk.x; omega), by show _ ≤ 2 * m.ticks; rw [hlw]; omega, by show _ ≤ 3 * m.ticks; rw [hlg, List.length_append, List.length_singleton]; omega, ?_, rfl⟩⟩
          · rw [hst]; exact Nat.lt_succ_self _
          · rw [hD, hst, pre_put]
        · rw [if_neg he] at hf; cases hf
      · rw [hc.s] at hf
        have he : X.s.size < kk.x := by
          by_cases he : kk.x ≤ X.s.size
          · rw [if_pos he] at hf; cases hf
          · omega
        have hst := back_arb_no (s := X.s) (R := X.R) (dg := X.dg) (cs := ks) q he
        refine .inl ⟨2, _, rfl, by omega, ?_, ⟨_, N, O, _, _, _, S, ks, em ++ [hs], hc.step [hs] r f rfl rfl rfl rfl rfl (by show c.i ≤ _; omega) (by show m.ticks ≤ _; exact hti) (by show m.ticks = _; rw [hts]; rfl) hnt hchs hdk (by show _ ≤ 2 * m.ticks + 1; rw [hlw]; omega) (by show _ ≤ 3 * m.ticks + 1; rw [hlg]; omega), by show _ ≤ 2 * m.ticks; rw [hlw]; omega, by show _ ≤ 3 * m.ticks; rw [hlg]; omega, ?_, rfl⟩⟩
        · rw [hst]; exact Nat.lt_succ_self _
        · rw [hD, hst, pre_put]
    · obtain ⟨hcx, hxl, hix⟩ := h14 (.inl q)
      refine (retry_bal (y := kk.x) hc.rep hx hws hgs hC0 (by rw [e1]; exact q) hcx (by rw [hc.s]; exact hc.sz) (by rw [hc.s]; exact hxl)).mono ?_
      rintro e w' ⟨m1, ⟨wv, gv, rfl⟩, (⟨rfl, to, nx, hf, hle, r, f⟩ | ⟨rfl, hf, v, r, f⟩)⟩
      · rw [hc.s] at hf hle
        cases hp : prs X.s kk.x with
        | none => rw [hp] at hf; cases hf
        | some t =>
          rw [hp] at hf
          injection hf with hf
          injection hf with hf1 hf2
          subst hf1 hf2
          have hgt := prs_gt hp
          have hst := back_bal (s := X.s) (R := X.R) (dg := X.dg) (cs := ks) q hp
          rw [← hG] at hst
          have hnew : ChsS X.rn X.s.size N (3 * m.ticks) (W.take c.ws) (G.take c.gs) (C0 ++ [{ c with x := ((t : Nat) : Int) }]) ({ kk with x := t, g := G.take c.gs } :: ks) :=
            ⟨C0, _, rfl, hl, hF, by show kk.T.k = 16 ∨ kk.T.k = 19 ∨ kk.T.k = 20 ∨ kk.T.k = 13 ∨ kk.T.k = 14 ∨ kk.T.k = 7; omega, hci, hile, by show c.ws ≤ _; omega, by show c.gs ≤ _; omega, hg2, fun z => by have : kk.T.k = 19 := z; omega, fun z => by have : kk.T.k = 13 := z; omega, fun _ => ⟨rfl, by show t ≤ _; omega, by show kk.i ≤ t; omega⟩, by show (C0 ++ [_]).length + c.gs + kk.ch.length ≤ _; rw [List.length_append, List.length_singleton]; omega, by show ChainS _ _ _ ((W.take c.ws).take c.ws) _ _; rw [hw2]; exact hchn, by show ChsS _ _ _ _ ((W.take c.ws).take c.ws) ((G.take c.gs).take c.gs) _ _; rw [hw2, hg2]; exact hchs⟩
          have hdn : DeepC (X.fuel - m.ticks) ({ kk with x := t, g := G.take c.gs } :: ks) := deepC_cons dn dm dd hdk
          refine .inl ⟨1, _, rfl, by omega, ?_, ⟨_, N, O, _, _, _, S, _, em ++ [hs], kk.ch, hc.step [hs] r f rfl rfl rfl rfl rfl (by show t ≤ _; omega) (by show m.ticks ≤ _; exact hti) (by show m.ticks = _; rw [hts]; rfl) hnt hnew hdn (by show _ ≤ 2 * m.ticks + 1; rw [hlw]; omega) (by show _ ≤ 3 * m.ticks + 1; rw [hlg, List.length_append, List.length_singleton]; omega), hchn, dd.less (Nat.le_refl _) (Nat.le_refl _) (by show kk.i ≤ t; omega), by show _ ≤ 2 * m.ticks; rw [hlw]; omega, by show _ ≤ 3 * m.ticks; rw [hlg, List.length_append, List.length_singleton]; omega, ?_, rfl⟩⟩
          · rw [hst]; exact Nat.lt_succ_self _
          · rw [hD, hst, pre_put]
      · rw [hc.s] at hf
        have he : prs X.s kk.x = none := by
          cases hp : prs X.s kk.x with
          | none => rfl
          | some t => rw [hp] at hf; cases hf
        have hst := back_bal_no (s := X.s) (R := X.R) (dg := X.dg) (cs := ks) q he
        refine .inl ⟨2, _, rfl, by omega, ?_, ⟨_, N, O, _, _, _, S, ks, em ++ [hs], hc.step [hs] r f rfl rfl rfl rfl rfl (by show c.i ≤ _; omega) (by show m.ticks ≤ _; exact hti) (by show m.ticks = _; rw [hts]; rfl) hnt hchs hdk (by show _ ≤ 2 * m.ticks + 1; rw [hlw]; omega) (by show _ ≤ 3 * m.ticks + 1; rw [hlg]; omega), by show _ ≤ 2 * m.ticks; rw [hlw]; omega, by show _ ≤ 3 * m.ticks; rw [hlg]; omega, ?_, rfl⟩⟩
        · rw [hst]; exact Nat.lt_succ_self _
        · rw [hD, hst, pre_put]
    · obtain ⟨hcx, hxl, hix⟩ := h14 (.inr q)
      have hns : NS w m.s N := by rw [hc.s]; exact hc.ns
      refine (retry_breakx (y := kk.x) hc.rep hx hws hgs hC0 (by rw [e1]; exact q) hns (by rw [e2]; exact ho.2.1 (by omega)) hcx (by rw [hc.s]; exact hc.sz) (by rw [hc.s]; exact hxl)).mono ?_
      rintro e w' ⟨m1, ⟨wv, gv, rfl⟩, N', sm, ns', (⟨rfl, to, nx, hf, hle, r, f⟩ | ⟨rfl, hf, v, r, f⟩)⟩
      · rw [hc.s] at ns'
        rw [hc.s, e2] at hf
        rw [hc.s] at hle
        unfold nearX at hf
        have hge := unt_ge X.s kk.T.t true _ kk.x (Nat.le_refl _)
        by_cases he : unt X.s kk.T.t true kk.x < X.s.size
        · rw [if_pos he] at hf
          injection hf with hf
          injection hf with hf1 hf2
          subst hf1 hf2
          have hst := back_breakx (s := X.s) (R := X.R) (dg := X.dg) (cs := ks) q hge he
          rw [← hG] at hst
          have hnew : ChsS X.rn X.s.size N' (3 * m.ticks) (W.take c.ws) (G.take c.gs) (C0 ++ [{ c with x := ((unt X.s kk.T.t true kk.x + 1 : Nat) : Int) }]) ({ kk with x := unt X.s kk.T.t true kk.x + 1, g := G.take c.gs } :: ks) :=
            ⟨C0, _, rfl, Lies.mono sm hl, hF, by show kk.T.k = 16 ∨ kk.T.k = 19 ∨ kk.T.k = 20 ∨ kk.T.k = 13 ∨ kk.T.k = 14 ∨ kk.T.k = 7; omega, hci, hile, by show c.ws ≤ _; omega, by show c.gs ≤ _; omega, hg2, fun z => by have : kk.T.k = 19 := z; omega, fun z => by have : kk.T.k = 13 := z; omega, fun _ => ⟨rfl, by show unt X.s kk.T.t true kk.x + 1 ≤ _; omega, by show kk.i ≤ unt X.s kk.T.t true kk.x + 1; omega⟩, by show (C0 ++ [_]).length + c.gs + kk.ch.length ≤ _; rw [List.length_append, List.length_singleton]; omega, by show ChainS _ _ _ ((W.take c.ws).take c.ws) _ _; rw [hw2]; exact hchn.mono sm, by show ChsS _ _ _ _ ((W.take c.ws).take c.ws) ((G.take c.gs).take c.gs) _ _; rw [hw2, hg2]; exact hchs.mono sm⟩
          have hdn : DeepC (X.fuel - m.ticks) ({ kk with x := unt X.s kk.T.t true kk.x + 1, g := G.take c.gs } :: ks) := deepC_cons dn dm dd hdk
          refine .inl ⟨1, _, rfl, by omega, ?_, ⟨_, N', O, _, _, _, S, _, em ++ [hs], kk.ch, hc.stepN sm ns' [hs] r f rfl rfl rfl rfl rfl (by show unt X.s kk.T.t true kk.x ≤ _; omega) (by show m.ticks ≤ _; exact hti) (by show m.ticks = _; rw [hts]; rfl) hnt hnew hdn (by show _ ≤ 2 * m.ticks + 1; rw [hlw]; omega) (by show _ ≤ 3 * m.ticks + 1; rw [hlg, List.length_append, List.length_singleton]; omega), hchn.mono sm, dd.less (Nat.le_refl _) (Nat.le_refl _) (by show kk.i ≤ unt X.s kk.T.t true kk.x; omega), by show _ ≤ 2 * m.ticks; rw [hlw]; omega, by show _ ≤ 3 * m.ticks; rw [hlg, List.length_append, List.length_singleton]; omega, ?_, rfl⟩⟩
          · rw [hst]; exact Nat.lt_succ_self _
          · rw [hD, hst, pre_put]
        · rw [if_neg he] at hf; cases hf
      · rw [hc.s] at ns'
        rw [hc.s, e2] at hf
        unfold nearX at hf
        have he : X.s.size ≤ unt X.s kk.T.t true kk.x := by
          by_cases he : unt X.s kk.T.t true kk.x < X.s.size
          · rw [if_pos he] at hf; cases hf
          · omega
        have hst := back_breakx_no (s := X.s) (R := X.R) (dg := X.dg) (cs := ks) q he
        refine .inl ⟨2, _, rfl, by omega, ?_, ⟨_, N', O, _, _, _, S, ks, em ++ [hs], hc.stepN sm ns' [hs] r f rfl rfl rfl rfl rfl (by show c.i ≤ _; omega) (by show m.ticks ≤ _; exact hti) (by show m.ticks = _; rw [hts]; rfl) hnt (hchs.mono sm) hdk (by show _ ≤ 2 * m.ticks + 1; rw [hlw]; omega) (by show _ ≤ 3 * m.ticks + 1; rw [hlg]; omega), by show _ ≤ 2 * m.ticks; rw [hlw]; omega, by show _ ≤ 3 * m.ticks; rw [hlg]; omega, ?_, rfl⟩⟩
        · rw [hst]; exact Nat.lt_succ_self _
        · rw [hD, hst, pre_put]
end Go.Proofs.YtkphpcgmfkhpnaaDoor

namespace Go.Proofs.YtkphpcgmfkhpnaaDoor
open Go.RowKit

/-- Ahead of the first coming. -/
def Start (X : Ctx) (w : World) : Prop := ∃ m N O S n T, Rep w X.B X.g m N O [] [] [] S ∧ m.begun = false ∧ m.s = X.s ∧ m.fuel = X.fuel ∧ X.fuel ≤ 100000 ∧ m.ticks ≤ X.fuel ∧ m.ticks = X.t0 ∧ m.i ≤ X.s.size ∧ X.s.size ≤ 65536 ∧ m.shut = false ∧ m.err = 0 ∧ m.b = -1 ∧ Fr X.g X.m0 m X.w0 w ∧ Lies X.rn N T m.node ∧ FineS T ∧ X.fuel + 1 ≤ n ∧ X.D0 = dCome X.s X.R X.dg n T m.i [] [] [] ∧ Kept X m N [] ∧ NS w X.s N
/-- Behind a way. -/
def Again (X : Ctx) (w : World) : Prop := ∃ m N O W C G S cs, Cor X w m N O W C G S cs [] ∧ W.length ≤ 2 * m.ticks ∧ C.length + G.length ≤ 3 * m.ticks ∧ X.D0 = dBack X.s X.R X.dg cs

theorem next_first (X : Ctx) (w : World) (h : Start X w) : Calls Tryd.prog 19 #[.pointer (some ⟨X.g, 0, none⟩)] w fun e w' => ∃ ok, e = .returned (.bool ok) ∧ EE X ok w' := by
  obtain ⟨m, N, O, S, n, T, r, hb, h1, h2, h3, h4, h5, h6, h7, h8, h9, h10, f, hl, hF, hn, hD, hkp, hns⟩ := h
  refine next_any (MM X) (EE X) (fun k w h => sim_come X k w h) (fun k w h => sim_follow X k w h) (fun k w h => sim_retry X k w h) (begun := m.begun) r.c5 (r.frozen 5) (fun q => by rw [hb] at q; cases q) (fun _ => ?_)
  refine ⟨_, ⟨{ m with begun := true }, N, O, [], [], [], S, [], [], [], n, T, ⟨r.put 5 (.bool true) { m with begun := true } rfl rfl rfl rfl rfl rfl rfl, h1, h2, h3, h4, h6, h7, h8, h9, rfl, f.trans (Fr.cell (m := m) (m' := { m with begun := true }) 5 _ rfl rfl rfl rfl rfl rfl), rfl, (fun _ h => by cases h), noWay_nil, (by show m.ticks = _; rw [h5]; rfl), (by simp), (by simp), hkp.to ⟨rfl, rfl, rfl⟩, hns.fr r (Fr.cell (m := m) (m' := { m with begun := true }) 5 _ rfl rfl rfl rfl rfl rfl)⟩, h10, hl, hF, (by show X.fuel - m.ticks + 1 ≤ n; omega), (fun _ h => by cases h), (by simp), by rw [hD]; simp [pre], rfl⟩⟩
theorem next_again (X : Ctx) (w : World) (h : Again X w) : Calls Tryd.prog 19 #[.pointer (some ⟨X.g, 0, none⟩)] w fun e w' => ∃ ok, e = .returned (.bool ok) ∧ EE X ok w' := by
  obtain ⟨m, N, O, W, C, G, S, cs, hc, hwl, hgl, hD⟩ := h
  refine next_any (MM X) (EE X) (fun k w h => sim_come X k w h) (fun k w h => sim_follow X k w h) (fun k w h => sim_retry X k w h) (begun := m.begun) hc.rep.c5 (hc.rep.frozen 5) (fun _ => ⟨_, ⟨m, N, O, W, C, G, S, cs, [], hc, hwl, hgl, by rw [hD]; simp [pre], rfl⟩⟩) (fun q => by rw [hc.be] at q; cases q)
end Go.Proofs.YtkphpcgmfkhpnaaDoor
