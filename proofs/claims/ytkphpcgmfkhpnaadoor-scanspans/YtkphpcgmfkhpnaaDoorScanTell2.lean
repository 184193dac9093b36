/- What is told of the ways of a pattern: so many at most, as far as the fuel goes. How the ways are gathered, one behind the other. What is found first: at the first place at which there is a way, the first one there. -/
import Derived.Test.YtkphpcgmfkhpnaaDoorScanPlain2
import Derived.Test.YtkphpcgmfkhpnaaDoorScanNext3
namespace Go.Proofs.YtkphpcgmfkhpnaaDoor

/-- Ways, and how it ends: 0 no more, or enough; 1 nobody may look further; 2 a name without a rule; 10 no fuel. -/
def tld : List Ev → Nat → Nat → Nat → List (Nat × List Gft) × Nat
  | [], en, k, _ => ([], if k = 0 then 0 else en)
  | x :: l, en, k, f => if k = 0 then ([], 0) else if x.w = 3 then ((x.a, x.g) :: (tld l en (k - 1) f).1, (tld l en (k - 1) f).2) else if x.w = 0 then (if f = 0 then ([], 10) else tld l en k (f - 1)) else tld l en k f
theorem tld_zero (l : List Ev) (en f : Nat) : tld l en 0 f = ([], 0) := by
  cases l with
  | nil => rfl
  | cons x l => rw [tld, if_pos rfl]
theorem tld_nil {k : Nat} (en f : Nat) (hk : k ≠ 0) : tld [] en k f = ([], en) := by rw [tld, if_neg hk]
theorem tld_way {k : Nat} (i : Nat) (G : List Gft) (l : List Ev) (en f : Nat) (hk : k ≠ 0) : tld (wy i G :: l) en k f = ((i, G) :: (tld l en (k - 1) f).1, (tld l en (k - 1) f).2) := by
  rw [tld, if_neg hk, if_pos (show (wy i G).w = 3 from rfl)]; rfl
theorem tld_dry {k : Nat} (l : List Ev) (en : Nat) (hk : k ≠ 0) : tld (tk :: l) en k 0 = ([], 10) := by
  rw [tld, if_neg hk, if_neg (show ¬ tk.w = 3 by decide), if_pos (show tk.w = 0 from rfl), if_pos rfl]
theorem tld_pre {k : Nat} (l : List Ev) (en : Nat) (hk : k ≠ 0) : ∀ (em : List Ev) (f : Nat), (∀ x ∈ em, x.w ≠ 3) → tks em ≤ f → tld (em ++ l) en k f = tld l en k (f - tks em)
  | [], f, _, _ => rfl
  | x :: em, f, hn, hf => by
    have hx : ¬ x.w = 3 := hn x (List.mem_cons_self ..)
    have hn' : ∀ x ∈ em, x.w ≠ 3 := fun y hy => hn y (List.mem_cons_of_mem _ hy)
    rw [tks_cons] at hf
    rw [List.cons_append, tld, if_neg hk, if_neg hx, tks_cons]
    split
    · rename_i h0
      rw [if_pos h0] at hf
      rw [if_neg (by omega), tld_pre l en hk em (f - 1) hn' (by omega), show f - 1 - tks em = f - (1 + tks em) by omega]
    · rename_i h0
      rw [if_neg h0] at hf
      rw [tld_pre l en hk em f hn' (by omega), Nat.zero_add]
/-- The ways, as pairs. -/
def prsW (l : List Ev) : List (Nat × List Gft) := (wys l).map fun x => (x.a, x.g)
theorem prsW_cons (x : Ev) (l : List Ev) : prsW (x :: l) = if x.w = 3 then (x.a, x.g) :: prsW l else prsW l := by
  unfold prsW wys
  rw [List.filter_cons]
  by_cases h : x.w = 3
  · rw [if_pos h, if_pos (by simpa using h), List.map_cons]
  · rw [if_neg h, if_neg (by simpa using h)]
theorem prsW_append (a b : List Ev) : prsW (a ++ b) = prsW a ++ prsW b := by unfold prsW; rw [wys_append, List.map_append]
theorem tld_all : ∀ (l : List Ev) (en k f : Nat), tks l ≤ f → (prsW l).length < k → tld l en k f = (prsW l, en)
  | [], en, k, f, _, hk => by rw [tld_nil en f (by omega)]; rfl
  | x :: l, en, k, f, hf, hk => by
    rw [tks_cons] at hf
    rw [prsW_cons] at hk ⊢
    rw [tld, if_neg (by omega)]
    by_cases h : x.w = 3
    · rw [if_pos h] at hk ⊢
      rw [List.length_cons] at hk
      rw [if_pos h, tld_all l en (k - 1) f (by omega) (by omega)]
    · rw [if_neg h] at hk ⊢
      rw [if_neg h]
      split
      · rename_i h0
        rw [if_pos h0] at hf
        rw [if_neg (by omega), tld_all l en k (f - 1) (by omega) hk]
      · rw [tld_all l en k f (by omega) hk]
theorem dCome_top (s : ByteArray) (R : ByteArray → Option PT) (dg : Nat → ByteArray) (n : Nat) (T : PT) (i : Nat) : dCome s R dg n T i [] [] [] = D s R dg n T i [] := by
  unfold dCome
  rw [show Fa s R dg [] = nil from rfl, nil_thn]
  exact bd_unit _
end Go.Proofs.YtkphpcgmfkhpnaaDoor

namespace Go.Proofs.YtkphpcgmfkhpnaaDoor
open Go.RowKit

/-- A way as it lies in memory. -/
structure Wv where
  to : Nat
  ga : Option Addr
  gc : Nat
  G : List Gft
def Wv.gv (x : Wv) : Value := .slice x.ga x.G.length x.gc
def Wv.pr (x : Wv) : Nat × List Gft := (x.to, x.G)
def wyV (x : Wv) : List Value := [.int .i64 (x.to : Int), .slice x.ga x.G.length x.gc]
theorem wyV_len (x : Wv) : (wyV x).length = 2 := rfl
theorem wyV_one (x : Wv) : ∀ u ∈ wyV x, u.oneCell' = true := by
  intro u hu
  simp only [wyV, List.mem_cons, List.not_mem_nil, or_false] at hu
  rcases hu with rfl | rfl <;> rfl
theorem info_way : (Tryd.prog.info? 37).map (fun i => (i.zero, i.size, i.bytes)) = some (some (.agg #[.int .i64 0, .slice none 0 0]), 2, 32) := by kernel_rfl
theorem size_way : (Tryd.prog.info? 37).map (·.size) = some 2 := by kernel_rfl
/-- Ways in memory. -/
structure WaysAt (w : World) (B : Nat) (v : Value) (L : List Wv) : Prop where
  row : Row w B 37 2 wyV v L
  gifts : ∀ x ∈ L, Row w B 61 2 gfV x.gv x.G
theorem WaysAt.later {w w' : World} {B : Nat} {v : Value} {L : List Wv} (h : WaysAt w B v L) (hb : Below w.heap.size w w') : WaysAt w' B v L := ⟨h.row.later hb, fun x hx => (h.gifts x hx).later hb⟩

theorem Row.lower {α : Type} {w : World} {B B' : Nat} {e : TypeId} {sz : Nat} {f : α → List Value} {v : Value} {l : List α} (h : Row w B e sz f v l) (hB : B' ≤ B) : Row w B' e sz f v l := by
  refine ⟨h.1, ?_⟩
  rcases h.2 with q | ⟨g, cap, cur, q1, q2, q3⟩
  · exact .inl q
  · exact .inr ⟨g, cap, cur, q1, Nat.le_trans hB q2, q3⟩
theorem WaysAt.mono {w : World} {B B' : Nat} {v : Value} {L : List Wv} (h : WaysAt w B v L) (hB : B' ≤ B) : WaysAt w B' v L := ⟨h.row.lower hB, fun x hx => (h.gifts x hx).lower hB⟩

/-- What stands while ways are gathered. -/
structure WC where
  s : ByteArray
  R : ByteArray → Option PT
  dg : Nat → ByteArray
  rn : ByteArray → Int
  fuel : Nat
  most : Nat
  B : Nat
  B1 : Nat
  g : Nat
  w0 : World
  D : Sq
def WC.ctx (Y : WC) (t0 : Nat) (D0 : Sq) (m0 : MS) (w : World) (N0 : List Nd) : Ctx := ⟨Y.B1, Y.g, Y.s, Y.rn, Y.R, Y.dg, Y.fuel, t0, D0, m0, w, N0⟩
structure Held (Y : WC) (m : MS) (w : World) (v : Value) (L : List Wv) : Prop where
  ways : WaysAt w Y.B v L
  apart : ∀ x ∈ L, ∀ k, x.gv.ownBlock = some k → ¬ m.owns Y.g k
  below : Below Y.B Y.w0 w
/-- No block of another type is the machine's. -/
theorem not_owned {w : World} {B B' g : Nat} {m : MS} {N : List Nd} {O : List Int} {W : List Wr} {C : List Cr} {G S : List Gft} (h : Rep w B g m N O W C G S) {v : Value} {L : List Wv} (hr : Row w B' 37 2 wyV v L) {k : Nat} (hk : v.ownBlock = some k) : ¬ m.owns g k := by
  obtain ⟨cur, hc⟩ := hr.type hk
  intro x
  rcases x with x | x | x | x | x | x | x
  · have hb := h.blk
    rw [← x, hc] at hb
    injection hb with hb
    injection hb with _ hb
    exact absurd hb (by decide)
  · exact h.nodes.neBlk hc (by decide) x.symm
  · exact h.roots.neBlk hc (by decide) x.symm
  · exact h.works.neBlk hc (by decide) x.symm
  · exact h.choices.neBlk hc (by decide) x.symm
  · exact h.given.neBlk hc (by decide) x.symm
  · exact h.said.neBlk hc (by decide) x.symm
theorem Held.fr {Y : WC} {w w' : World} {m m' : MS} {v : Value} {L : List Wv} {N : List Nd} {O : List Int} {W : List Wr} {C : List Cr} {G S : List Gft} (h : Held Y m w v L) (hB : Y.B ≤ Y.B1) (hB0 : Y.B ≤ Y.w0.heap.size) (r : Rep w Y.B1 Y.g m N O W C G S) (f : Fr Y.g m m' w w') : Held Y m' w' v L :=
  ⟨⟨h.ways.row.same fun k hk => f.block k (h.ways.row.low hk).2 (not_owned r h.ways.row hk), fun x hx => (h.ways.gifts x hx).same fun k hk => f.block k ((h.ways.gifts x hx).low hk).2 (h.apart x hx k hk)⟩,
    fun x hx k hk q => by
      rcases f.own k q with y | y
      · exact h.apart x hx k hk y
      · have := ((h.ways.gifts x hx).low hk).2; omega,
    bel_trans h.below ((Fr.below r f).mono hB) hB0⟩

def WInv (Y : WC) (L : List Wv) (v : Value) (w : World) : Prop := ∃ t0 D0 m0 N0, (Start (Y.ctx t0 D0 m0 w N0) w ∨ Again (Y.ctx t0 D0 m0 w N0) w) ∧ Held Y m0 w v L ∧ L.length ≤ Y.most ∧ (∃ N O W C G S, Rep w Y.B1 Y.g m0 N O W C G S) ∧
  tld Y.D.1 Y.D.2 Y.most Y.fuel = (L.map Wv.pr ++ (tld D0.1 D0.2 (Y.most - L.length) (Y.fuel - t0)).1, (tld D0.1 D0.2 (Y.most - L.length) (Y.fuel - t0)).2)
def WGot (Y : WC) (L : List Wv) (v : Value) (w : World) : Prop := ∃ m N O W C G S, Rep w Y.B1 Y.g m N O W C G S ∧ Held Y m w v L ∧ L.length < Y.most ∧ G.length ≤ 1000000 ∧ NS w Y.s N ∧
  ∀ (y : Wv) (w3 : World) (v3 : Value), y.pr = (m.i, G) → Rep w3 Y.B1 Y.g m N O W C G S → NS w3 Y.s N → Held Y m w3 v3 (L ++ [y]) → WInv Y (L ++ [y]) v3 w3
def WEnd (Y : WC) (L : List Wv) (v : Value) (w : World) : Prop := ∃ m N O W C G S, Rep w Y.B1 Y.g m N O W C G S ∧ Held Y m w v L ∧
  ((m.err = 10 ∧ (tld Y.D.1 Y.D.2 Y.most Y.fuel).2 = 10) ∨ (m.err = 0 ∧ tld Y.D.1 Y.D.2 Y.most Y.fuel = (L.map Wv.pr, if m.shut = true then 1 else 0)))

theorem winv_full {Y : WC} {L : List Wv} {v : Value} {w : World} (hB : Y.B ≤ Y.B1) (hB0 : Y.B ≤ Y.w0.heap.size) (h : WInv Y L v w) (hl : ¬ L.length < Y.most) : WEnd Y L v w := by
  obtain ⟨t0, D0, m0, N0, hs, hh, hle, ⟨N, O, W, C, G, S, hr⟩, ht⟩ := h
  rw [show Y.most - L.length = 0 by omega, tld_zero] at ht
  rcases hs with ⟨m, N, O, S, n, T, r, hb, h1, h2, h3, h4, h5, h6, h7, h8, h9, h10, f, -⟩ | ⟨m, N, O, W, C, G, S, cs, hc, -⟩
  · exact ⟨m, N, O, [], [], [], S, r, hh.fr hB hB0 hr f, .inr ⟨h9, by rw [ht, h8]; simp⟩⟩
  · exact ⟨m, N, O, W, C, G, S, hc.rep, hh.fr hB hB0 hr hc.fr, .inr ⟨hc.er, by rw [ht, hc.sh]; simp⟩⟩

theorem next_ways {Y : WC} {L : List Wv} {v : Value} {w : World} (hB : Y.B ≤ Y.B1) (hB0 : Y.B ≤ Y.w0.heap.size) (h : WInv Y L v w) (hl : L.length < Y.most) :
    Calls Tryd.prog 19 #[.pointer (some ⟨Y.g, 0, none⟩)] w fun e w' => ∃ ok, e = .returned (.bool ok) ∧ (ok = true → WGot Y L v w') ∧ (ok = false → WEnd Y L v w') := by
  obtain ⟨t0, D0, m0, N0, hs, hh, hle, ⟨N1, O1, W1, C1, G1, S1, hr⟩, ht⟩ := h
  have hc : Calls Tryd.prog 19 #[.pointer (some ⟨Y.g, 0, none⟩)] w fun e w' => ∃ ok, e = .returned (.bool ok) ∧ EE (Y.ctx t0 D0 m0 w N0) ok w' := by
    rcases hs with hs | hs
    · exact next_first _ _ hs
    · exact next_again _ _ hs
  refine hc.mono ?_
  rintro e w' ⟨ok, rfl, he⟩
  refine ⟨ok, rfl, fun q => ?_, fun q => ?_⟩
  · subst q
    obtain ⟨m, N, O, W, C, G, S, cs, em, hc, hwl, hgl, hD⟩ := (show ∃ m N O W C G S cs em, Cor (Y.ctx t0 D0 m0 w N0) w' m N O W C G S cs em ∧ W.length ≤ 2 * m.ticks ∧ C.length + G.length ≤ 3 * m.ticks ∧ D0 = pre em (put (wy m.i G) (dBack Y.s Y.R Y.dg cs)) from he)
    have hti : m.ticks ≤ Y.fuel := hc.ti
    have htk : m.ticks = t0 + tks em := hc.tk
    have hbig : Y.fuel ≤ 100000 := hc.big
    have hf : Fr Y.g m0 m w w' := hc.fr
    refine ⟨m, N, O, W, C, G, S, hc.rep, hh.fr hB hB0 hr hf, hl, by omega, hc.ns, fun y w3 v3 hy r3 n3 h3 => ?_⟩
    refine ⟨m.ticks, dBack Y.s Y.R Y.dg cs, m, N, .inr ⟨m, N, O, W, C, G, S, cs, ⟨r3, hc.s, hc.fu, hc.big, hc.ti, hc.i, hc.sz, hc.sh, hc.er, hc.be, Fr.refl _ _ _, hc.chs, hc.dc, noWay_nil, rfl, hc.wl, hc.gl, ⟨rfl, rfl, rfl, Same.refl _⟩, n3⟩, hwl, hgl, rfl⟩, h3, by simp; omega, ⟨N, O, W, C, G, S, r3⟩, ?_⟩
    have hk : Y.most - L.length ≠ 0 := by omega
    have h1 : tld D0.1 D0.2 (Y.most - L.length) (Y.fuel - t0) = ((m.i, G) :: (tld (dBack Y.s Y.R Y.dg cs).1 (dBack Y.s Y.R Y.dg cs).2 (Y.most - L.length - 1) (Y.fuel - m.ticks)).1, (tld (dBack Y.s Y.R Y.dg cs).1 (dBack Y.s Y.R Y.dg cs).2 (Y.most - L.length - 1) (Y.fuel - m.ticks)).2) := by
      rw [hD]
      show tld (em ++ (wy m.i G :: (dBack Y.s Y.R Y.dg cs).1)) (dBack Y.s Y.R Y.dg cs).2 _ _ = _
      rw [tld_pre _ _ hk em _ hc.nw (by omega), tld_way _ _ _ _ _ hk, show Y.fuel - t0 - tks em = Y.fuel - m.ticks by omega]
    rw [ht, h1, List.map_append, List.map_cons, List.map_nil, hy, List.length_append, show Y.most - (L.length + [y].length) = Y.most - L.length - 1 by simp; omega, List.append_assoc]
    rfl
  · subst q
    obtain ⟨m, N, O, W, C, G, S, em, r, f, hnw, htk, hfu, hti, hkp, -, he⟩ := (show ∃ m N O W C G S em, Rep w' Y.B1 Y.g m N O W C G S ∧ Fr Y.g m0 m w w' ∧ NoWay em ∧ m.ticks = t0 + tks em ∧ m.fuel = Y.fuel ∧ m.ticks ≤ Y.fuel ∧ Kept (Y.ctx t0 D0 m0 w N0) m N em ∧ NS w' Y.s N ∧
      ((m.err = 10 ∧ m.shut = false ∧ m.ticks = Y.fuel ∧ ∃ q, D0 = pre em (put tk q)) ∨ (m.err = 0 ∧ ∃ en, D0 = (em, en) ∧ ((en = 0 ∧ m.shut = false) ∨ (en = 1 ∧ m.shut = true)))) from he)
    have hk : Y.most - L.length ≠ 0 := by omega
    refine ⟨m, N, O, W, C, G, S, r, hh.fr hB hB0 hr f, ?_⟩
    rcases he with ⟨h1, -, h3, q, hD⟩ | ⟨h1, en, hD, h2⟩
    · refine .inl ⟨h1, ?_⟩
      have h4 : tld D0.1 D0.2 (Y.most - L.length) (Y.fuel - t0) = ([], 10) := by
        rw [hD]
        show tld (em ++ (tk :: q.1)) q.2 _ _ = _
        rw [tld_pre _ _ hk em _ hnw (by omega), show Y.fuel - t0 - tks em = 0 by omega, tld_dry _ _ hk]
      rw [ht, h4]
    · refine .inr ⟨h1, ?_⟩
      rw [hD] at ht
      have h3 : tld em en (Y.most - L.length) (Y.fuel - t0) = ([], en) := by
        have := tld_pre [] en hk em (Y.fuel - t0) hnw (by omega)
        rw [List.append_nil] at this
        rw [this, tld_nil _ _ hk]
      rw [ht]
      show (L.map Wv.pr ++ (tld em en _ _).1, (tld em en _ _).2) = _
      rw [h3, List.append_nil]
      rcases h2 with ⟨rfl, h2⟩ | ⟨rfl, h2⟩
      · rw [h2]; simp
      · rw [h2]; simp
end Go.Proofs.YtkphpcgmfkhpnaaDoor

namespace Go.Proofs.YtkphpcgmfkhpnaaDoor
open Go.RowKit

/-- What comes of one place: 3 found, else how it ends (10 no fuel); where, what is given, comings and tellings up to there. -/
structure FR where
  k : Nat
  a : Nat
  g : List Gft
  t : Nat
  d : Nat
def frs : List Ev → Nat → Nat → Nat → Nat → FR
  | [], en, _, t, d => ⟨en, 0, [], t, d⟩
  | x :: l, en, f, t, d => if x.w = 3 then ⟨3, x.a, x.g, t, d⟩ else if x.w = 0 then (if t = f then ⟨10, 0, [], t, d⟩ else frs l en f (t + 1) d) else if x.w = 2 then frs l en f t (d + 1) else frs l en f t d
theorem sds_cons (x : Ev) (l : List Ev) : sds (x :: l) = (if x.w = 2 then 1 else 0) + sds l := by
  unfold sds
  rw [List.filter_cons]
  by_cases h : x.w = 2
  · simp [h]; omega
  · simp [h]
theorem frs_pre (l : List Ev) (en f : Nat) : ∀ (em : List Ev) (t d : Nat), NoWay em → t + tks em ≤ f → frs (em ++ l) en f t d = frs l en f (t + tks em) (d + sds em)
  | [], t, d, _, _ => rfl
  | x :: em, t, d, hn, hf => by
    have hx : ¬ x.w = 3 := hn x (List.mem_cons_self ..)
    have hn' : NoWay em := fun y hy => hn y (List.mem_cons_of_mem _ hy)
    rw [tks_cons] at hf
    rw [List.cons_append, frs, if_neg hx, tks_cons, sds_cons]
    split
    · rename_i h0
      rw [if_pos h0] at hf
      rw [if_neg (by omega), if_neg (by omega), frs_pre l en f em (t + 1) d hn' (by omega), show t + 1 + tks em = t + (1 + tks em) by omega, Nat.zero_add]
    · rename_i h0
      rw [if_neg h0] at hf
      split
      · rw [frs_pre l en f em t (d + 1) hn' (by omega), Nat.zero_add, show d + 1 + sds em = d + (1 + sds em) by omega]
      · rw [frs_pre l en f em t d hn' (by omega), Nat.zero_add, Nat.zero_add]
theorem frs_way (i : Nat) (G : List Gft) (l : List Ev) (en f t d : Nat) : frs (wy i G :: l) en f t d = ⟨3, i, G, t, d⟩ := by rw [frs, if_pos (show (wy i G).w = 3 from rfl)]; rfl
theorem frs_dry (l : List Ev) (en f d : Nat) : frs (tk :: l) en f f d = ⟨10, 0, [], f, d⟩ := by rw [frs, if_neg (show ¬ tk.w = 3 by decide), if_pos (show tk.w = 0 from rfl), if_pos rfl]
theorem frs_nil (en f t d : Nat) : frs [] en f t d = ⟨en, 0, [], t, d⟩ := rfl

/-- What Match tells. -/
structure MR where
  found : Bool
  fr : Nat
  to : Nat
  G : List Gft
  ticks : Nat
  told : Nat
  err : Int
/-- From a place on, n places at most. -/
def lk (Q : Nat → Sq) (f : Nat) : Nat → Nat → Nat → Nat → MR
  | 0, _, t, d => ⟨false, 0, 0, [], t, d, 0⟩
  | n + 1, j, t, d =>
    if (frs (Q j).1 (Q j).2 f t d).k = 3 then ⟨true, j, (frs (Q j).1 (Q j).2 f t d).a, (frs (Q j).1 (Q j).2 f t d).g, (frs (Q j).1 (Q j).2 f t d).t, (frs (Q j).1 (Q j).2 f t d).d, 0⟩
    else if (frs (Q j).1 (Q j).2 f t d).k = 0 then lk Q f n (j + 1) (frs (Q j).1 (Q j).2 f t d).t (frs (Q j).1 (Q j).2 f t d).d
    else if (frs (Q j).1 (Q j).2 f t d).k = 1 then ⟨false, 0, 0, [], (frs (Q j).1 (Q j).2 f t d).t, (frs (Q j).1 (Q j).2 f t d).d, 0⟩
    else ⟨false, 0, 0, [], 0, (frs (Q j).1 (Q j).2 f t d).d, (frs (Q j).1 (Q j).2 f t d).k⟩
theorem lk_found {Q : Nat → Sq} {f n j t d a t' d' : Nat} {G : List Gft} (h : frs (Q j).1 (Q j).2 f t d = ⟨3, a, G, t', d'⟩) : lk Q f (n + 1) j t d = ⟨true, j, a, G, t', d', 0⟩ := by rw [lk, h, if_pos rfl]
theorem lk_none {Q : Nat → Sq} {f n j t d t' d' : Nat} (h : frs (Q j).1 (Q j).2 f t d = ⟨0, 0, [], t', d'⟩) : lk Q f (n + 1) j t d = lk Q f n (j + 1) t' d' := by rw [lk, h, if_neg (by simp), if_pos rfl]
theorem lk_shut {Q : Nat → Sq} {f n j t d t' d' : Nat} (h : frs (Q j).1 (Q j).2 f t d = ⟨1, 0, [], t', d'⟩) : lk Q f (n + 1) j t d = ⟨false, 0, 0, [], t', d', 0⟩ := by rw [lk, h, if_neg (by simp), if_neg (by simp), if_pos rfl]
theorem lk_dry {Q : Nat → Sq} {f n j t d t' d' : Nat} (h : frs (Q j).1 (Q j).2 f t d = ⟨10, 0, [], t', d'⟩) : lk Q f (n + 1) j t d = ⟨false, 0, 0, [], 0, d', 10⟩ := by rw [lk, h, if_neg (by simp), if_neg (by simp), if_neg (by simp)]; rfl

/-- What stands while it is looked for. -/
structure LC where
  s : ByteArray
  R : ByteArray → Option PT
  dg : Nat → ByteArray
  rn : ByteArray → Int
  fuel : Nat
  B : Nat
  g : Nat
  T : PT
  rt : Nat
  room : Nat
def LC.Q (Z : LC) (j : Nat) : Sq := D Z.s Z.R Z.dg (Z.fuel + 1) Z.T j []
def LC.ctx (Z : LC) (t0 : Nat) (D0 : Sq) (m0 : MS) (w : World) (N0 : List Nd) : Ctx := ⟨Z.B, Z.g, Z.s, Z.rn, Z.R, Z.dg, Z.fuel, t0, D0, m0, w, N0⟩
/-- The machine between two places. -/
structure Idle (Z : LC) (t d : Nat) (w : World) (m : MS) (N : List Nd) (O : List Int) (W : List Wr) (C : List Cr) (G S : List Gft) : Prop where
  rep : Rep w Z.B Z.g m N O W C G S
  s : m.s = Z.s
  fu : m.fuel = Z.fuel
  rt : m.root = (Z.rt : Int)
  room : m.room = Z.room
  ti : m.ticks = t
  le : t ≤ Z.fuel
  er : m.err = 0
  sh : m.shut = false
  td : m.told = d
  ly : Lies Z.rn N Z.T Z.rt
  ns : NS w Z.s N
/-- Behind one place. -/
def Found (Z : LC) (t d : Nat) (j : Nat) (m0 : MS) (w0 : World) (ok : Bool) (w : World) : Prop := ∃ m N O W C G S, Rep w Z.B Z.g m N O W C G S ∧ Fr Z.g m0 m w0 w ∧ m.room = Z.room ∧
  if ok = true then m.err = 0 ∧ frs (Z.Q j).1 (Z.Q j).2 Z.fuel t d = ⟨3, m.i, G, m.ticks, m.told⟩
  else ((m.err = 10 ∧ m.shut = false ∧ ∃ d', m.told = d' ∧ frs (Z.Q j).1 (Z.Q j).2 Z.fuel t d = ⟨10, 0, [], Z.fuel, d'⟩) ∨ (m.err = 0 ∧ m.shut = true ∧ frs (Z.Q j).1 (Z.Q j).2 Z.fuel t d = ⟨1, 0, [], m.ticks, m.told⟩) ∨ (frs (Z.Q j).1 (Z.Q j).2 Z.fuel t d = ⟨0, 0, [], m.ticks, m.told⟩ ∧ Idle Z m.ticks m.told w m N O W C G S))

theorem next_found {Z : LC} {t d j : Nat} {m : MS} {N : List Nd} {O : List Int} {S : List Gft} {w : World} (h : Idle Z t d w m N O [] [] [] S) (hb : m.begun = false) (hbb : m.b = -1) (hi : m.i = j) (hn : m.node = Z.rt) (hF : FineS Z.T) (hf : Z.fuel ≤ 100000) (hj : j ≤ Z.s.size) (hs : Z.s.size ≤ 65536) :
    Calls Tryd.prog 19 #[.pointer (some ⟨Z.g, 0, none⟩)] w fun e w' => ∃ ok, e = .returned (.bool ok) ∧ Found Z t d j m w ok w' := by
  have hSt : Start (Z.ctx t (Z.Q j) m w N) w := by
    refine ⟨m, N, O, S, Z.fuel + 1, Z.T, h.rep, hb, h.s, h.fu, hf, ?_, h.ti, ?_, hs, h.sh, h.er, hbb, Fr.refl _ _ _, ?_, hF, Nat.le_refl _, ?_, ⟨rfl, rfl, rfl, Same.refl _⟩, h.ns⟩
    · have := h.ti; have := h.le; show m.ticks ≤ Z.fuel; omega
    · show m.i ≤ Z.s.size; omega
    · rw [hn]; exact h.ly
    · show Z.Q j = dCome Z.s Z.R Z.dg (Z.fuel + 1) Z.T m.i [] [] []
      rw [hi, dCome_top]; rfl
  refine (next_first _ _ hSt).mono ?_
  rintro e w' ⟨ok, rfl, he⟩
  refine ⟨ok, rfl, ?_⟩
  cases ok with
  | true =>
    obtain ⟨m', N', O', W, C, G, S', cs, em, hc, hwl, hgl, hD⟩ := (show ∃ m' N' O W C G S cs em, Cor (Z.ctx t (Z.Q j) m w N) w' m' N' O W C G S cs em ∧ W.length ≤ 2 * m'.ticks ∧ C.length + G.length ≤ 3 * m'.ticks ∧ Z.Q j = pre em (put (wy m'.i G) (dBack Z.s Z.R Z.dg cs)) from he)
    refine ⟨m', N', O', W, C, G, S', hc.rep, hc.fr, hc.kp.room.trans h.room, ?_⟩
    rw [if_pos rfl]
    refine ⟨hc.er, ?_⟩
    have htk : m'.ticks = t + tks em := hc.tk
    have hti : m'.ticks ≤ Z.fuel := hc.ti
    have htd : m'.told = m.told + sds em := hc.kp.told
    rw [hD]
    show frs (em ++ (wy m'.i G :: (dBack Z.s Z.R Z.dg cs).1)) (dBack Z.s Z.R Z.dg cs).2 _ _ _ = _
    rw [frs_pre _ _ _ em t d hc.nw (by omega), frs_way, htk, htd, h.td]
  | false =>
    obtain ⟨m', N', O', W, C, G, S', em, r, f, hnw, htk, hfu, hti, hkp, hns, he⟩ := (show ∃ m' N' O W C G S em, Rep w' Z.B Z.g m' N' O W C G S ∧ Fr Z.g m m' w w' ∧ NoWay em ∧ m'.ticks = t + tks em ∧ m'.fuel = Z.fuel ∧ m'.ticks ≤ Z.fuel ∧ Kept (Z.ctx t (Z.Q j) m w N) m' N' em ∧ NS w' Z.s N' ∧
      ((m'.err = 10 ∧ m'.shut = false ∧ m'.ticks = Z.fuel ∧ ∃ q, Z.Q j = pre em (put tk q)) ∨ (m'.err = 0 ∧ ∃ en, Z.Q j = (em, en) ∧ ((en = 0 ∧ m'.shut = false) ∨ (en = 1 ∧ m'.shut = true)))) from he)
    have htd : m'.told = m.told + sds em := hkp.told
    refine ⟨m', N', O', W, C, G, S', r, f, hkp.room.trans h.room, ?_⟩
    rw [if_neg (by simp)]
    rcases he with ⟨h1, h0, h3, q, hD⟩ | ⟨h1, en, hD, h2⟩
    · refine .inl ⟨h1, h0, _, rfl, ?_⟩
      rw [hD]
      show frs (em ++ (tk :: q.1)) q.2 _ _ _ = _
      rw [frs_pre _ _ _ em t d hnw (by omega), show t + tks em = Z.fuel by omega, frs_dry, htd, h.td]
    · have h4 : frs (Z.Q j).1 (Z.Q j).2 Z.fuel t d = ⟨en, 0, [], m'.ticks, m'.told⟩ := by
        have := frs_pre [] en Z.fuel em t d hnw (by omega)
        rw [List.append_nil, frs_nil] at this
        rw [hD, htk, htd, h.td]
        exact this
      rcases h2 with ⟨rfl, h2⟩ | ⟨rfl, h2⟩
      · exact .inr (.inr ⟨h4, ⟨r, hkp.s.trans h.s, hfu, hkp.root.trans h.rt, hkp.room.trans h.room, rfl, hti, h1, h2, rfl, Lies.mono hkp.same h.ly, hns⟩⟩)
      · exact .inr (.inl ⟨h1, h2, h4⟩)
end Go.Proofs.YtkphpcgmfkhpnaaDoor
