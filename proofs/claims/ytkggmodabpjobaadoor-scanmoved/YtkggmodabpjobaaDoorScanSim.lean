/- How the machine's lists stand for what is to be done: nodes for a pattern, works for what is behind, choices for where it may go back to. -/
import Derived.Test.YtkggmodabpjobaaDoorScanRep
namespace Go.Proofs.YtkggmodabpjobaaDoor
open Go.RowKit

/-- A pattern lies among the nodes. rn: which rule has a name. -/
def Lies (rn : ByteArray → Int) (N : List Nd) : PT → Nat → Prop
  | .node k t n nm _ _ _ len _ kids, idx => ∃ x, N[idx]? = some x ∧ x.k = k ∧ x.t = t ∧ x.n = n ∧ ((k = 21 ∨ k = 22 ∨ k = 23) → x.nm = nm) ∧ (k = 24 → x.ru = rn nm) ∧ x.en = x.fi + len ∧ x.en ≤ 1000000 ∧ ∀ j : Fin len, Lies rn N (kids j) (x.fi + j.val)
theorem Lies.node {rn : ByteArray → Int} {N : List Nd} {T : PT} {i : Nat} (h : Lies rn N T i) : ∃ x, N[i]? = some x ∧ x.k = T.k ∧ x.t = T.t ∧ x.n = T.n ∧ ((T.k = 21 ∨ T.k = 22 ∨ T.k = 23) → x.nm = T.nm) ∧ (T.k = 24 → x.ru = rn T.nm) ∧ x.en = x.fi + T.len ∧ x.en ≤ 1000000 ∧ ∀ j, j < T.len → Lies rn N (T.kid j) (x.fi + j) := by
  obtain ⟨k, t, n, nm, xa, b, o, len, cap, kids⟩ := T
  obtain ⟨x, h1, h2, h3, h4, h5, h6, h7, h8, h9⟩ := h
  refine ⟨x, h1, h2, h3, h4, h5, h6, h7, h8, fun j hj => ?_⟩
  rw [PT.kid_at (T := .node k t n nm xa b o len cap kids) hj]
  exact h9 ⟨j, hj⟩
/-- What is kept of the nodes. -/
def Same (N N' : List Nd) : Prop := ∀ (i : Nat) (x : Nd), N[i]? = some x → ∃ y : Nd, N'[i]? = some y ∧ y.k = x.k ∧ y.t = x.t ∧ y.n = x.n ∧ y.nm = x.nm ∧ y.ru = x.ru ∧ y.fi = x.fi ∧ y.en = x.en
theorem Same.refl (N : List Nd) : Same N N := fun _ x h => ⟨x, h, rfl, rfl, rfl, rfl, rfl, rfl, rfl⟩
theorem Lies.mono {rn : ByteArray → Int} {N N' : List Nd} (hs : Same N N') : ∀ {T : PT} {i : Nat}, Lies rn N T i → Lies rn N' T i
  | .node k t n nm xa b o len cap kids, i, h => by
    have ih := fun (j : Fin len) (q : Nat) => Lies.mono (rn := rn) hs (T := kids j) (i := q)
    obtain ⟨x, h1, h2, h3, h4, h5, h6, h7, h8, h9⟩ := h
    obtain ⟨y, k1, k2, k3, k4, k5, k6, k7, k8⟩ := hs i x h1
    exact ⟨y, k1, k2.trans h2, k3.trans h3, k4.trans h4, fun q => k5.trans (h5 q), fun q => k6.trans (h6 q), by rw [k8, k7]; exact h7, by rw [k8]; exact h8, fun j => by rw [k7]; exact ih j _ (h9 j)⟩

/-- Patterns whose kinds look for no byte of a text, tell nothing at once and call nobody. -/
def okN (k : Int) (t : ByteArray) (n : Int) (len : Nat) : Prop :=
  (k = 1 ∨ k = 2 ∨ (8 ≤ k ∧ k ≤ 21)) ∧ (k = 1 → t.size ≤ 65536) ∧ ((k = 2 ∨ (8 ≤ k ∧ k ≤ 11)) → 0 ≤ n ∧ n ≤ 65536) ∧ ((k = 18 ∨ k = 19) → 2 ≤ len) ∧ ((k = 20 ∨ k = 21) → len = 1)
def Fine : PT → Prop
  | .node k t n _ _ _ _ len _ kids => okN k t n len ∧ ∀ j : Fin len, Fine (kids j)
theorem Fine.ok {T : PT} (h : Fine T) : okN T.k T.t T.n T.len := by cases T; exact h.1
theorem Fine.kid {T : PT} (h : Fine T) {j : Nat} (hj : j < T.len) : Fine (T.kid j) := by
  rw [PT.kid_at hj]
  cases T; exact h.2 ⟨j, hj⟩

section
variable (rn : ByteArray → Int) (sz : Nat) (N : List Nd)
/-- What is behind. -/
def Chain : List Wr → Int → List Wk → Prop
  | _, b, [] => b = -1
  | W, b, k :: ks => ∃ bi r, b = ((bi : Nat) : Int) ∧ W[bi]? = some r ∧ Lies rn N k.T r.node ∧ Fine k.T ∧ (k.T.k = 18 ∨ k.T.k = 20 ∨ k.T.k = 21) ∧ r.i = k.i ∧ k.i ≤ sz ∧
      (k.T.k = 18 → ∃ x, N[r.node]? = some x ∧ r.kid = x.fi + k.j ∧ k.j + 1 < k.T.len) ∧ Chain (W.take bi) r.b ks
/-- Where it may go back to. q: how many there may be, with what is given and what is behind. -/
def Chs (q : Nat) : List Wr → List Gft → List Cr → List Ch → Prop
  | _, _, C, [] => C = []
  | W, G, C, k :: ks => ∃ C0 c, C = C0 ++ [c] ∧ Lies rn N k.T c.node ∧ Fine k.T ∧ (k.T.k = 16 ∨ k.T.k = 19 ∨ k.T.k = 20 ∨ k.T.k = 13 ∨ k.T.k = 14) ∧ c.i = k.i ∧ k.i ≤ sz ∧ c.ws ≤ W.length ∧ c.gs ≤ G.length ∧ G.take c.gs = k.g ∧
      (k.T.k = 19 → ∃ x, N[c.node]? = some x ∧ c.x = ((x.fi + k.x : Nat) : Int) ∧ k.x < k.T.len) ∧ (k.T.k = 13 → c.x = (k.x : Int) ∧ k.x ≤ sz + 1 ∧ k.i ≤ k.x) ∧ (k.T.k = 14 → c.x = (k.x : Int) ∧ k.x ≤ sz ∧ k.i ≤ k.x) ∧
      C.length + c.gs + k.ch.length ≤ q ∧ Chain rn sz N (W.take c.ws) c.b k.ch ∧ Chs q (W.take c.ws) (G.take c.gs) C0 ks
end
section
variable {rn : ByteArray → Int} {sz : Nat} {N : List Nd}
theorem Chain.append : ∀ {ks : List Wk} {W : List Wr} {b : Int} (X : List Wr), Chain rn sz N W b ks → Chain rn sz N (W ++ X) b ks
  | [], _, _, _, h => h
  | k :: ks, W, b, X, h => by
    obtain ⟨bi, r, h1, h2, h3, h4, h5, h6, h7, h8, h9⟩ := h
    have hb : bi < W.length := (List.getElem?_eq_some_iff.1 h2).1
    refine ⟨bi, r, h1, by rw [List.getElem?_append_left hb]; exact h2, h3, h4, h5, h6, h7, h8, ?_⟩
    rw [List.take_append_of_le_length (by omega)]
    exact h9
theorem Chs.append : ∀ {ks : List Ch} {W : List Wr} {G : List Gft} {C : List Cr} {q : Nat} (X : List Wr) (Y : List Gft), Chs rn sz N q W G C ks → Chs rn sz N q (W ++ X) (G ++ Y) C ks
  | [], _, _, _, _, _, _, h => h
  | k :: ks, W, G, C, q, X, Y, h => by
    obtain ⟨C0, c, h1, h2, h3, h4, h5, h6, h7, h8, h9, h10, h11, h12, h13, h14, h15⟩ := h
    refine ⟨C0, c, h1, h2, h3, h4, h5, h6, by rw [List.length_append]; omega, by rw [List.length_append]; omega, ?_, h10, h11, h12, h13, ?_, ?_⟩
    · rw [List.take_append_of_le_length h8]; exact h9
    · rw [List.take_append_of_le_length h7]; exact h14
    · rw [List.take_append_of_le_length h7, List.take_append_of_le_length h8]; exact h15
theorem Chs.more : ∀ {ks : List Ch} {W : List Wr} {G : List Gft} {C : List Cr} {q q' : Nat}, q ≤ q' → Chs rn sz N q W G C ks → Chs rn sz N q' W G C ks
  | [], _, _, _, _, _, _, h => h
  | k :: ks, W, G, C, q, q', hq, h => by
    obtain ⟨C0, c, h1, h2, h3, h4, h5, h6, h7, h8, h9, h10, h11, h12, h13, h14, h15⟩ := h
    exact ⟨C0, c, h1, h2, h3, h4, h5, h6, h7, h8, h9, h10, h11, h12, by omega, h14, Chs.more hq h15⟩
theorem Chs.appendW {ks : List Ch} {W : List Wr} {G : List Gft} {C : List Cr} {q : Nat} (X : List Wr) (h : Chs rn sz N q W G C ks) : Chs rn sz N q (W ++ X) G C ks := by
  have := h.append X []
  rwa [List.append_nil] at this
theorem Chs.appendG {ks : List Ch} {W : List Wr} {G : List Gft} {C : List Cr} {q : Nat} (Y : List Gft) (h : Chs rn sz N q W G C ks) : Chs rn sz N q W (G ++ Y) C ks := by
  have := h.append [] Y
  rwa [List.append_nil] at this
theorem take_all {α : Type} (l : List α) : l.take l.length = l := List.take_length
end

/-- How deep what is behind is looked at. f: the fuel that is left, and one; d: 1, if a node was come to since; i: the place, ahead of which all of it began. -/
def Deep (f d i : Nat) (ch : List Wk) : Prop := ∀ k ∈ ch, f + 1 ≤ k.n ∧ (k.T.k = 20 → f + d ≤ k.m) ∧ k.i ≤ i
def DeepC (f : Nat) (cs : List Ch) : Prop := ∀ c ∈ cs, f + 1 ≤ c.n ∧ (c.T.k = 20 → f ≤ c.m) ∧ Deep f 1 c.i c.ch
theorem Deep.less {f f' d d' i i' : Nat} {ch : List Wk} (h : Deep f d i ch) (hf : f' ≤ f) (hd : f' + d' ≤ f + d) (hi : i ≤ i') : Deep f' d' i' ch := fun k hk => ⟨by have := (h k hk).1; omega, fun q => by have := (h k hk).2.1 q; omega, by have := (h k hk).2.2; omega⟩
theorem DeepC.less {f f' : Nat} {cs : List Ch} (h : DeepC f cs) (hf : f' ≤ f) : DeepC f' cs := fun c hc => ⟨by have := (h c hc).1; omega, fun q => by have := (h c hc).2.1 q; omega, (h c hc).2.2.less hf (by omega) (Nat.le_refl _)⟩
end Go.Proofs.YtkggmodabpjobaaDoor
