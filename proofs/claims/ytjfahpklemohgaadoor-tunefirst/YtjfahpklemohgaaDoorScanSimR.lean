/- What is behind and where it may go back to, for patterns of any kind. -/
import Derived.Test.YtjfahpklemohgaaDoorScanSimM
import Derived.Test.YtjfahpklemohgaaDoorScanOnly2
namespace Go.Proofs.YtjfahpklemohgaaDoor
open Go.RowKit

/-- Patterns of any kind. -/
def okS (k : Int) (t : ByteArray) (n : Int) (len : Nat) : Prop :=
  (1 ≤ k ∧ k ≤ 24) ∧ ((k = 1 ∨ (3 ≤ k ∧ k ≤ 7)) → t.size ≤ 65536) ∧ ((k = 2 ∨ (8 ≤ k ∧ k ≤ 11)) → 0 ≤ n ∧ n ≤ 65536) ∧ ((k = 18 ∨ k = 19) → 2 ≤ len) ∧ ((k = 20 ∨ k = 21 ∨ k = 22) → len = 1)
def FineS : PT → Prop
  | .node k t n _ _ _ _ len _ kids => okS k t n len ∧ ∀ j : Fin len, FineS (kids j)
theorem FineS.ok {T : PT} (h : FineS T) : okS T.k T.t T.n T.len := by cases T; exact h.1
theorem FineS.kid {T : PT} (h : FineS T) {j : Nat} (hj : j < T.len) : FineS (T.kid j) := by
  rw [PT.kid_at hj]
  cases T; exact h.2 ⟨j, hj⟩

section
variable (rn : ByteArray → Int) (sz : Nat) (N : List Nd)
/-- What is behind. -/
def ChainS : List Wr → Int → List Wk → Prop
  | _, b, [] => b = -1
  | W, b, k :: ks => ∃ bi r, b = ((bi : Nat) : Int) ∧ W[bi]? = some r ∧ Lies rn N k.T r.node ∧ FineS k.T ∧ (k.T.k = 18 ∨ k.T.k = 20 ∨ k.T.k = 21 ∨ k.T.k = 22) ∧ r.i = k.i ∧ k.i ≤ sz ∧
      (k.T.k = 18 → ∃ x, N[r.node]? = some x ∧ r.kid = x.fi + k.j ∧ k.j + 1 < k.T.len) ∧ ChainS (W.take bi) r.b ks
/-- Where it may go back to. q: how many there may be, with what is given and what is behind. -/
def ChsS (q : Nat) : List Wr → List Gft → List Cr → List Ch → Prop
  | _, _, C, [] => C = []
  | W, G, C, k :: ks => ∃ C0 c, C = C0 ++ [c] ∧ Lies rn N k.T c.node ∧ FineS k.T ∧ (k.T.k = 16 ∨ k.T.k = 19 ∨ k.T.k = 20 ∨ k.T.k = 13 ∨ k.T.k = 14 ∨ k.T.k = 7) ∧ c.i = k.i ∧ k.i ≤ sz ∧ c.ws ≤ W.length ∧ c.gs ≤ G.length ∧ G.take c.gs = k.g ∧
      (k.T.k = 19 → ∃ x, N[c.node]? = some x ∧ c.x = ((x.fi + k.x : Nat) : Int) ∧ k.x < k.T.len) ∧ (k.T.k = 13 → c.x = (k.x : Int) ∧ k.x ≤ sz + 1 ∧ k.i ≤ k.x) ∧ ((k.T.k = 14 ∨ k.T.k = 7) → c.x = (k.x : Int) ∧ k.x ≤ sz ∧ k.i ≤ k.x) ∧
      C.length + c.gs + k.ch.length ≤ q ∧ ChainS rn sz N (W.take c.ws) c.b k.ch ∧ ChsS q (W.take c.ws) (G.take c.gs) C0 ks
end
section
variable {rn : ByteArray → Int} {sz : Nat} {N : List Nd}
theorem ChainS.append : ∀ {ks : List Wk} {W : List Wr} {b : Int} (X : List Wr), ChainS rn sz N W b ks → ChainS rn sz N (W ++ X) b ks
  | [], _, _, _, h => h
  | k :: ks, W, b, X, h => by
    obtain ⟨bi, r, h1, h2, h3, h4, h5, h6, h7, h8, h9⟩ := h
    have hb : bi < W.length := (List.getElem?_eq_some_iff.1 h2).1
    refine ⟨bi, r, h1, by rw [List.getElem?_append_left hb]; exact h2, h3, h4, h5, h6, h7, h8, ?_⟩
    rw [List.take_append_of_le_length (by omega)]
    exact h9
theorem ChsS.append : ∀ {ks : List Ch} {W : List Wr} {G : List Gft} {C : List Cr} {q : Nat} (X : List Wr) (Y : List Gft), ChsS rn sz N q W G C ks → ChsS rn sz N q (W ++ X) (G ++ Y) C ks
  | [], _, _, _, _, _, _, h => h
  | k :: ks, W, G, C, q, X, Y, h => by
    obtain ⟨C0, c, h1, h2, h3, h4, h5, h6, h7, h8, h9, h10, h11, h12, h13, h14, h15⟩ := h
    refine ⟨C0, c, h1, h2, h3, h4, h5, h6, by rw [List.length_append]; omega, by rw [List.length_append]; omega, ?_, h10, h11, h12, h13, ?_, ?_⟩
    · rw [List.take_append_of_le_length h8]; exact h9
    · rw [List.take_append_of_le_length h7]; exact h14
    · rw [List.take_append_of_le_length h7, List.take_append_of_le_length h8]; exact h15
theorem ChsS.more : ∀ {ks : List Ch} {W : List Wr} {G : List Gft} {C : List Cr} {q q' : Nat}, q ≤ q' → ChsS rn sz N q W G C ks → ChsS rn sz N q' W G C ks
  | [], _, _, _, _, _, _, h => h
  | k :: ks, W, G, C, q, q', hq, h => by
    obtain ⟨C0, c, h1, h2, h3, h4, h5, h6, h7, h8, h9, h10, h11, h12, h13, h14, h15⟩ := h
    exact ⟨C0, c, h1, h2, h3, h4, h5, h6, h7, h8, h9, h10, h11, h12, by omega, h14, ChsS.more hq h15⟩
theorem ChsS.appendW {ks : List Ch} {W : List Wr} {G : List Gft} {C : List Cr} {q : Nat} (X : List Wr) (h : ChsS rn sz N q W G C ks) : ChsS rn sz N q (W ++ X) G C ks := by
  have := h.append X []
  rwa [List.append_nil] at this
theorem ChsS.appendG {ks : List Ch} {W : List Wr} {G : List Gft} {C : List Cr} {q : Nat} (Y : List Gft) (h : ChsS rn sz N q W G C ks) : ChsS rn sz N q W (G ++ Y) C ks := by
  have := h.append [] Y
  rwa [List.append_nil] at this
theorem ChainS.mono {N' : List Nd} (hsm : Same N N') : ∀ {ks : List Wk} {W : List Wr} {b : Int}, ChainS rn sz N W b ks → ChainS rn sz N' W b ks
  | [], _, _, h => h
  | k :: ks, W, b, h => by
    obtain ⟨bi, r, h1, h2, h3, h4, h5, h6, h7, h8, h9⟩ := h
    refine ⟨bi, r, h1, h2, Lies.mono hsm h3, h4, h5, h6, h7, fun q => ?_, ChainS.mono hsm h9⟩
    obtain ⟨x, q1, q2, q3⟩ := h8 q
    obtain ⟨y, p1, -, -, -, -, -, p7, -⟩ := hsm _ x q1
    exact ⟨y, p1, by rw [p7]; exact q2, q3⟩
theorem ChsS.mono {N' : List Nd} (hsm : Same N N') : ∀ {ks : List Ch} {W : List Wr} {G : List Gft} {C : List Cr} {q : Nat}, ChsS rn sz N q W G C ks → ChsS rn sz N' q W G C ks
  | [], _, _, _, _, h => h
  | k :: ks, W, G, C, q, h => by
    obtain ⟨C0, c, h1, h2, h3, h4, h5, h6, h7, h8, h9, h10, h11, h12, h13, h14, h15⟩ := h
    refine ⟨C0, c, h1, Lies.mono hsm h2, h3, h4, h5, h6, h7, h8, h9, fun q => ?_, h11, h12, h13, ChainS.mono hsm h14, ChsS.mono hsm h15⟩
    obtain ⟨x, q1, q2, q3⟩ := h10 q
    obtain ⟨y, p1, -, -, -, -, -, p7, -⟩ := hsm _ x q1
    exact ⟨y, p1, by rw [p7]; exact q2, q3⟩
end
theorem Same.trans {N N' N2 : List Nd} (h : Same N N') (k : Same N' N2) : Same N N2 := fun i x hx => by
  obtain ⟨y, h1, h2, h3, h4, h5, h6, h7, h8⟩ := h i x hx
  obtain ⟨z, k1, k2, k3, k4, k5, k6, k7, k8⟩ := k i y h1
  exact ⟨z, k1, k2.trans h2, k3.trans h3, k4.trans h4, k5.trans h5, k6.trans h6, k7.trans h7, k8.trans h8⟩
/-- How many ways may still be looked for, at most, by the choices that look for places. -/
def remC (sz : Nat) : List Ch → Nat
  | [] => 0
  | c :: cs => (if c.T.k = 13 ∨ c.T.k = 14 ∨ c.T.k = 7 then sz + 1 - c.x else 0) + remC sz cs
theorem remC_many {sz : Nat} {c : Ch} {cs : List Ch} (h : c.T.k = 13 ∨ c.T.k = 14 ∨ c.T.k = 7) : remC sz (c :: cs) = (sz + 1 - c.x) + remC sz cs := by rw [remC, if_pos h]
theorem remC_skip {sz : Nat} {c : Ch} {cs : List Ch} (h : ¬ (c.T.k = 13 ∨ c.T.k = 14 ∨ c.T.k = 7)) : remC sz (c :: cs) = remC sz cs := by rw [remC, if_neg h, Nat.zero_add]
theorem remC_le (sz : Nat) (c : Ch) (cs : List Ch) : remC sz (c :: cs) ≤ (sz + 1) + remC sz cs := by
  rw [remC]
  split <;> omega
theorem remC_ge (sz : Nat) (c : Ch) (cs : List Ch) : remC sz cs ≤ remC sz (c :: cs) := by
  rw [remC]; omega
/-- What was told is paid for. -/
theorem pay_same {t sz k : Nat} {cs : List Ch} (h : t + 300010 * remC sz cs ≤ 30000000000 * k) : t + 300010 * remC sz cs ≤ 30000000000 * (k + 1) := by omega
theorem pay_new {t sz k : Nat} {cs : List Ch} (c : Ch) (hs : sz ≤ 65536) (h : t + 300010 * remC sz cs ≤ 30000000000 * k) : t + 300010 * remC sz (c :: cs) ≤ 30000000000 * (k + 1) := by
  have := remC_le sz c cs
  omega
theorem pay1_same {t sz k l : Nat} {cs : List Ch} (hl : l ≤ 300010) (h : t + 300010 * remC sz cs ≤ 30000000000 * k) : t + l + 300010 * remC sz cs ≤ 30000000000 * (k + 1) := by omega
theorem pay1_new {t sz k l : Nat} {cs : List Ch} (c : Ch) (hl : l ≤ 300010) (hs : sz ≤ 65536) (h : t + 300010 * remC sz cs ≤ 30000000000 * k) : t + l + 300010 * remC sz (c :: cs) ≤ 30000000000 * (k + 1) := by
  have := remC_le sz c cs
  omega
theorem pay_gone {t sz k : Nat} {c : Ch} {cs : List Ch} (h : t + 300010 * remC sz (c :: cs) ≤ k) : t + 300010 * remC sz cs ≤ k := by
  have := remC_ge sz c cs
  omega
theorem pay_turn {t sz k : Nat} {c c' : Ch} {cs : List Ch} (hk : c'.T.k = c.T.k) (hx : c.x ≤ c'.x) (h : t + 300010 * remC sz (c :: cs) ≤ k) : t + 300010 * remC sz (c' :: cs) ≤ k := by
  by_cases q : c.T.k = 13 ∨ c.T.k = 14 ∨ c.T.k = 7
  · rw [remC_many q] at h
    rw [remC_many (by rw [hk]; exact q)]; omega
  · rw [remC_skip q] at h
    rw [remC_skip (by rw [hk]; exact q)]; exact h
theorem pay1_turn {t sz k l : Nat} {c c' : Ch} {cs : List Ch} (hl : l ≤ 300010) (hk : c'.T.k = c.T.k) (q : c.T.k = 13 ∨ c.T.k = 14 ∨ c.T.k = 7) (hx : c.x < c'.x) (hz : c.x ≤ sz) (h : t + 300010 * remC sz (c :: cs) ≤ k) : t + l + 300010 * remC sz (c' :: cs) ≤ k := by
  rw [remC_many q] at h
  rw [remC_many (by rw [hk]; exact q)]; omega
end Go.Proofs.YtjfahpklemohgaaDoor
