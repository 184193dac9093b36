/- What is behind and where it may go back to, for patterns of any kind. -/
import Derived.Test.YtkggmodabpjobaaDoorScanSim
import Derived.Test.YtkggmodabpjobaaDoorScanOnly2
namespace Go.Proofs.YtkggmodabpjobaaDoor
open Go.RowKit

/-- Patterns of any kind. -/
def okS (k : Int) (t : ByteArray) (n : Int) (len : Nat) : Prop :=
  (1 ≤ k ∧ k ≤ 24) ∧ ((k = 1 ∨ (3 ≤ k ∧ k ≤ 7)) → t.size ≤ 65536) ∧ ((k = 2 ∨ (8 ≤ k ∧ k ≤ 11)) → 0 ≤ n ∧ n ≤ 65536) ∧ ((k = 18 ∨ k = 19) → 2 ≤ len) ∧ ((k = 20 ∨ k = 21 ∨ k = 22) → len = 1)
def FineS : PT → Prop
  | .node k t n _ _ _ _ len _ kids => okS k t n len ∧ ∀ j : Fin len, FineS (kids j)
theorem FineS.ok {T : PT} (h : FineS T) : okS T.k T.t T.n T.len := by cases T; exact h.1
theorem FineS.kid {T : PT} (h : FineS T) {j : Nat} (hj : j < T.len) : FineS (T.kid j) := by
  rw [PT.kid_at hj]
  cases T; exact h.2 ⟨j, hj⟩

section
variable (rn : ByteArray → Int) (sz : Nat) (N : List Nd)
/-- What is behind. -/
def ChainS : List Wr → Int → List Wk → Prop
  | _, b, [] => b = -1
  | W, b, k :: ks => ∃ bi r, b = ((bi : Nat) : Int) ∧ W[bi]? = some r ∧ Lies rn N k.T r.node ∧ FineS k.T ∧ (k.T.k = 18 ∨ k.T.k = 20 ∨ k.T.k = 21 ∨ k.T.k = 22) ∧ r.i = k.i ∧ k.i ≤ sz ∧
      (k.T.k = 18 → ∃ x, N[r.node]? = some x ∧ r.kid = x.fi + k.j ∧ k.j + 1 < k.T.len) ∧ ChainS (W.take bi) r.b ks
/-- Where it may go back to. q: how many there may be, with what is given and what is behind. -/
def ChsS (q : Nat) : List Wr → List Gft → List Cr → List Ch → Prop
  | _, _, C, [] => C = []
  | W, G, C, k :: ks => ∃ C0 c, C = C0 ++ [c] ∧ Lies rn N k.T c.node ∧ FineS k.T ∧ (k.T.k = 16 ∨ k.T.k = 19 ∨ k.T.k = 20 ∨ k.T.k = 13 ∨ k.T.k = 14 ∨ k.T.k = 7) ∧ c.i = k.i ∧ k.i ≤ sz ∧ c.ws ≤ W.length ∧ c.gs ≤ G.length ∧ G.take c.gs = k.g ∧
      (k.T.k = 19 → ∃ x, N[c.node]? = some x ∧ c.x = ((x.fi + k.x : Nat) : Int) ∧ k.x < k.T.len) ∧ (k.T.k = 13 → c.x = (k.x : Int) ∧ k.x ≤ sz + 1 ∧ k.i ≤ k.x) ∧ ((k.T.k = 14 ∨ k.T.k = 7) → c.x = (k.x : Int) ∧ k.x ≤ sz ∧ k.i ≤ k.x) ∧
      C.length + c.gs + k.ch.length ≤ q ∧ ChainS rn sz N (W.take c.ws) c.b k.ch ∧ ChsS q (W.take c.ws) (G.take c.gs) C0 ks
end
section
variable {rn : ByteArray → Int} {sz : Nat} {N : List Nd}
theorem ChainS.append : ∀ {ks : List Wk} {W : List Wr} {b : Int} (X : List Wr), ChainS rn sz N W b ks → ChainS rn sz N (W ++ X) b ks
  | [], _, _, _, h => h
  | k :: ks, W, b, X, h => by
    obtain ⟨bi, r, h1, h2, h3, h4, h5, h6, h7, h8, h9⟩ := h
    have hb : bi < W.length := (List.getElem?_eq_some_iff.1 h2).1
    refine ⟨bi, r, h1, by rw [List.getElem?_append_left hb]; exact h2, h3, h4, h5, h6, h7, h8, ?_⟩
    rw [List.take_append_of_le_length (by omega)]
    exact h9
theorem ChsS.append : ∀ {ks : List Ch} {W : List Wr} {G : List Gft} {C : List Cr} {q : Nat} (X : List Wr) (Y : List Gft), ChsS rn sz N q W G C ks → ChsS rn sz N q (W ++ X) (G ++ Y) C ks
  | [], _, _, _, _, _, _, h => h
  | k :: ks, W, G, C, q, X, Y, h => by
    obtain ⟨C0, c, h1, h2, h3, h4, h5, h6, h7, h8, h9, h10, h11, h12, h13, h14, h15⟩ := h
    refine ⟨C0, c, h1, h2, h3, h4, h5, h6, by rw [List.length_append]; omega, by rw [List.length_append]; omega, ?_, h10, h11, h12, h13, ?_, ?_⟩
    · rw [List.take_append_of_le_length h8]; exact h9
    · rw [List.take_append_of_le_length h7]; exact h14
    · rw [List.take_append_of_le_length h7, List.take_append_of_le_length h8]; exact h15
theorem ChsS.more : ∀ {ks : List Ch} {W : List Wr} {G : List Gft} {C : List Cr} {q q' : Nat}, q ≤ q' → ChsS rn sz N q W G C ks → ChsS rn sz N q' W G C ks
  | [], _, _, _, _, _, _, h => h
  | k :: ks, W, G, C, q, q', hq, h => by
    obtain ⟨C0, c, h1, h2, h3, h4, h5, h6, h7, h8, h9, h10, h11, h12, h13, h14, h15⟩ := h
    exact ⟨C0, c, h1, h2, h3, h4, h5, h6, h7, h8, h9, h10, h11, h12, by omega, h14, ChsS.more hq h15⟩
theorem ChsS.appendW {ks : List Ch} {W : List Wr} {G : List Gft} {C : List Cr} {q : Nat} (X : List Wr) (h : ChsS rn sz N q W G C ks) : ChsS rn sz N q (W ++ X) G C ks := by
  have := h.append X []
  rwa [List.append_nil] at this
theorem ChsS.appendG {ks : List Ch} {W : List Wr} {G : List Gft} {C : List Cr} {q : Nat} (Y : List Gft) (h : ChsS rn sz N q W G C ks) : ChsS rn sz N q W (G ++ Y) C ks := by
  have := h.append [] Y
  rwa [List.append_nil] at this
theorem ChainS.mono {N' : List Nd} (hsm : Same N N') : ∀ {ks : List Wk} {W : List Wr} {b : Int}, ChainS rn sz N W b ks → ChainS rn sz N' W b ks
  | [], _, _, h => h
  | k :: ks, W, b, h => by
    obtain ⟨bi, r, h1, h2, h3, h4, h5, h6, h7, h8, h9⟩ := h
    refine ⟨bi, r, h1, h2, Lies.mono hsm h3, h4, h5, h6, h7, fun q => ?_, ChainS.mono hsm h9⟩
    obtain ⟨x, q1, q2, q3⟩ := h8 q
    obtain ⟨y, p1, -, -, -, -, -, p7, -⟩ := hsm _ x q1
    exact ⟨y, p1, by rw [p7]; exact q2, q3⟩
theorem ChsS.mono {N' : List Nd} (hsm : Same N N') : ∀ {ks : List Ch} {W : List Wr} {G : List Gft} {C : List Cr} {q : Nat}, ChsS rn sz N q W G C ks → ChsS rn sz N' q W G C ks
  | [], _, _, _, _, h => h
  | k :: ks, W, G, C, q, h => by
    obtain ⟨C0, c, h1, h2, h3, h4, h5, h6, h7, h8, h9, h10, h11, h12, h13, h14, h15⟩ := h
    refine ⟨C0, c, h1, Lies.mono hsm h2, h3, h4, h5, h6, h7, h8, h9, fun q => ?_, h11, h12, h13, ChainS.mono hsm h14, ChsS.mono hsm h15⟩
    obtain ⟨x, q1, q2, q3⟩ := h10 q
    obtain ⟨y, p1, -, -, -, -, -, p7, -⟩ := hsm _ x q1
    exact ⟨y, p1, by rw [p7]; exact q2, q3⟩
end
theorem Same.trans {N N' N2 : List Nd} (h : Same N N') (k : Same N' N2) : Same N N2 := fun i x hx => by
  obtain ⟨y, h1, h2, h3, h4, h5, h6, h7, h8⟩ := h i x hx
  obtain ⟨z, k1, k2, k3, k4, k5, k6, k7, k8⟩ := k i y h1
  exact ⟨z, k1, k2.trans h2, k3.trans h3, k4.trans h4, k5.trans h5, k6.trans h6, k7.trans h7, k8.trans h8⟩
/-- A choice that looks for places and was never gone back to. -/
def fr1 (c : Ch) : Nat := if (c.T.k = 13 ∨ c.T.k = 14 ∨ c.T.k = 7) ∧ c.x = c.i then 1 else 0
def frC : List Ch → Nat
  | [] => 0
  | c :: cs => fr1 c + frC cs
theorem fr1_le (c : Ch) : fr1 c ≤ 1 := by unfold fr1; split <;> omega
theorem fr1_kind {c : Ch} (h : ¬ (c.T.k = 13 ∨ c.T.k = 14 ∨ c.T.k = 7)) : fr1 c = 0 := by unfold fr1; exact if_neg fun q => h q.1
theorem fr1_past {c : Ch} (h : c.x ≠ c.i) : fr1 c = 0 := by unfold fr1; exact if_neg fun q => h q.2
theorem fr1_fresh {c : Ch} (q : c.T.k = 13 ∨ c.T.k = 14 ∨ c.T.k = 7) (h : c.x = c.i) : fr1 c = 1 := by unfold fr1; exact if_pos ⟨q, h⟩
theorem frC_cons (c : Ch) (cs : List Ch) : frC (c :: cs) = fr1 c + frC cs := rfl
/-- On the way to what is behind: what may still be told is paid for, by a coming that was; or it will be by the next one, or by a way, for no work of the chain began where it is. -/
def Paid (t l f k y : Nat) (ch : List Wk) (i : Nat) : Prop := t + l + 300010 * f ≤ 300010 * (2 * k + y) ∨ (t + l + 300010 * f ≤ 300010 * (2 * k + y + 1) ∧ ∀ j ∈ ch, j.i < i)
section
variable {t k y l i : Nat} {cs : List Ch} {ch : List Wk}
theorem pay_same (h : t + 300010 * frC cs ≤ 300010 * (2 * k + y + 1)) : t + 300010 * frC cs ≤ 300010 * (2 * (k + 1) + y + 1) := by omega
theorem pay_same2 (h : t + 300010 * frC cs ≤ 300010 * (2 * k + y + 1)) : t + 300010 * frC cs ≤ 300010 * (2 * (k + 1) + y) := by omega
theorem pay_new (c : Ch) (h : t + 300010 * frC cs ≤ 300010 * (2 * k + y + 1)) : t + 300010 * frC (c :: cs) ≤ 300010 * (2 * (k + 1) + y + 1) := by
  have := fr1_le c
  rw [frC_cons]; omega
theorem pay_new2 (c : Ch) (h : t + 300010 * frC cs ≤ 300010 * (2 * k + y + 1)) : t + 300010 * frC (c :: cs) ≤ 300010 * (2 * (k + 1) + y) := by
  have := fr1_le c
  rw [frC_cons]; omega
theorem pay1_same (hl : l ≤ 300010) (h : t + 300010 * frC cs ≤ 300010 * (2 * k + y + 1)) : Paid t l (frC cs) (k + 1) y ch i := .inl (by omega)
theorem pay1_skip (c : Ch) (hk : ¬ (c.T.k = 13 ∨ c.T.k = 14 ∨ c.T.k = 7)) (hl : l ≤ 300010) (h : t + 300010 * frC cs ≤ 300010 * (2 * k + y + 1)) : Paid t l (frC (c :: cs)) (k + 1) y ch i := .inl (by rw [frC_cons, fr1_kind hk]; omega)
theorem pay_weak (h : t + 300010 * frC cs ≤ 300010 * (2 * k + y)) : t + 300010 * frC cs ≤ 300010 * (2 * k + y + 1) := by omega
theorem pay_gone {c : Ch} (h : t + 300010 * frC (c :: cs) ≤ 300010 * (2 * k + y)) : t + 300010 * frC cs ≤ 300010 * (2 * k + y + 1) := by rw [frC_cons] at h; omega
theorem pay_gone2 {c : Ch} (h : t + 300010 * frC (c :: cs) ≤ 300010 * (2 * k + y)) : t + 300010 * frC cs ≤ 300010 * (2 * k + y) := by rw [frC_cons] at h; omega
theorem pay_turn {c c' : Ch} (hf : fr1 c' = 0) (h : t + 300010 * frC (c :: cs) ≤ 300010 * (2 * k + y)) : t + 300010 * frC (c' :: cs) ≤ 300010 * (2 * k + y + 1) := by
  rw [frC_cons] at h ⊢; omega
theorem pay1_turn {c c' : Ch} (hl : l ≤ 300010) (q : c.T.k = 13 ∨ c.T.k = 14 ∨ c.T.k = 7) (hf : fr1 c' = 0) (hu : c.x ≠ c.i → ∀ j ∈ ch, j.i < i) (h : t + 300010 * frC (c :: cs) ≤ 300010 * (2 * k + y)) : Paid t l (frC (c' :: cs)) k y ch i := by
  rw [frC_cons] at h
  by_cases e : c.x = c.i
  · rw [fr1_fresh q e] at h
    exact .inl (by rw [frC_cons, hf]; omega)
  · exact .inr ⟨by rw [frC_cons, hf]; omega, hu e⟩
theorem Paid.weak (h : Paid t l (frC cs) k y ch i) : t + l + 300010 * frC cs ≤ 300010 * (2 * k + y + 1) := by
  rcases h with h | h <;> omega
theorem Paid.tail {w : Wk} (h : Paid t (l + 1) (frC cs) k y (w :: ch) i) : Paid t l (frC cs) k y ch i := by
  rcases h with h | ⟨h, h2⟩
  · exact .inl (by omega)
  · exact .inr ⟨by omega, fun j hj => h2 j (List.mem_cons_of_mem _ hj)⟩
theorem Paid.tailNew {w : Wk} (c : Ch) (hk : ¬ (c.T.k = 13 ∨ c.T.k = 14 ∨ c.T.k = 7)) (h : Paid t (l + 1) (frC cs) k y (w :: ch) i) : Paid t l (frC (c :: cs)) k y ch i := by
  rw [frC_cons, fr1_kind hk, Nat.zero_add]
  exact h.tail
theorem Paid.told {w : Wk} (h : Paid t (l + 1) (frC cs) k y (w :: ch) i) : Paid (t + 1) l (frC cs) k y ch i := by
  rcases h with h | ⟨h, h2⟩
  · exact .inl (by omega)
  · exact .inr ⟨by omega, fun j hj => h2 j (List.mem_cons_of_mem _ hj)⟩
theorem Paid.here {w : Wk} (h : Paid t (l + 1) (frC cs) k y (w :: ch) i) (e : i = w.i) : t + 300010 * frC cs ≤ 300010 * (2 * k + y) := by
  rcases h with h | ⟨h, h2⟩
  · omega
  · have := h2 w List.mem_cons_self; omega
end
end Go.Proofs.YtkggmodabpjobaaDoor
