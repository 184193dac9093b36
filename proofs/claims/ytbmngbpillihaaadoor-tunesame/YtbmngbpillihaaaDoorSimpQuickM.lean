/- What is behind and where it may go back to, for patterns of any kind. What is simpler stays as it is: plain facts. What is made simpler cannot be made simpler again. How few and how many bytes a pattern matches: what is said of it. All ways of what comes of a pattern end so or so. What is simpler tells the same, in order, and never later: pattern by pattern, by what stands behind. -/
import Derived.Test.YtbmngbpillihaaaDoorScanSimM
import Derived.Test.YtbmngbpillihaaaDoorScanOnly2P
import Derived.Test.YtbmngbpillihaaaDoorScanUntilP
import Derived.Test.YtbmngbpillihaaaDoorPatNamedM
namespace Go.Proofs.YtbmngbpillihaaaDoor
open Go.RowKit

def okS (k : Int) (t : ByteArray) (n : Int) (len : Nat) : Prop :=
  (1 ≤ k ∧ k ≤ 24) ∧ ((k = 1 ∨ (3 ≤ k ∧ k ≤ 7)) → t.size ≤ 65536) ∧ ((k = 2 ∨ (8 ≤ k ∧ k ≤ 11)) → 0 ≤ n ∧ n ≤ 65536) ∧ ((k = 18 ∨ k = 19) → 2 ≤ len) ∧ ((k = 20 ∨ k = 21 ∨ k = 22) → len = 1)
def FineS : PT → Prop
  | .node k t n _ _ _ _ len _ kids => okS k t n len ∧ ∀ j : Fin len, FineS (kids j)
theorem FineS.ok {T : PT} (h : FineS T) : okS T.k T.t T.n T.len := by cases T; exact h.1
theorem FineS.kid {T : PT} (h : FineS T) {j : Nat} (hj : j < T.len) : FineS (T.kid j) := by
  rw [PT.kid_at hj]
  cases T; exact h.2 ⟨j, hj⟩
section
variable (rn : ByteArray → Int) (sz : Nat) (N : List Nd)
def ChainS : List Wr → Int → List Wk → Prop
  | _, b, [] => b = -1
  | W, b, k :: ks => ∃ bi r, b = ((bi : Nat) : Int) ∧ W[bi]? = some r ∧ Lies rn N k.T r.node ∧ FineS k.T ∧ (k.T.k = 18 ∨ k.T.k = 20 ∨ k.T.k = 21 ∨ k.T.k = 22) ∧ r.i = k.i ∧ k.i ≤ sz ∧
      (k.T.k = 18 → ∃ x, N[r.node]? = some x ∧ r.kid = x.fi + k.j ∧ k.j + 1 < k.T.len) ∧ ChainS (W.take bi) r.b ks
def ChsS (q : Nat) : List Wr → List Gft → List Cr → List Ch → Prop
  | _, _, C, [] => C = []
  | W, G, C, k :: ks => ∃ C0 c, C = C0 ++ [c] ∧ Lies rn N k.T c.node ∧ FineS k.T ∧ (k.T.k = 16 ∨ k.T.k = 19 ∨ k.T.k = 20 ∨ k.T.k = 13 ∨ k.T.k = 14 ∨ k.T.k = 7) ∧ c.i = k.i ∧ k.i ≤ sz ∧ c.ws ≤ W.length ∧ c.gs ≤ G.length ∧ G.take c.gs = k.g ∧
      (k.T.k = 19 → ∃ x, N[c.node]? = some x ∧ c.x = ((x.fi + k.x : Nat) : Int) ∧ k.x < k.T.len) ∧ (k.T.k = 13 → c.x = (k.x : Int) ∧ k.x ≤ sz + 1 ∧ k.i ≤ k.x) ∧ ((k.T.k = 14 ∨ k.T.k = 7) → c.x = (k.x : Int) ∧ k.x ≤ sz ∧ k.i ≤ k.x) ∧
      C.length + c.gs + k.ch.length ≤ q ∧ ChainS rn sz N (W.take c.ws) c.b k.ch ∧ ChsS q (W.take c.ws) (G.take c.gs) C0 ks
end
section
variable {rn : ByteArray → Int} {sz : Nat} {N : List Nd}
theorem ChainS.append : ∀ {ks : List Wk} {W : List Wr} {b : Int} (X : List Wr), ChainS rn sz N W b ks → ChainS rn sz N (W ++ X) b ks
  | [], _, _, _, h => h
  | k :: ks, W, b, X, h => by
    obtain ⟨bi, r, h1, h2, h3, h4, h5, h6, h7, h8, h9⟩ := h
    have hb : bi < W.length := (List.getElem?_eq_some_iff.1 h2).1
    refine ⟨bi, r, h1, by rw [List.getElem?_append_left hb]; exact h2, h3, h4, h5, h6, h7, h8, ?_⟩
    rw [List.take_append_of_le_length (by omega)]
    exact h9
theorem ChsS.append : ∀ {ks : List Ch} {W : List Wr} {G : List Gft} {C : List Cr} {q : Nat} (X : List Wr) (Y : List Gft), ChsS rn sz N q W G C ks → ChsS rn sz N q (W ++ X) (G ++ Y) C ks
  | [], _, _, _, _, _, _, h => h
  | k :: ks, W, G, C, q, X, Y, h => by
    obtain ⟨C0, c, h1, h2, h3, h4, h5, h6, h7, h8, h9, h10, h11, h12, h13, h14, h15⟩ := h
    refine ⟨C0, c, h1, h2, h3, h4, h5, h6, by rw [List.length_append]; omega, by rw [List.length_append]; omega, ?_, h10, h11, h12, h13, ?_, ?_⟩
    · rw [List.take_append_of_le_length h8]; exact h9
    · rw [List.take_append_of_le_length h7]; exact h14
    · rw [List.take_append_of_le_length h7, List.take_append_of_le_length h8]; exact h15
theorem ChsS.more : ∀ {ks : List Ch} {W : List Wr} {G : List Gft} {C : List Cr} {q q' : Nat}, q ≤ q' → ChsS rn sz N q W G C ks → ChsS rn sz N q' W G C ks
  | [], _, _, _, _, _, _, h => h
  | k :: ks, W, G, C, q, q', hq, h => by
    obtain ⟨C0, c, h1, h2, h3, h4, h5, h6, h7, h8, h9, h10, h11, h12, h13, h14, h15⟩ := h
    exact ⟨C0, c, h1, h2, h3, h4, h5, h6, h7, h8, h9, h10, h11, h12, by omega, h14, ChsS.more hq h15⟩
theorem ChsS.appendW {ks : List Ch} {W : List Wr} {G : List Gft} {C : List Cr} {q : Nat} (X : List Wr) (h : ChsS rn sz N q W G C ks) : ChsS rn sz N q (W ++ X) G C ks := by
  have := h.append X []
  rwa [List.append_nil] at this
theorem ChsS.appendG {ks : List Ch} {W : List Wr} {G : List Gft} {C : List Cr} {q : Nat} (Y : List Gft) (h : ChsS rn sz N q W G C ks) : ChsS rn sz N q W (G ++ Y) C ks := by
  have := h.append [] Y
  rwa [List.append_nil] at this
theorem ChainS.mono {N' : List Nd} (hsm : Same N N') : ∀ {ks : List Wk} {W : List Wr} {b : Int}, ChainS rn sz N W b ks → ChainS rn sz N' W b ks
  | [], _, _, h => h
  | k :: ks, W, b, h => by
    obtain ⟨bi, r, h1, h2, h3, h4, h5, h6, h7, h8, h9⟩ := h
    refine ⟨bi, r, h1, h2, Lies.mono hsm h3, h4, h5, h6, h7, fun q => ?_, ChainS.mono hsm h9⟩
    obtain ⟨x, q1, q2, q3⟩ := h8 q
    obtain ⟨y, p1, -, -, -, -, -, p7, -⟩ := hsm _ x q1
    exact ⟨y, p1, by rw [p7]; exact q2, q3⟩
theorem ChsS.mono {N' : List Nd} (hsm : Same N N') : ∀ {ks : List Ch} {W : List Wr} {G : List Gft} {C : List Cr} {q : Nat}, ChsS rn sz N q W G C ks → ChsS rn sz N' q W G C ks
  | [], _, _, _, _, h => h
  | k :: ks, W, G, C, q, h => by
    obtain ⟨C0, c, h1, h2, h3, h4, h5, h6, h7, h8, h9, h10, h11, h12, h13, h14, h15⟩ := h
    refine ⟨C0, c, h1, Lies.mono hsm h2, h3, h4, h5, h6, h7, h8, h9, fun q => ?_, h11, h12, h13, ChainS.mono hsm h14, ChsS.mono hsm h15⟩
    obtain ⟨x, q1, q2, q3⟩ := h10 q
    obtain ⟨y, p1, -, -, -, -, -, p7, -⟩ := hsm _ x q1
    exact ⟨y, p1, by rw [p7]; exact q2, q3⟩
end
theorem Same.trans {N N' N2 : List Nd} (h : Same N N') (k : Same N' N2) : Same N N2 := fun i x hx => by
  obtain ⟨y, h1, h2, h3, h4, h5, h6, h7, h8⟩ := h i x hx
  obtain ⟨z, k1, k2, k3, k4, k5, k6, k7, k8⟩ := k i y h1
  exact ⟨z, k1, k2.trans h2, k3.trans h3, k4.trans h4, k5.trans h5, k6.trans h6, k7.trans h7, k8.trans h8⟩
def fr1 (c : Ch) : Nat := if (c.T.k = 13 ∨ c.T.k = 14 ∨ c.T.k = 7) ∧ c.x = c.i then 1 else 0
def frC : List Ch → Nat
  | [] => 0
  | c :: cs => fr1 c + frC cs
theorem fr1_le (c : Ch) : fr1 c ≤ 1 := by unfold fr1; split <;> omega
theorem fr1_kind {c : Ch} (h : ¬ (c.T.k = 13 ∨ c.T.k = 14 ∨ c.T.k = 7)) : fr1 c = 0 := by unfold fr1; exact if_neg fun q => h q.1
theorem fr1_past {c : Ch} (h : c.x ≠ c.i) : fr1 c = 0 := by unfold fr1; exact if_neg fun q => h q.2
theorem fr1_fresh {c : Ch} (q : c.T.k = 13 ∨ c.T.k = 14 ∨ c.T.k = 7) (h : c.x = c.i) : fr1 c = 1 := by unfold fr1; exact if_pos ⟨q, h⟩
theorem frC_cons (c : Ch) (cs : List Ch) : frC (c :: cs) = fr1 c + frC cs := rfl
def Paid (t l f k y : Nat) (ch : List Wk) (i : Nat) : Prop := t + l + 300010 * f ≤ 300010 * (2 * k + y) ∨ (t + l + 300010 * f ≤ 300010 * (2 * k + y + 1) ∧ ∀ j ∈ ch, j.i < i)
section
variable {t k y l i : Nat} {cs : List Ch} {ch : List Wk}
theorem pay_same (h : t + 300010 * frC cs ≤ 300010 * (2 * k + y + 1)) : t + 300010 * frC cs ≤ 300010 * (2 * (k + 1) + y + 1) := by omega
theorem pay_same2 (h : t + 300010 * frC cs ≤ 300010 * (2 * k + y + 1)) : t + 300010 * frC cs ≤ 300010 * (2 * (k + 1) + y) := by omega
theorem pay_new (c : Ch) (h : t + 300010 * frC cs ≤ 300010 * (2 * k + y + 1)) : t + 300010 * frC (c :: cs) ≤ 300010 * (2 * (k + 1) + y + 1) := by
  have := fr1_le c
  rw [frC_cons]; omega
theorem pay_new2 (c : Ch) (h : t + 300010 * frC cs ≤ 300010 * (2 * k + y + 1)) : t + 300010 * frC (c :: cs) ≤ 300010 * (2 * (k + 1) + y) := by
  have := fr1_le c
  rw [frC_cons]; omega
theorem pay1_same (hl : l ≤ 300010) (h : t + 300010 * frC cs ≤ 300010 * (2 * k + y + 1)) : Paid t l (frC cs) (k + 1) y ch i := .inl (by omega)
theorem pay1_skip (c : Ch) (hk : ¬ (c.T.k = 13 ∨ c.T.k = 14 ∨ c.T.k = 7)) (hl : l ≤ 300010) (h : t + 300010 * frC cs ≤ 300010 * (2 * k + y + 1)) : Paid t l (frC (c :: cs)) (k + 1) y ch i := .inl (by rw [frC_cons, fr1_kind hk]; omega)
theorem pay_gone {c : Ch} (h : t + 300010 * frC (c :: cs) ≤ 300010 * (2 * k + y)) : t + 300010 * frC cs ≤ 300010 * (2 * k + y + 1) := by rw [frC_cons] at h; omega
theorem pay_gone2 {c : Ch} (h : t + 300010 * frC (c :: cs) ≤ 300010 * (2 * k + y)) : t + 300010 * frC cs ≤ 300010 * (2 * k + y) := by rw [frC_cons] at h; omega
theorem pay_turn {c c' : Ch} (hf : fr1 c' = 0) (h : t + 300010 * frC (c :: cs) ≤ 300010 * (2 * k + y)) : t + 300010 * frC (c' :: cs) ≤ 300010 * (2 * k + y + 1) := by
  rw [frC_cons] at h ⊢; omega
theorem pay1_turn {c c' : Ch} (hl : l ≤ 300010) (q : c.T.k = 13 ∨ c.T.k = 14 ∨ c.T.k = 7) (hf : fr1 c' = 0) (hu : c.x ≠ c.i → ∀ j ∈ ch, j.i < i) (h : t + 300010 * frC (c :: cs) ≤ 300010 * (2 * k + y)) : Paid t l (frC (c' :: cs)) k y ch i := by
  rw [frC_cons] at h
  by_cases e : c.x = c.i
  · rw [fr1_fresh q e] at h
    exact .inl (by rw [frC_cons, hf]; omega)
  · exact .inr ⟨by rw [frC_cons, hf]; omega, hu e⟩
theorem Paid.weak (h : Paid t l (frC cs) k y ch i) : t + l + 300010 * frC cs ≤ 300010 * (2 * k + y + 1) := by
  rcases h with h | h <;> omega
theorem Paid.tail {w : Wk} (h : Paid t (l + 1) (frC cs) k y (w :: ch) i) : Paid t l (frC cs) k y ch i := by
  rcases h with h | ⟨h, h2⟩
  · exact .inl (by omega)
  · exact .inr ⟨by omega, fun j hj => h2 j (List.mem_cons_of_mem _ hj)⟩
theorem Paid.tailNew {w : Wk} (c : Ch) (hk : ¬ (c.T.k = 13 ∨ c.T.k = 14 ∨ c.T.k = 7)) (h : Paid t (l + 1) (frC cs) k y (w :: ch) i) : Paid t l (frC (c :: cs)) k y ch i := by
  rw [frC_cons, fr1_kind hk, Nat.zero_add]
  exact h.tail
theorem Paid.told {w : Wk} (h : Paid t (l + 1) (frC cs) k y (w :: ch) i) : Paid (t + 1) l (frC cs) k y ch i := by
  rcases h with h | ⟨h, h2⟩
  · exact .inl (by omega)
  · exact .inr ⟨by omega, fun j hj => h2 j (List.mem_cons_of_mem _ hj)⟩
theorem Paid.here {w : Wk} (h : Paid t (l + 1) (frC cs) k y (w :: ch) i) (e : i = w.i) : t + 300010 * frC cs ≤ 300010 * (2 * k + y) := by
  rcases h with h | ⟨h, h2⟩
  · omega
  · have := h2 w List.mem_cons_self; omega
end
end Go.Proofs.YtbmngbpillihaaaDoor

namespace Go.Proofs.YtbmngbpillihaaaDoor
open Go.RowKit

theorem tx_congr {p q : Nat → Bool} : ∀ n, (∀ c, c < n → p c = q c) → tx p n = tx q n
  | 0, _ => rfl
  | n + 1, h => by rw [tx, tx, tx_congr n fun c hc => h c (by omega), h n (by omega)]
theorem mem_tx {p : Nat → Bool} {b : UInt8} : ∀ n, n ≤ 256 → (b ∈ tx p n ↔ b.toNat < n ∧ p b.toNat = true)
  | 0, _ => by simp [tx]
  | n + 1, h => by
    rw [tx, List.mem_append, mem_tx n (by omega)]
    have hof : ∀ c : UInt8, c = UInt8.ofNat n ↔ c.toNat = n := fun c => by
      constructor
      · rintro rfl
        rw [UInt8.toNat_ofNat']; omega
      · rintro rfl
        simp
    by_cases hp : p n = true
    · rw [if_pos hp, List.mem_singleton, hof]
      constructor
      · rintro (⟨h1, h2⟩ | h1)
        · exact ⟨by omega, h2⟩
        · exact ⟨by omega, by rw [h1]; exact hp⟩
      · rintro ⟨h1, h2⟩
        rcases Nat.lt_or_ge b.toNat n with q | q
        · exact .inl ⟨q, h2⟩
        · exact .inr (by omega)
    · rw [if_neg hp]
      constructor
      · rintro (⟨h1, h2⟩ | h1)
        · exact ⟨by omega, h2⟩
        · cases h1
      · rintro ⟨h1, h2⟩
        rcases Nat.lt_or_ge b.toNat n with q | q
        · exact .inl ⟨q, h2⟩
        · exact absurd (show p n = true by rw [show n = b.toNat by omega]; exact h2) hp
theorem inB_iff (t : ByteArray) (c : Nat) : inB t c = true ↔ ∃ b ∈ t.data.toList, b.toNat = c := by
  unfold inB
  rw [List.any_eq_true]
  constructor
  · rintro ⟨b, h1, h2⟩; exact ⟨b, h1, by simpa using h2⟩
  · rintro ⟨b, h1, h2⟩; exact ⟨b, h1, by simpa using h2⟩
theorem inB_txt (p : Nat → Bool) (c : Nat) (h : c < 256) : inB (txt p) c = p c := by
  have e : (txt p).data.toList = tx p 256 := rfl
  cases hp : p c with
  | true =>
    rw [inB_iff, e]
    refine ⟨UInt8.ofNat c, (mem_tx 256 (Nat.le_refl _)).2 ?_, ?_⟩
    · rw [UInt8.toNat_ofNat', Nat.mod_eq_of_lt (by omega)]
      exact ⟨h, hp⟩
    · rw [UInt8.toNat_ofNat', Nat.mod_eq_of_lt (by omega)]
  | false =>
    rw [Bool.eq_false_iff]
    intro q
    rw [inB_iff, e] at q
    obtain ⟨b, h1, h2⟩ := q
    have := ((mem_tx 256 (Nat.le_refl _)).1 h1).2
    rw [h2, hp] at this
    cases this
theorem txt_congr {p q : Nat → Bool} (h : ∀ c, c < 256 → p c = q c) : txt p = txt q := by unfold txt; rw [tx_congr 256 h]
theorem txt_txt (p : Nat → Bool) : txt (inB (txt p)) = txt p := txt_congr fun c h => inB_txt p c h
theorem txt_size (p : Nat → Bool) : (txt p).size = (tx p 256).length := rfl
def Chn (last idle : PT → Bool) (join : PT → PT → Option PT) : List PT → Prop
  | [] => True
  | [x] => idle x = false
  | x :: y :: l => idle x = false ∧ last x = false ∧ join x y = none ∧ Chn last idle join (y :: l)
section
variable {last idle : PT → Bool} {join : PT → PT → Option PT}
theorem Chn.tail {x : PT} : ∀ {l : List PT}, Chn last idle join (x :: l) → Chn last idle join l
  | [], _ => trivial
  | _ :: _, h => h.2.2.2
theorem stay_over : ∀ l, stay last idle true l = []
  | [] => rfl
  | _ :: l => by rw [stay]; exact stay_over l
theorem Chn.stay : ∀ {l : List PT}, Chn last idle join l → stay last idle false l = l
  | [], _ => rfl
  | [x], h => by
    rw [Go.Proofs.YtbmngbpillihaaaDoor.stay, if_neg (by rw [show idle x = false from h]; simp)]
    cases last x <;> rfl
  | x :: y :: l, h => by
    rw [Go.Proofs.YtbmngbpillihaaaDoor.stay, if_neg (by rw [h.1]; simp), h.2.1, Chn.stay h.2.2.2]
theorem Chn.fold : ∀ {l pre : List PT} {x : PT}, Chn last idle join (x :: l) → l.foldl (addP join) (pre ++ [x]) = pre ++ [x] ++ l
  | [], pre, x, _ => by simp
  | y :: l, pre, x, h => by
    rw [List.foldl_cons]
    have : addP join (pre ++ [x]) y = pre ++ [x] ++ [y] := by
      unfold addP
      rw [show (pre ++ [x]).getLast? = some x by simp]
      show (match join x y with | some z => (pre ++ [x]).dropLast ++ [z] | none => pre ++ [x] ++ [y]) = _
      rw [h.2.2.1]
    rw [this, Chn.fold h.2.2.2]
    simp
theorem Chn.few {k : Int} {l : List PT} (h : Chn last idle join l) (hk : ∀ x ∈ l, x.k ≠ k) : fewP k last idle join l = l := by
  have hf : flatK k l = l := by
    unfold flatK
    induction l with
    | nil => rfl
    | cons x l ih =>
      rw [List.flatMap_cons, if_neg (hk x List.mem_cons_self), ih h.tail fun y hy => hk y (List.mem_cons_of_mem _ hy)]
      rfl
  unfold fewP
  rw [hf, h.stay]
  cases l with
  | nil => rfl
  | cons x l => exact Chn.fold (pre := []) h
end

structure NodeS (U : PT) : Prop where
  eq : U = mkP U.k U.t U.n U.nm U.lst
  k1 : U.k = 1 → U.n = 0 ∧ U.nm = ⟨#[]⟩ ∧ U.lst = []
  k3 : U.k = 3 → U.n = 0 ∧ U.nm = ⟨#[]⟩ ∧ U.lst = [] ∧ U.t = txt (inB U.t) ∧ (tx (inB U.t) 256).length ≠ 1
  k4 : U.k = 4 ∨ U.k = 5 ∨ U.k = 6 ∨ U.k = 7 → U.n = 0 ∧ U.nm = ⟨#[]⟩ ∧ U.lst = [] ∧ U.t = txt (inB U.t)
  k2 : U.k = 2 ∨ U.k = 8 ∨ U.k = 9 ∨ U.k = 10 ∨ U.k = 11 → U.t = ⟨#[]⟩ ∧ U.nm = ⟨#[]⟩ ∧ U.lst = [] ∧ (U.k = 2 → 0 < U.n) ∧ (U.k = 9 → U.n ≠ 0)
  k18 : U.k = 18 → U.t = ⟨#[]⟩ ∧ U.n = 0 ∧ U.nm = ⟨#[]⟩ ∧ 2 ≤ U.lst.length ∧ (∀ x ∈ U.lst, x.k ≠ 18) ∧ Chn nev isE behindP U.lst
  k19 : U.k = 19 → U.t = ⟨#[]⟩ ∧ U.n = 0 ∧ U.nm = ⟨#[]⟩ ∧ 2 ≤ U.lst.length ∧ (∀ x ∈ U.lst, x.k ≠ 19) ∧ Chn isA isF eitherP U.lst
  k20 : U.k = 20 → U.t = ⟨#[]⟩ ∧ U.n = 0 ∧ U.nm = ⟨#[]⟩ ∧ (isF (U.lst.getD 0 PT.nul) || isE (U.lst.getD 0 PT.nul)) = false ∧ ¬ ((U.lst.getD 0 PT.nul).k = 2 ∧ (U.lst.getD 0 PT.nul).n = 1)
  k21 : U.k = 21 ∨ U.k = 22 → U.t = ⟨#[]⟩ ∧ U.n = 0 ∧ nev (U.lst.getD 0 PT.nul) = false
  k23 : U.k = 23 ∨ U.k = 24 → U.t = ⟨#[]⟩ ∧ U.n = 0
  rest : 12 ≤ U.k → U.k ≤ 17 → U.t = ⟨#[]⟩ ∧ U.n = 0 ∧ U.nm = ⟨#[]⟩
  rng : 1 ≤ U.k ∧ U.k ≤ 24
def PT.Smq : PT → Prop
  | .node k t n nm xa b o len cap kids => NodeS (.node k t n nm xa b o len cap kids) ∧ ∀ i, PT.Smq (kids i)
structure PT.Smp (U : PT) : Prop where
  all : U.Smq
theorem Smp_iff (U : PT) : U.Smp ↔ NodeS U ∧ ∀ x ∈ U.lst, x.Smp := by
  obtain ⟨k, t, n, nm, xa, b, o, len, cap, kids⟩ := U
  constructor
  · rintro ⟨h1, h2⟩
    refine ⟨h1, fun x hx => ?_⟩
    obtain ⟨i, rfl⟩ := List.mem_ofFn.1 hx
    exact ⟨h2 i⟩
  · rintro ⟨h1, h2⟩
    exact ⟨⟨h1, fun i => (h2 _ (List.mem_ofFn.2 ⟨i, rfl⟩)).all⟩⟩
theorem oneOrP_many {k : Int} {l : List PT} {z : PT} (h : 2 ≤ l.length) : oneOrP k l z = mkP k ⟨#[]⟩ 0 ⟨#[]⟩ l := by
  match l, h with
  | x :: y :: l, _ => rfl
theorem Smp_simp : ∀ U : PT, U.Smp → U.simp = U := mem_lst_ind fun U ih h => by
  obtain ⟨hn, hk⟩ := (Smp_iff U).1 h
  have hm : U.lst.map PT.simp = U.lst := by
    conv => rhs; rw [← List.map_id U.lst]
    exact List.map_congr_left fun x hx => ih x hx (hk x hx)
  rw [PT.simp_eq, hm]
  have hr := hn.rng
  rcases (show U.k = 1 ∨ U.k = 3 ∨ (U.k = 4 ∨ U.k = 5 ∨ U.k = 6 ∨ U.k = 7) ∨ (U.k = 2 ∨ U.k = 8 ∨ U.k = 9 ∨ U.k = 10 ∨ U.k = 11) ∨ U.k = 18 ∨ U.k = 19 ∨ U.k = 20 ∨ (U.k = 21 ∨ U.k = 22) ∨ (U.k = 23 ∨ U.k = 24) ∨ (12 ≤ U.k ∧ U.k ≤ 17) by omega) with q | q | q | q | q | q | q | q | q | q
  · obtain ⟨a1, a2, a3⟩ := hn.k1 q
    rw [simpN, if_pos q]
    conv => rhs; rw [hn.eq, q, a1, a2, a3]
    rfl
  · obtain ⟨a1, a2, a3, a4, a5⟩ := hn.k3 q
    rw [simpN, if_neg (by omega), if_pos q, anyP, if_neg a5, ← a4]
    conv => rhs; rw [hn.eq, q, a1, a2, a3]
  · obtain ⟨a1, a2, a3, a4⟩ := hn.k4 q
    rw [simpN, if_neg (by omega), if_neg (by omega), if_pos q, ← a4]
    conv => rhs; rw [hn.eq, a1, a2, a3]
  · obtain ⟨a1, a2, a3, a4, a5⟩ := hn.k2 q
    rw [simpN, if_neg (by omega), if_neg (by omega), if_neg (by omega), if_pos q, cntP, if_neg (fun z => by have := a4 z.1; omega), if_neg (fun z => a5 z.1 z.2)]
    conv => rhs; rw [hn.eq, a1, a2, a3]
  · obtain ⟨a1, a2, a3, a4, a5, a6⟩ := hn.k18 q
    rw [simpN, if_neg (by omega), if_neg (by omega), if_neg (by omega), if_neg (by omega), if_pos q, catP, a6.few a5, oneOrP_many a4]
    conv => rhs; rw [hn.eq, q, a1, a2, a3]
  · obtain ⟨a1, a2, a3, a4, a5, a6⟩ := hn.k19 q
    rw [simpN, if_neg (by omega), if_neg (by omega), if_neg (by omega), if_neg (by omega), if_neg (by omega), if_pos q, altP, a6.few a5, oneOrP_many a4]
    conv => rhs; rw [hn.eq, q, a1, a2, a3]
  · obtain ⟨a1, a2, a3, a4, a5⟩ := hn.k20 q
    rw [simpN, if_neg (by omega), if_neg (by omega), if_neg (by omega), if_neg (by omega), if_neg (by omega), if_neg (by omega), if_pos q, arbP, if_neg (by rw [a4]; simp), if_neg a5]
    conv => rhs; rw [hn.eq, q, a1, a2, a3]
  · obtain ⟨a1, a2, a3⟩ := hn.k21 q
    rw [simpN, if_neg (by omega), if_neg (by omega), if_neg (by omega), if_neg (by omega), if_neg (by omega), if_neg (by omega), if_neg (by omega), if_pos q, if_neg (by rw [a3]; simp)]
    conv => rhs; rw [hn.eq, a1, a2]
  · obtain ⟨a1, a2⟩ := hn.k23 q
    rw [simpN, if_neg (by omega), if_neg (by omega), if_neg (by omega), if_neg (by omega), if_neg (by omega), if_neg (by omega), if_neg (by omega), if_neg (by omega), if_pos q]
    conv => rhs; rw [hn.eq, a1, a2]
  · obtain ⟨a1, a2, a3⟩ := hn.rest q.1 q.2
    rw [simpN, if_neg (by omega), if_neg (by omega), if_neg (by omega), if_neg (by omega), if_neg (by omega), if_neg (by omega), if_neg (by omega), if_neg (by omega), if_neg (by omega)]
    conv => rhs; rw [hn.eq, a1, a2, a3]
end Go.Proofs.YtbmngbpillihaaaDoor

namespace Go.Proofs.YtbmngbpillihaaaDoor
open Go.RowKit

def Stp (last : PT → Bool) : List PT → Prop
  | [] => True
  | [_] => True
  | x :: y :: l => last x = false ∧ Stp last (y :: l)
section
variable {last idle : PT → Bool} {join : PT → PT → Option PT}
theorem Stp.cons {x : PT} (hx : last x = false) : ∀ {l : List PT}, Stp last l → Stp last (x :: l)
  | [], _ => trivial
  | _ :: _, h => ⟨hx, h⟩
theorem Stp.tail {x : PT} : ∀ {l : List PT}, Stp last (x :: l) → Stp last l
  | [], _ => trivial
  | _ :: _, h => h.2
theorem Stp.head {x : PT} : ∀ {l : List PT}, Stp last (x :: l) → l ≠ [] → last x = false
  | [], _, h => absurd rfl h
  | _ :: _, h, _ => h.1
theorem stay_stp : ∀ l, Stp last (stay last idle false l)
  | [] => trivial
  | p :: l => by
    rw [stay]
    split
    · exact stay_stp l
    · cases hp : last p with
      | true => rw [stay_over]; trivial
      | false => exact Stp.cons hp (stay_stp l)
theorem stay_mem {x : PT} : ∀ {l : List PT}, x ∈ stay last idle false l → x ∈ l ∧ idle x = false
  | [], h => by cases h
  | p :: l, h => by
    rw [stay] at h
    split at h
    · exact ⟨List.mem_cons_of_mem _ (stay_mem h).1, (stay_mem h).2⟩
    · rename_i hp
      rcases List.mem_cons.1 h with rfl | h
      · exact ⟨List.mem_cons_self, by simpa using hp⟩
      · cases hq : last p with
        | true => rw [hq, stay_over] at h; cases h
        | false => rw [hq] at h; exact ⟨List.mem_cons_of_mem _ (stay_mem h).1, (stay_mem h).2⟩
theorem Chn.snoc {p : PT} (hp : idle p = false) : ∀ {out : List PT}, Chn last idle join out → (∀ x, out.getLast? = some x → last x = false ∧ join x p = none) → Chn last idle join (out ++ [p])
  | [], _, _ => hp
  | [x], h, hl => by
    obtain ⟨a, b⟩ := hl x rfl
    exact ⟨h, a, b, hp⟩
  | x :: y :: l, h, hl => ⟨h.1, h.2.1, h.2.2.1, Chn.snoc hp h.2.2.2 fun z hz => hl z (by rw [List.getLast?_cons_cons]; exact hz)⟩
theorem Chn.swap {x y : PT} (hy : idle y = false) : ∀ {out : List PT}, Chn last idle join (out ++ [x]) → (∀ a, a ∈ out → join a x = none → join a y = none) → Chn last idle join (out ++ [y])
  | [], _, _ => hy
  | [a], h, hl => ⟨h.1, h.2.1, hl a List.mem_cons_self h.2.2.1, hy⟩
  | _ :: b :: l, h, hl => ⟨h.1, h.2.1, h.2.2.1, Chn.swap (out := b :: l) hy h.2.2.2 fun z hz => hl z (List.mem_cons_of_mem _ hz)⟩
theorem fold_chn {good : PT → Prop} (hi : ∀ x, good x → idle x = false) (hJ : ∀ a x p y, good a → good x → good p → join a x = none → join x p = some y → join a y = none) (hg : ∀ x p y, good x → good p → join x p = some y → good y ∧ last y = false) :
    ∀ (L out : List PT), (∀ x ∈ L, good x) → (∀ x ∈ out, good x) → Chn last idle join out → (∀ x, out.getLast? = some x → L ≠ [] → last x = false) → Stp last L → Chn last idle join (L.foldl (addP join) out) ∧ ∀ x ∈ L.foldl (addP join) out, good x
  | [], out, _, ho, hc, _, _ => ⟨hc, ho⟩
  | p :: L, out, hL, ho, hc, hl, hs => by
    rw [List.foldl_cons]
    have hp := hL p List.mem_cons_self
    have hL' : ∀ x ∈ L, good x := fun x hx => hL x (List.mem_cons_of_mem _ hx)
    have hpl : L ≠ [] → last p = false := fun h => hs.head h
    rcases List.eq_nil_or_concat out with rfl | ⟨pre, x, rfl⟩
    · have e : addP join [] p = [p] := rfl
      rw [e]
      refine fold_chn hi hJ hg L [p] hL' (fun x hx => by rw [List.mem_singleton.1 hx]; exact hp) (hi p hp) (fun x hx h => ?_) hs.tail
      have : x = p := by simpa using hx.symm
      rw [this]; exact hpl h
    · have hgl : (pre.concat x).getLast? = some x := by simp
      have hx : good x := ho x (by simp)
      have hpre : ∀ a ∈ pre, good a := fun a ha => ho a (by simp [ha])
      have hlx := hl x hgl (by simp)
      rw [List.concat_eq_append] at *
      cases hj : join x p with
      | some y =>
        have e : addP join (pre ++ [x]) p = pre ++ [y] := by
          unfold addP
          rw [hgl]
          show (match join x p with | some z => (pre ++ [x]).dropLast ++ [z] | none => pre ++ [x] ++ [p]) = _
          rw [hj]
          simp
        obtain ⟨gy, ly⟩ := hg x p y hx hp hj
        rw [e]
        refine fold_chn hi hJ hg L (pre ++ [y]) hL' (fun z hz => ?_) (Chn.swap (hi y gy) hc fun a ha h => hJ a x p y (hpre a ha) hx hp h hj) (fun z hz _ => ?_) hs.tail
        · rcases List.mem_append.1 hz with h | h
          · exact hpre z h
          · rw [List.mem_singleton.1 h]; exact gy
        · have : z = y := by simpa using hz.symm
          rw [this]; exact ly
      | none =>
        have e : addP join (pre ++ [x]) p = pre ++ [x] ++ [p] := by
          unfold addP
          rw [hgl]
          show (match join x p with | some z => (pre ++ [x]).dropLast ++ [z] | none => pre ++ [x] ++ [p]) = _
          rw [hj]
        rw [e]
        refine fold_chn hi hJ hg L (pre ++ [x] ++ [p]) hL' (fun z hz => ?_) (Chn.snoc (hi p hp) hc fun z hz => ?_) (fun z hz h => ?_) hs.tail
        · rcases List.mem_append.1 hz with h | h
          · exact ho z h
          · rw [List.mem_singleton.1 h]; exact hp
        · have : z = x := by simpa using hz.symm
          rw [this]; exact ⟨hlx, hj⟩
        · have : z = p := by simpa using hz.symm
          rw [this]; exact hpl h
end

theorem mkP_node {k : Int} {t : ByteArray} {n : Int} {nm : ByteArray} {l : List PT} : mkP k t n nm l = mkP (mkP k t n nm l).k (mkP k t n nm l).t (mkP k t n nm l).n (mkP k t n nm l).nm (mkP k t n nm l).lst := by rw [mkP_lst]; rfl
theorem smp_leaf {k : Int} {t : ByteArray} {n : Int} {nm : ByteArray} (h : NodeS (mkP k t n nm [])) : (mkP k t n nm []).Smp := (Smp_iff _).2 ⟨h, fun x hx => by rw [mkP_lst] at hx; cases hx⟩
theorem smp_lit (t : ByteArray) : (litP t).Smp := smp_leaf ⟨mkP_node, fun _ => ⟨rfl, rfl, mkP_lst ..⟩, fun h => absurd (show (1 : Int) = 3 from h) (by decide), fun h => absurd (show (1 : Int) = 4 ∨ (1 : Int) = 5 ∨ (1 : Int) = 6 ∨ (1 : Int) = 7 from h) (by decide), fun h => absurd (show (1 : Int) = 2 ∨ (1 : Int) = 8 ∨ (1 : Int) = 9 ∨ (1 : Int) = 10 ∨ (1 : Int) = 11 from h) (by decide), fun h => absurd (show (1 : Int) = 18 from h) (by decide), fun h => absurd (show (1 : Int) = 19 from h) (by decide), fun h => absurd (show (1 : Int) = 20 from h) (by decide), fun h => absurd (show (1 : Int) = 21 ∨ (1 : Int) = 22 from h) (by decide), fun h => absurd (show (1 : Int) = 23 ∨ (1 : Int) = 24 from h) (by decide), fun h _ => absurd (show (12 : Int) ≤ 1 from h) (by decide), by show (1 : Int) ≤ 1 ∧ (1 : Int) ≤ 24; decide⟩
theorem nodeS_of {k : Int} {t : ByteArray} {n : Int} {nm : ByteArray} {l : List PT} (hr : 1 ≤ k ∧ k ≤ 24) (k1 : k = 1 → n = 0 ∧ nm = ⟨#[]⟩ ∧ l = []) (k3 : k = 3 → n = 0 ∧ nm = ⟨#[]⟩ ∧ l = [] ∧ t = txt (inB t) ∧ (tx (inB t) 256).length ≠ 1)
    (k4 : k = 4 ∨ k = 5 ∨ k = 6 ∨ k = 7 → n = 0 ∧ nm = ⟨#[]⟩ ∧ l = [] ∧ t = txt (inB t)) (k2 : k = 2 ∨ k = 8 ∨ k = 9 ∨ k = 10 ∨ k = 11 → t = ⟨#[]⟩ ∧ nm = ⟨#[]⟩ ∧ l = [] ∧ (k = 2 → 0 < n) ∧ (k = 9 → n ≠ 0))
    (k18 : k = 18 → t = ⟨#[]⟩ ∧ n = 0 ∧ nm = ⟨#[]⟩ ∧ 2 ≤ l.length ∧ (∀ x ∈ l, x.k ≠ 18) ∧ Chn nev isE behindP l) (k19 : k = 19 → t = ⟨#[]⟩ ∧ n = 0 ∧ nm = ⟨#[]⟩ ∧ 2 ≤ l.length ∧ (∀ x ∈ l, x.k ≠ 19) ∧ Chn isA isF eitherP l)
    (k20 : k = 20 → t = ⟨#[]⟩ ∧ n = 0 ∧ nm = ⟨#[]⟩ ∧ (isF (l.getD 0 PT.nul) || isE (l.getD 0 PT.nul)) = false ∧ ¬ ((l.getD 0 PT.nul).k = 2 ∧ (l.getD 0 PT.nul).n = 1)) (k21 : k = 21 ∨ k = 22 → t = ⟨#[]⟩ ∧ n = 0 ∧ nev (l.getD 0 PT.nul) = false) (k23 : k = 23 ∨ k = 24 → t = ⟨#[]⟩ ∧ n = 0) (rest : 12 ≤ k → k ≤ 17 → t = ⟨#[]⟩ ∧ n = 0 ∧ nm = ⟨#[]⟩) (hl : ∀ x ∈ l, x.Smp) : (mkP k t n nm l).Smp := by
  refine (Smp_iff _).2 ⟨⟨mkP_node, ?_, ?_, ?_, ?_, ?_, ?_, ?_, ?_, k23, rest, hr⟩, fun x hx => hl x (by rw [mkP_lst] at hx; exact hx)⟩
  · rw [mkP_lst]; exact k1
  · rw [mkP_lst]; exact k3
  · rw [mkP_lst]; exact k4
  · rw [mkP_lst]; exact k2
  · rw [mkP_lst]; exact k18
  · rw [mkP_lst]; exact k19
  · rw [mkP_lst]; exact k20
  · rw [mkP_lst]; exact k21
set_option maxRecDepth 100000 in
theorem smp_any (p : Nat → Bool) : (anyP p).Smp := by
  unfold anyP
  by_cases h : (tx p 256).length = 1
  · rw [if_pos h]
    exact smp_lit _
  · rw [if_neg h]
    have h' : (tx (inB (txt p)) 256).length ≠ 1 := by rw [tx_congr 256 fun c hc => inB_txt p c hc]; exact h
    have ht := txt_txt p
    generalize txt p = t at h' ht ⊢
    exact nodeS_of (by decide) (by omega) (fun _ => ⟨rfl, rfl, rfl, ht.symm, h'⟩) (by omega) (by omega) (by omega) (by omega) (by omega) (by omega) (by omega) (by omega) (fun _ hx => by cases hx)
theorem smp_cnt {k n : Int} (hk : k = 2 ∨ k = 8 ∨ k = 9 ∨ k = 10 ∨ k = 11) (hn : 0 ≤ n) : (cntP k n).Smp := by
  unfold cntP
  split
  · exact smp_lit _
  · rename_i h1
    split
    · exact nodeS_of (by decide) (by omega) (by omega) (by omega) (by omega) (by omega) (by omega) (by omega) (by omega) (by omega) (fun _ _ => ⟨rfl, rfl, rfl⟩) (fun _ hx => by cases hx)
    · rename_i h2
      exact nodeS_of (by omega) (by omega) (by omega) (by omega) (fun _ => ⟨rfl, rfl, rfl, fun z => by omega, fun z y => h2 ⟨z, y⟩⟩) (by omega) (by omega) (by omega) (by omega) (by omega) (by omega) (fun _ hx => by cases hx)
set_option maxRecDepth 100000 in
theorem any_k (p : Nat → Bool) : ((anyP p).k = 1 ∧ (anyP p).t.size = 1) ∨ (anyP p).k = 3 := by
  unfold anyP
  by_cases h : (tx p 256).length = 1
  · rw [if_pos h]
    exact .inl ⟨rfl, h⟩
  · rw [if_neg h]
    exact .inr rfl
set_option maxRecDepth 100000 in
theorem any_t (p : Nat → Bool) : (anyP p).t = txt p := by
  unfold anyP
  by_cases h : (tx p 256).length = 1
  · rw [if_pos h]; rfl
  · rw [if_neg h]; rfl
theorem any_one (p : Nat → Bool) : oneB (anyP p) = true := by
  unfold oneB
  rcases any_k p with ⟨h1, h2⟩ | h
  · rw [h1, h2]; rfl
  · rw [h]; rfl
def G18 (x : PT) : Prop := x.Smp ∧ x.k ≠ 18 ∧ isE x = false
def G19 (x : PT) : Prop := x.Smp ∧ x.k ≠ 19 ∧ isF x = false
theorem behind_some {x p y : PT} (h : behindP x p = some y) : (x.k = 1 ∧ p.k = 1 ∧ x.t.size + p.t.size ≤ 65536 ∧ y = litP (x.t ++ p.t)) ∨ (x.k = 2 ∧ p.k = 2 ∧ x.n + p.n ≤ 65536 ∧ y = cntP 2 (x.n + p.n)) := by
  unfold behindP at h
  by_cases h1 : x.k ≠ p.k
  · rw [if_pos h1] at h; cases h
  · rw [if_neg h1] at h
    have h1 : x.k = p.k := Classical.not_not.1 h1
    by_cases h2 : x.k = 1 ∧ x.t.size + p.t.size ≤ 65536
    · rw [if_pos h2] at h
      exact .inl ⟨h2.1, by omega, h2.2, (Option.some.inj h).symm⟩
    · rw [if_neg h2] at h
      by_cases h3 : x.k = 2 ∧ x.n + p.n ≤ 65536
      · rw [if_pos h3] at h
        exact .inr ⟨h3.1, by omega, h3.2, (Option.some.inj h).symm⟩
      · rw [if_neg h3] at h; cases h
theorem isE_not {x : PT} (h : isE x = false) (hk : x.k = 1) : 0 < x.t.size := by
  unfold isE at h
  rw [decide_eq_true hk, Bool.true_and] at h
  have := of_decide_eq_false h
  omega
theorem cnt_two {n : Int} (h : 0 < n) : cntP 2 n = mkP 2 ⟨#[]⟩ n ⟨#[]⟩ [] := by
  unfold cntP
  rw [if_neg (by omega), if_neg (by omega)]
theorem len_pos {x : PT} (h : x.Smp) (hk : x.k = 2) : 0 < x.n := (((Smp_iff x).1 h).1.k2 (.inl hk)).2.2.2.1 hk
theorem behind_good (x p y : PT) (hx : G18 x) (hp : G18 p) (h : behindP x p = some y) : G18 y ∧ nev y = false := by
  rcases behind_some h with ⟨h1, h2, h3, rfl⟩ | ⟨h1, h2, h3, rfl⟩
  · have := isE_not hx.2.2 h1
    refine ⟨⟨smp_lit _, by show (1 : Int) ≠ 18; decide, ?_⟩, rfl⟩
    unfold isE
    have hs : (litP (x.t ++ p.t)).t.size = x.t.size + p.t.size := ByteArray.size_append ..
    rw [hs, decide_eq_false (show ¬ x.t.size + p.t.size = 0 by omega), Bool.and_false]
  · have a1 := len_pos hx.1 h1
    have a2 := len_pos hp.1 h2
    rw [cnt_two (by omega)]
    exact ⟨⟨by rw [← cnt_two (show 0 < x.n + p.n by omega)]; exact smp_cnt (.inl rfl) (by omega), by show (2 : Int) ≠ 18; decide, rfl⟩, rfl⟩
theorem behind_back (a x p y : PT) (_ : G18 a) (hx : G18 x) (hp : G18 p) (h : behindP a x = none) (hj : behindP x p = some y) : behindP a y = none := by
  unfold behindP at h ⊢
  rcases behind_some hj with ⟨h1, h2, h3, rfl⟩ | ⟨h1, h2, h3, rfl⟩
  · have hk : (litP (x.t ++ p.t)).k = 1 := rfl
    have hs : (litP (x.t ++ p.t)).t.size = x.t.size + p.t.size := ByteArray.size_append ..
    rw [hk, hs]
    rw [h1] at h
    by_cases q : a.k ≠ 1
    · rw [if_pos q]
    · rw [if_neg q] at h ⊢
      have q : a.k = 1 := Classical.not_not.1 q
      by_cases z : a.t.size + x.t.size ≤ 65536
      · rw [if_pos ⟨q, z⟩] at h; cases h
      · rw [if_neg (fun e => z (by omega)), if_neg (by omega)]
  · have a1 := len_pos hx.1 h1
    have a2 := len_pos hp.1 h2
    rw [cnt_two (by omega)]
    rw [h1] at h
    show (if a.k ≠ 2 then none else if a.k = 1 ∧ a.t.size + 0 ≤ 65536 then _ else if a.k = 2 ∧ a.n + (x.n + p.n) ≤ 65536 then _ else none) = none
    by_cases q : a.k ≠ 2
    · rw [if_pos q]
    · rw [if_neg q] at h ⊢
      have q : a.k = 2 := Classical.not_not.1 q
      rw [if_neg (by omega)] at h ⊢
      by_cases z : a.n + x.n ≤ 65536
      · rw [if_pos ⟨q, z⟩] at h; cases h
      · rw [if_neg (fun e => z (by omega))]
set_option maxRecDepth 100000 in
theorem either_some {x p y : PT} (h : eitherP x p = some y) : oneB x = true ∧ oneB p = true ∧ y = anyP (fun c => inB x.t c || inB p.t c) := by
  unfold eitherP at h
  by_cases h1 : (oneB x && oneB p) = false
  · rw [if_pos h1] at h; cases h
  · rw [if_neg h1] at h
    have h1 : (oneB x && oneB p) = true := by simpa using h1
    rw [Bool.and_eq_true] at h1
    by_cases h2 : (tx (fun c => inB x.t c && inB p.t c) 256).isEmpty = true
    · rw [if_pos h2] at h
      exact ⟨h1.1, h1.2, (Option.some.inj h).symm⟩
    · rw [if_neg h2] at h; cases h
set_option maxRecDepth 100000 in
theorem either_good (x p y : PT) (_ : G19 x) (_ : G19 p) (h : eitherP x p = some y) : G19 y ∧ isA y = false := by
  obtain ⟨-, -, e⟩ := either_some h
  rw [e]
  have hk := any_k fun c => inB x.t c || inB p.t c
  refine ⟨⟨smp_any _, by omega, ?_⟩, ?_⟩
  · unfold isF; exact decide_eq_false (by omega)
  · unfold isA; exact decide_eq_false (by omega)
set_option maxRecDepth 100000 in
theorem tx_empty {p : Nat → Bool} : (tx p 256).isEmpty = true ↔ ∀ c, c < 256 → p c = false := by
  constructor
  · intro h c hc
    have h0 : tx p 256 = [] := List.isEmpty_iff.1 h
    cases hp : p c with
    | false => rfl
    | true =>
      have : UInt8.ofNat c ∈ tx p 256 := (mem_tx 256 (Nat.le_refl _)).2 (by rw [UInt8.toNat_ofNat', Nat.mod_eq_of_lt (by omega)]; exact ⟨hc, hp⟩)
      rw [h0] at this
      cases this
  · intro h
    rw [List.isEmpty_iff, List.eq_nil_iff_forall_not_mem]
    intro b hb
    obtain ⟨h1, h2⟩ := (mem_tx 256 (Nat.le_refl _)).1 hb
    rw [h _ h1] at h2
    cases h2
set_option maxRecDepth 100000 in
theorem either_back (a x p y : PT) (_ : G19 a) (_ : G19 x) (_ : G19 p) (h : eitherP a x = none) (hj : eitherP x p = some y) : eitherP a y = none := by
  obtain ⟨h1, h2, e⟩ := either_some hj
  rw [e]
  unfold eitherP at h ⊢
  rw [any_one, Bool.and_true]
  rw [h1, Bool.and_true] at h
  by_cases q : oneB a = false
  · rw [if_pos q]
  · rw [if_neg q] at h ⊢
    by_cases z : (tx (fun c => inB a.t c && inB x.t c) 256).isEmpty = true
    · rw [if_pos z] at h; cases h
    · rw [if_neg]
      intro e
      apply z
      rw [tx_empty] at e ⊢
      intro c hc
      have := e c hc
      rw [any_t, inB_txt _ c hc] at this
      cases ha : inB a.t c with
      | false => rfl
      | true =>
        rw [ha, Bool.true_and] at this
        rw [Bool.true_and]
        cases hx : inB x.t c with
        | false => rfl
        | true => rw [hx] at this; cases this
theorem flatK_mem {k : Int} {l : List PT} {x : PT} (h : x ∈ flatK k l) : (x ∈ l ∧ x.k ≠ k) ∨ ∃ p ∈ l, p.k = k ∧ x ∈ p.lst := by
  unfold flatK at h
  obtain ⟨p, hp, hx⟩ := List.mem_flatMap.1 h
  by_cases q : p.k = k
  · rw [if_pos q] at hx
    exact .inr ⟨p, hp, q, hx⟩
  · rw [if_neg q, List.mem_singleton] at hx
    exact .inl ⟨hx ▸ hp, hx ▸ q⟩
theorem smp_cat {l : List PT} (hl : ∀ x ∈ l, x.Smp) : (catP l).Smp := by
  have hg : ∀ x ∈ stay nev isE false (flatK 18 l), G18 x := fun x hx => by
    obtain ⟨h1, h2⟩ := stay_mem hx
    rcases flatK_mem h1 with ⟨h3, h4⟩ | ⟨p, hp, hk, hx⟩
    · exact ⟨hl x h3, h4, h2⟩
    · obtain ⟨n1, n2⟩ := (Smp_iff p).1 (hl p hp)
      exact ⟨n2 x hx, (n1.k18 hk).2.2.2.2.1 x hx, h2⟩
  obtain ⟨hc, hG⟩ := fold_chn (good := G18) (fun x h => h.2.2) behind_back behind_good _ [] hg (fun x hx => by cases hx) trivial (fun x hx => by cases hx) (stay_stp (flatK 18 l))
  have e : catP l = oneOrP 18 ((stay nev isE false (flatK 18 l)).foldl (addP behindP) []) (litP ⟨#[]⟩) := rfl
  rw [e]
  generalize (stay nev isE false (flatK 18 l)).foldl (addP behindP) [] = R at hc hG
  match R, hc, hG with
  | [], _, _ => exact smp_lit _
  | [x], _, hG => exact (hG x List.mem_cons_self).1
  | x :: y :: R, hc, hG => exact nodeS_of (by decide) (by omega) (by omega) (by omega) (by omega) (fun _ => ⟨rfl, rfl, rfl, by simp, fun z hz => (hG z hz).2.1, hc⟩) (by omega) (by omega) (by omega) (by omega) (by omega) (fun z hz => (hG z hz).1)
theorem smp_fail : (mkP 15 ⟨#[]⟩ 0 ⟨#[]⟩ []).Smp := nodeS_of (by decide) (by omega) (by omega) (by omega) (by omega) (by omega) (by omega) (by omega) (by omega) (by omega) (fun _ _ => ⟨rfl, rfl, rfl⟩) (fun _ hx => by cases hx)
theorem smp_alt {l : List PT} (hl : ∀ x ∈ l, x.Smp) : (altP l).Smp := by
  have hg : ∀ x ∈ stay isA isF false (flatK 19 l), G19 x := fun x hx => by
    obtain ⟨h1, h2⟩ := stay_mem hx
    rcases flatK_mem h1 with ⟨h3, h4⟩ | ⟨p, hp, hk, hx⟩
    · exact ⟨hl x h3, h4, h2⟩
    · obtain ⟨n1, n2⟩ := (Smp_iff p).1 (hl p hp)
      exact ⟨n2 x hx, (n1.k19 hk).2.2.2.2.1 x hx, h2⟩
  obtain ⟨hc, hG⟩ := fold_chn (good := G19) (fun x h => h.2.2) either_back either_good _ [] hg (fun x hx => by cases hx) trivial (fun x hx => by cases hx) (stay_stp (flatK 19 l))
  have e : altP l = oneOrP 19 ((stay isA isF false (flatK 19 l)).foldl (addP eitherP) []) (mkP 15 ⟨#[]⟩ 0 ⟨#[]⟩ []) := rfl
  rw [e]
  generalize (stay isA isF false (flatK 19 l)).foldl (addP eitherP) [] = R at hc hG
  match R, hc, hG with
  | [], _, _ => exact smp_fail
  | [x], _, hG => exact (hG x List.mem_cons_self).1
  | x :: y :: R, hc, hG => exact nodeS_of (by decide) (by omega) (by omega) (by omega) (by omega) (by omega) (fun _ => ⟨rfl, rfl, rfl, by simp, fun z hz => (hG z hz).2.1, hc⟩) (by omega) (by omega) (by omega) (by omega) (fun z hz => (hG z hz).1)
set_option maxRecDepth 100000 in
theorem simp_smp : ∀ T : PT, FineS T → T.simp.Smp := mem_lst_ind fun T ih hT => by
  have ho := hT.ok
  have hk : ∀ x ∈ T.lst.map PT.simp, x.Smp := fun x hx => by
    obtain ⟨y, hy, rfl⟩ := List.mem_map.1 hx
    obtain ⟨i, hi⟩ := List.mem_iff_getElem?.1 hy
    have hlt : i < T.len := by have := (List.getElem?_eq_some_iff.1 hi).1; rwa [PT.lst_len] at this
    rw [PT.lst_at hlt] at hi
    refine ih y hy ?_
    rw [← Option.some.inj hi]
    exact hT.kid hlt
  rw [PT.simp_eq]
  have hr := ho.1
  generalize T.lst.map PT.simp = l at hk
  rcases (show T.k = 1 ∨ T.k = 3 ∨ (T.k = 4 ∨ T.k = 5 ∨ T.k = 6 ∨ T.k = 7) ∨ (T.k = 2 ∨ T.k = 8 ∨ T.k = 9 ∨ T.k = 10 ∨ T.k = 11) ∨ T.k = 18 ∨ T.k = 19 ∨ T.k = 20 ∨ (T.k = 21 ∨ T.k = 22) ∨ (T.k = 23 ∨ T.k = 24) ∨ (12 ≤ T.k ∧ T.k ≤ 17) by omega) with q | q | q | q | q | q | q | q | q | q
  · rw [simpN, if_pos q]; exact smp_lit _
  · rw [simpN, if_neg (by omega), if_pos q]; exact smp_any _
  · rw [simpN, if_neg (by omega), if_neg (by omega), if_pos q]
    have ht := txt_txt (inB T.t)
    generalize txt (inB T.t) = t at ht ⊢
    exact nodeS_of hr (by omega) (by omega) (fun _ => ⟨rfl, rfl, rfl, ht.symm⟩) (by omega) (by omega) (by omega) (by omega) (by omega) (by omega) (by omega) (fun _ hx => by cases hx)
  · rw [simpN, if_neg (by omega), if_neg (by omega), if_neg (by omega), if_pos q]
    exact smp_cnt q (ho.2.2.1 (by omega)).1
  · rw [simpN, if_neg (by omega), if_neg (by omega), if_neg (by omega), if_neg (by omega), if_pos q]; exact smp_cat hk
  · rw [simpN, if_neg (by omega), if_neg (by omega), if_neg (by omega), if_neg (by omega), if_neg (by omega), if_pos q]; exact smp_alt hk
  · rw [simpN, if_neg (by omega), if_neg (by omega), if_neg (by omega), if_neg (by omega), if_neg (by omega), if_neg (by omega), if_pos q, arbP]
    by_cases z : (isF (l.getD 0 PT.nul) || isE (l.getD 0 PT.nul)) = true
    · rw [if_pos z]; exact smp_lit _
    · rw [if_neg z]
      by_cases z2 : (l.getD 0 PT.nul).k = 2 ∧ (l.getD 0 PT.nul).n = 1
      · rw [if_pos z2]
        exact nodeS_of (by decide) (by omega) (by omega) (by omega) (by omega) (by omega) (by omega) (by omega) (by omega) (by omega) (fun _ _ => ⟨rfl, rfl, rfl⟩) (fun _ hx => by cases hx)
      · rw [if_neg z2]
        exact nodeS_of (by decide) (by omega) (by omega) (by omega) (by omega) (by omega) (by omega) (fun _ => ⟨rfl, rfl, rfl, by simpa using z, z2⟩) (by omega) (by omega) (by omega) hk
  · rw [simpN, if_neg (by omega), if_neg (by omega), if_neg (by omega), if_neg (by omega), if_neg (by omega), if_neg (by omega), if_neg (by omega), if_pos q]
    have hl1 := ho.2.2.2.2 (by omega)
    by_cases z : nev (l.getD 0 PT.nul) = true
    · rw [if_pos z]
      cases l with
      | nil => exact absurd z (by decide)
      | cons x l => exact hk x List.mem_cons_self
    · rw [if_neg z]
      exact nodeS_of hr (by omega) (by omega) (by omega) (by omega) (by omega) (by omega) (by omega) (fun _ => ⟨rfl, rfl, by simpa using z⟩) (by omega) (by omega) hk
  · rw [simpN, if_neg (by omega), if_neg (by omega), if_neg (by omega), if_neg (by omega), if_neg (by omega), if_neg (by omega), if_neg (by omega), if_neg (by omega), if_pos q]
    exact nodeS_of hr (by omega) (by omega) (by omega) (by omega) (by omega) (by omega) (by omega) (by omega) (fun _ => ⟨rfl, rfl⟩) (by omega) hk
  · rw [simpN, if_neg (by omega), if_neg (by omega), if_neg (by omega), if_neg (by omega), if_neg (by omega), if_neg (by omega), if_neg (by omega), if_neg (by omega), if_neg (by omega)]
    exact nodeS_of hr (by omega) (by omega) (by omega) (by omega) (by omega) (by omega) (by omega) (by omega) (by omega) (fun _ _ => ⟨rfl, rfl, rfl⟩) hk
theorem simp_twice {T : PT} (h : FineS T) : T.simp.simp = T.simp := Smp_simp _ (simp_smp T h)
end Go.Proofs.YtbmngbpillihaaaDoor

namespace Go.Proofs.YtbmngbpillihaaaDoor
open Go.RowKit

abbrev Ex := Bool × Int × Int
def exNo : Ex := (false, 0, 0)
def exCat (a b : Ex) : Ex := if a.1 = false ∨ b.1 = false then exNo else (true, min (a.2.1 + b.2.1) 65537, if a.2.2 = -1 ∨ b.2.2 = -1 ∨ 65536 < a.2.2 + b.2.2 then -1 else a.2.2 + b.2.2)
def exAlt (a b : Ex) : Ex := if b.1 = false then a else if a.1 = false then b else (true, min a.2.1 b.2.1, if a.2.2 = -1 ∨ b.2.2 = -1 then -1 else max a.2.2 b.2.2)
def catTo (f : Nat → Ex) : Nat → Ex
  | 0 => (true, 0, 0)
  | n + 1 => exCat (catTo f n) (f n)
def altTo (f : Nat → Ex) : Nat → Ex
  | 0 => exNo
  | n + 1 => exAlt (altTo f n) (f n)
def exOne (f : Nat → Ex) (len : Nat) : Ex := if len = 0 then exNo else f 0
def exN (k n : Int) (t : Nat) (f : Nat → Ex) (len : Nat) : Ex :=
  if k = 1 then (true, (t : Int), (t : Int))
  else if k = 2 then (true, n, n)
  else if k = 3 ∨ k = 4 then (true, 1, 1)
  else if k = 5 ∨ k = 14 then (true, 1, -1)
  else if k = 10 ∨ k = 11 ∨ k = 16 ∨ k = 23 then (true, 0, 0)
  else if k = 15 ∨ k = 17 then exNo
  else if k = 18 then catTo f len
  else if k = 19 then altTo f len
  else if k = 21 ∨ k = 22 then exOne f len
  else if k = 20 then (if (exOne f len).1 = false ∨ (exOne f len).2.2 = 0 then (true, 0, 0) else (true, 0, -1))
  else (true, 0, -1)
theorem catTo_congr {f g : Nat → Ex} : ∀ n, (∀ i, i < n → f i = g i) → catTo f n = catTo g n
  | 0, _ => rfl
  | n + 1, h => by rw [catTo, catTo, catTo_congr n fun i hi => h i (by omega), h n (by omega)]
theorem altTo_congr {f g : Nat → Ex} : ∀ n, (∀ i, i < n → f i = g i) → altTo f n = altTo g n
  | 0, _ => rfl
  | n + 1, h => by rw [altTo, altTo, altTo_congr n fun i hi => h i (by omega), h n (by omega)]
theorem exN_congr {f g : Nat → Ex} (k n : Int) (t len : Nat) (h : ∀ i, i < len → f i = g i) : exN k n t f len = exN k n t g len := by
  have h1 : exOne f len = exOne g len := by
    unfold exOne
    split
    · rfl
    · exact h 0 (by omega)
  unfold exN
  rw [catTo_congr len h, altTo_congr len h, h1]
def PT.ext : PT → Ex
  | .node k t n _ _ _ _ len _ kids => exN k n t.size (kf len exNo fun i => PT.ext (kids i)) len
theorem PT.ext_eq (T : PT) : T.ext = exN T.k T.n T.t.size (fun i => (T.kid i).ext) T.len := by
  obtain ⟨k, t, n, nm, xa, b, o, len, cap, kids⟩ := T
  exact exN_congr k n t.size len fun i hi => by rw [kf_at hi, PT.kid_at (T := .node k t n nm xa b o len cap kids) hi]
section
variable {T : PT}
theorem ext_1 (h : T.k = 1) : T.ext = (true, (T.t.size : Int), (T.t.size : Int)) := by rw [T.ext_eq, exN, if_pos h]
end

end Go.Proofs.YtbmngbpillihaaaDoor

namespace Go.Proofs.YtbmngbpillihaaaDoor
open Go.RowKit

def Al (P : Nat → Prop) (q : Sq) : Prop := ∀ x ∈ q.1, x.w = 3 → P x.a
section
variable {P Q : Nat → Prop}
theorem al_mono (h : ∀ e, P e → Q e) {q : Sq} (hq : Al P q) : Al Q q := fun x hx h3 => h _ (hq x hx h3)
theorem al_put {x : Ev} (hx : x.w = 3 → P x.a) {q : Sq} (h : Al P q) : Al P (put x q) := fun y hy => by
  rcases List.mem_cons.1 hy with rfl | hy
  · exact hx
  · exact h y hy
theorem al_no {x : Ev} (hx : x.w ≠ 3) {q : Sq} (h : Al P q) : Al P (put x q) := al_put (fun e => absurd e hx) h
theorem al_thn {p q : Sq} (hp : Al P p) (hq : Al P q) : Al P (thn p q) := by
  unfold thn
  split
  · intro x hx
    rcases List.mem_append.1 hx with h | h
    · exact hp x h
    · exact hq x h
  · exact hp
theorem al_end (n : Nat) : Al P ([], n) := fun _ h => by cases h
theorem al_nil : Al P nil := fun _ h => by cases h
theorem al_hs : Al P (one hs) := fun x hx => by rw [List.mem_singleton.1 hx]; exact fun h => absurd h (by decide)
theorem al_way {e : Nat} (g : List Gft) (h : P e) : Al P (one (wy e g)) := fun x hx => by
  rw [List.mem_singleton.1 hx]
  exact fun _ => h
theorem al_bnd {n : Nat} {f : Nat → List Gft → Sq} (hf : ∀ e g, Q e → Al P (f e g)) : ∀ l, (∀ x ∈ l, x.w = 3 → Q x.a) → Al P (bnd l n f)
  | [], _ => al_end n
  | x :: l, h => by
    have ih := al_bnd (n := n) hf l fun y hy => h y (List.mem_cons_of_mem _ hy)
    rw [bnd]
    split
    · rename_i hw
      exact al_thn (hf x.a x.g (h x (List.mem_cons_self ..) hw)) ih
    · rename_i hw
      exact al_no hw ih
theorem al_bd {q : Sq} {f : Nat → List Gft → Sq} (hq : Al Q q) (hf : ∀ e g, Q e → Al P (f e g)) : Al P (bd q f) := al_bnd hf q.1 hq
theorem al_ite {c : Prop} [Decidable c] {p q : Sq} (hp : c → Al P p) (hq : ¬ c → Al P q) : Al P (if c then p else q) := by
  split
  · exact hp (by assumption)
  · exact hq (by assumption)
end

def Lo (e : Ex) (i a : Nat) : Prop := e.1 = true ∧ (i : Int) + e.2.1 ≤ (a : Int) ∧ (e.2.2 ≠ -1 → (a : Int) ≤ (i : Int) + e.2.2)
theorem lo_open {i e : Nat} (h : i ≤ e) : Lo (true, 0, -1) i e := ⟨rfl, by show (i : Int) + 0 ≤ (e : Int); omega, fun h => absurd rfl h⟩
section
variable {s : ByteArray} {R : ByteArray → Option PT} {dg : Nat → ByteArray}
def In2 (s : ByteArray) (e : Ex) (i a : Nat) : Prop := i ≤ a ∧ a ≤ s.size ∧ Lo e i a
theorem al_arbs {i : Nat} (g : List Gft) : ∀ n e, i ≤ e → e + n ≤ s.size + 1 → Al (In2 s (true, 0, -1) i) (arbs g n e)
  | 0, _, _, _ => al_hs
  | n + 1, e, h1, h2 => al_no (by decide) (al_put (fun _ => ⟨h1, by show e ≤ s.size; omega, lo_open h1⟩) (al_arbs g n (e + 1) (by omega) (by omega)))
theorem al_bxs {i : Nat} (t : ByteArray) (g : List Gft) : ∀ n e, i ≤ e → Al (In2 s (true, 0, -1) i) (bxs s t g n e)
  | 0, _, _ => al_hs
  | n + 1, e, h1 => by
    have hge := unt_ge s t true _ e (Nat.le_refl _)
    rw [bxs]
    refine al_ite (fun h => al_no (by decide) (al_put (fun _ => ⟨by show i ≤ unt s t true e; omega, by show unt s t true e ≤ s.size; omega, lo_open (by show i ≤ unt s t true e; omega)⟩) (al_bxs t g n _ (by omega)))) (fun _ => al_hs)
theorem al_bls {i : Nat} (g : List Gft) : ∀ n e, i ≤ e → Al (In2 s (true, 1, -1) i) (bls s g n e)
  | 0, _, _ => al_hs
  | n + 1, e, h1 => by
    rw [bls]
    cases hp : prs s e with
    | none => exact al_hs
    | some t =>
      have := prs_gt hp
      exact al_no (by decide) (al_put (fun _ => ⟨by show i ≤ t; omega, this.2, rfl, by show (i : Int) + 1 ≤ (t : Int); omega, fun h => absurd rfl h⟩) (al_bls g n t (by omega)))
theorem al_alts {f : PT → Nat → List Gft → Sq} {T : PT} {i : Nat} (g : List Gft) {P : Nat → Prop} : ∀ m j, (∀ k, k < j + m → Al P (f (T.kid k) i g)) → Al P (alts f T i g m j)
  | 0, _, _ => al_nil
  | m + 1, j, hf => al_no (by decide) (al_thn (hf j (by omega)) (al_alts g m (j + 1) (fun k hk => hf k (by omega))))
end
end Go.Proofs.YtbmngbpillihaaaDoor

namespace Go.Proofs.YtbmngbpillihaaaDoor
open Go.RowKit

theorem ba_ext {a b : ByteArray} (h : a.data.toList = b.data.toList) : a = b := by
  obtain ⟨⟨l⟩⟩ := a
  obtain ⟨⟨m⟩⟩ := b
  have : l = m := h
  rw [this]
theorem sub_lst (s : ByteArray) (a b : Nat) : (sub s a b).data.toList = (s.data.toList.drop a).take (b - a) := by
  unfold sub
  rw [ByteArray.data_extract, Array.toList_extract, List.extract_eq_take_drop]
theorem ba_len (a : ByteArray) : a.data.toList.length = a.size := by rw [Array.length_toList]; rfl
section
variable {s : ByteArray} {R : ByteArray → Option PT} {dg : Nat → ByteArray} {T U : PT} {n i : Nat} {g : List Gft}
theorem D17 (h : T.k = 17) : D s R dg (n + 1) T i g = put tk ([], 1) := by rw [D, if_pos h]
theorem D16 (h : T.k = 16) : D s R dg (n + 1) T i g = put tk ([wy i g, hs], 1) := by rw [D, if_neg (by omega), if_pos h]
theorem D20 (h : T.k = 20) : D s R dg (n + 1) T i g = put tk (agn (D s R dg n) T n i g) := by rw [D, if_neg (by omega), if_neg (by omega), if_pos h]
theorem D19 (h : T.k = 19) : D s R dg (n + 1) T i g = put tk (alts (D s R dg n) T i g T.len 0) := by rw [D, if_neg (by omega), if_neg (by omega), if_neg (by omega), if_pos h]
theorem D13 (h : T.k = 13) : D s R dg (n + 1) T i g = put tk (arbs g (s.size + 1 - i) i) := by rw [D, if_neg (by omega), if_neg (by omega), if_neg (by omega), if_neg (by omega), if_pos h]
theorem D7 (h : T.k = 7) : D s R dg (n + 1) T i g = put tk (bxs s T.t g (s.size + 1 - i) i) := by rw [D, if_neg (by omega), if_neg (by omega), if_neg (by omega), if_neg (by omega), if_neg (by omega), if_pos h]
theorem D14 (h : T.k = 14) : D s R dg (n + 1) T i g = put tk (bls s g (s.size + 1 - i) i) := by rw [D, if_neg (by omega), if_neg (by omega), if_neg (by omega), if_neg (by omega), if_neg (by omega), if_neg (by omega), if_pos h]
theorem D18 (h : T.k = 18) : D s R dg (n + 1) T i g = put tk (cats (D s R dg n) T (T.len - 1) 0 i g) := by rw [D, if_neg (by omega), if_neg (by omega), if_neg (by omega), if_neg (by omega), if_neg (by omega), if_neg (by omega), if_neg (by omega), if_pos h]
theorem D21 (h : T.k = 21) : D s R dg (n + 1) T i g = put tk (bd (D s R dg n (T.kid 0) i g) fun e g' => put hs (one (wy e (g' ++ [(T.nm, sub s i e)])))) := by rw [D, if_neg (by omega), if_neg (by omega), if_neg (by omega), if_neg (by omega), if_neg (by omega), if_neg (by omega), if_neg (by omega), if_neg (by omega), if_pos h]
theorem D22 (h : T.k = 22) : D s R dg (n + 1) T i g = put tk (bd (D s R dg n (T.kid 0) i g) fun e g' => put (sd (T.nm, sub s i e)) (one (wy e g'))) := by rw [D, if_neg (by omega), if_neg (by omega), if_neg (by omega), if_neg (by omega), if_neg (by omega), if_neg (by omega), if_neg (by omega), if_neg (by omega), if_neg (by omega), if_pos h]
theorem D24 (h : T.k = 24) : D s R dg (n + 1) T i g = put tk (match R T.nm with | some U => D s R dg n U i g | none => ([], 2)) := by rw [D, if_neg (by omega), if_neg (by omega), if_neg (by omega), if_neg (by omega), if_neg (by omega), if_neg (by omega), if_neg (by omega), if_neg (by omega), if_neg (by omega), if_neg (by omega), if_pos h]; cases R T.nm <;> rfl
theorem D23 (h : T.k = 23) : D s R dg (n + 1) T i g = put tk (put (sd (T.nm, dg i)) (one (wy i g))) := by rw [D, if_neg (by omega), if_neg (by omega), if_neg (by omega), if_neg (by omega), if_neg (by omega), if_neg (by omega), if_neg (by omega), if_neg (by omega), if_neg (by omega), if_neg (by omega), if_neg (by omega), if_pos h]
theorem leaf_of {k : Int} (h : 1 ≤ k ∧ k ≤ 15) (h7 : k ≠ 7) (h13 : k ≠ 13) (h14 : k ≠ 14) : leafK k := by unfold leafK; omega
theorem onl1 (h : T.k = 1) : onl s T i = if sub s i (i + T.t.size) = T.t then some (i + T.t.size) else none := by unfold onl; rw [if_pos h]
theorem onl2 (h : T.k = 2) : onl s T i = if i + T.n.toNat ≤ s.size then some (i + T.n.toNat) else none := by unfold onl; rw [if_neg (by omega), if_pos h]
theorem onl3 (h : T.k = 3) : onl s T i = if i < s.size ∧ inB T.t (byt s i) = true then some (i + 1) else none := by unfold onl; rw [if_neg (by omega), if_neg (by omega), if_pos h]
theorem onl4 (h : T.k = 4) : onl s T i = if i < s.size ∧ inB T.t (byt s i) = false then some (i + 1) else none := by unfold onl; rw [if_neg (by omega), if_neg (by omega), if_neg (by omega), if_pos h]
theorem onl5 (h : T.k = 5) : onl s T i = if i < unt s T.t false i then some (unt s T.t false i) else none := by unfold onl; rw [if_neg (by omega), if_neg (by omega), if_neg (by omega), if_neg (by omega), if_pos h]
theorem onl6 (h : T.k = 6) : onl s T i = if unt s T.t true i < s.size then some (unt s T.t true i) else none := by unfold onl; rw [if_neg (by omega), if_neg (by omega), if_neg (by omega), if_neg (by omega), if_neg (by omega), if_pos h]
theorem onl8 (h : T.k = 8) : onl s T i = if i ≤ T.n.toNat ∧ T.n.toNat ≤ s.size then some T.n.toNat else none := by unfold onl; rw [if_neg (by omega), if_neg (by omega), if_neg (by omega), if_neg (by omega), if_neg (by omega), if_neg (by omega), if_pos h]
theorem onl9 (h : T.k = 9) : onl s T i = if i + T.n.toNat ≤ s.size then some (s.size - T.n.toNat) else none := by unfold onl; rw [if_neg (by omega), if_neg (by omega), if_neg (by omega), if_neg (by omega), if_neg (by omega), if_neg (by omega), if_neg (by omega), if_pos h]
theorem onl10 (h : T.k = 10) : onl s T i = if i = T.n.toNat then some i else none := by unfold onl; rw [if_neg (by omega), if_neg (by omega), if_neg (by omega), if_neg (by omega), if_neg (by omega), if_neg (by omega), if_neg (by omega), if_neg (by omega), if_pos h]
theorem onl11 (h : T.k = 11) : onl s T i = if i + T.n.toNat = s.size then some i else none := by unfold onl; rw [if_neg (by omega), if_neg (by omega), if_neg (by omega), if_neg (by omega), if_neg (by omega), if_neg (by omega), if_neg (by omega), if_neg (by omega), if_neg (by omega), if_pos h]
theorem onl12 (h : T.k = 12) : onl s T i = some s.size := by unfold onl; rw [if_neg (by omega), if_neg (by omega), if_neg (by omega), if_neg (by omega), if_neg (by omega), if_neg (by omega), if_neg (by omega), if_neg (by omega), if_neg (by omega), if_neg (by omega), if_pos h]
theorem onl15 (h : T.k < 1 ∨ 12 < T.k ∨ T.k = 7) : onl s T i = none := by unfold onl; rw [if_neg (by omega), if_neg (by omega), if_neg (by omega), if_neg (by omega), if_neg (by omega), if_neg (by omega), if_neg (by omega), if_neg (by omega), if_neg (by omega), if_neg (by omega), if_neg (by omega)]
theorem sub_fits {a b : Nat} {t : ByteArray} (h : sub s a (a + b) = t) (hb : t.size = b) (ha : a ≤ s.size) : a + b ≤ s.size := by
  have h1 : (sub s a (a + b)).data.toList.length = b := by rw [h, ba_len, hb]
  rw [sub_lst, List.length_take, List.length_drop, ba_len] at h1
  omega
theorem onl_in {e : Nat} (hi : i ≤ s.size) (h : onl s T i = some e) : e ≤ s.size := by
  have hk : T.k = 1 ∨ T.k = 2 ∨ T.k = 3 ∨ T.k = 4 ∨ T.k = 5 ∨ T.k = 6 ∨ T.k = 8 ∨ T.k = 9 ∨ T.k = 10 ∨ T.k = 11 ∨ T.k = 12 ∨ (T.k < 1 ∨ 12 < T.k ∨ T.k = 7) := by omega
  rcases hk with q | q | q | q | q | q | q | q | q | q | q | q
  · rw [onl1 q] at h
    split at h
    · rename_i h1
      rw [← Option.some.inj h]
      exact sub_fits h1 rfl hi
    · cases h
  · rw [onl2 q] at h
    split at h
    · rw [← Option.some.inj h]; assumption
    · cases h
  · rw [onl3 q] at h
    split at h
    · rw [← Option.some.inj h]; omega
    · cases h
  · rw [onl4 q] at h
    split at h
    · rw [← Option.some.inj h]; omega
    · cases h
  · rw [onl5 q] at h
    split at h
    · rw [← Option.some.inj h]; exact unt_le s T.t false _ i (Nat.le_refl _) hi
    · cases h
  · rw [onl6 q] at h
    split at h
    · rw [← Option.some.inj h]; omega
    · cases h
  · rw [onl8 q] at h
    split at h
    · rw [← Option.some.inj h]; omega
    · cases h
  · rw [onl9 q] at h
    split at h
    · rw [← Option.some.inj h]; omega
    · cases h
  · rw [onl10 q] at h
    split at h
    · rw [← Option.some.inj h]; omega
    · cases h
  · rw [onl11 q] at h
    split at h
    · rw [← Option.some.inj h]; omega
    · cases h
  · rw [onl12 q] at h
    rw [← Option.some.inj h]
    exact Nat.le_refl _
  · rw [onl15 q] at h
    cases h
def Inn (s : ByteArray) (q : Sq) : Prop := Al (fun e => e ≤ s.size) q
theorem qk_bdi {c : Nat} {p q : Sq} {f f' : Nat → List Gft → Sq} (h : Qk c p q) (ho : Inn s p) (hf : ∀ e g, e ≤ s.size → Qk 0 (f e g) (f' e g)) : Qk c (bd p f) (bd q f') := qk_bd (ok := fun e => e ≤ s.size) h ho hf
section
variable {f f' : PT → Nat → List Gft → Sq}
theorem inn_cats (hf : ∀ U i g, i ≤ s.size → Inn s (f U i g)) (T : PT) : ∀ m j i g, i ≤ s.size → Inn s (cats f T m j i g)
  | 0, _, _, _, hi => hf _ _ _ hi
  | m + 1, j, i, g, hi => al_bd (hf _ i g hi) fun e g' he => al_no (by decide) (inn_cats hf T m (j + 1) e g' he)
theorem inn_agn (hf : ∀ U i g, i ≤ s.size → Inn s (f U i g)) (T : PT) : ∀ m i g, i ≤ s.size → Inn s (agn f T m i g)
  | 0, _, _, _ => al_end 3
  | m + 1, i, g, hi => al_put (fun _ => hi) (al_no (by decide) (al_bd (hf _ i g hi) fun e g' he => al_no (by decide) (al_ite (fun _ => al_nil) fun _ => inn_agn hf T m e g' he)))
end
theorem D_in : ∀ n T i g, i ≤ s.size → Inn s (D s R dg n T i g)
  | 0, _, _, _, _ => al_end 3
  | n + 1, T, i, g, hi => by
    have ih := D_in n
    unfold Inn
    rw [D]
    refine al_no (by decide) (al_ite (fun _ => al_end 1) fun _ => al_ite (fun _ => al_put (x := wy i g) (fun _ => hi) (al_no (x := hs) (by decide) (al_end 1))) fun _ => al_ite (fun _ => inn_agn ih T n i g hi) fun _ => al_ite (fun _ => al_alts g _ _ fun k _ => ih _ _ _ hi) fun _ =>
      al_ite (fun _ => al_mono (fun e he => he.2.1) (al_arbs (i := i) g _ i (Nat.le_refl _) (by omega))) fun _ => al_ite (fun _ => al_mono (fun e he => he.2.1) (al_bxs (i := i) T.t g _ i (Nat.le_refl _))) fun _ => al_ite (fun _ => al_mono (fun e he => he.2.1) (al_bls (i := i) g _ i (Nat.le_refl _))) fun _ =>
      al_ite (fun _ => inn_cats ih T _ _ i g hi) fun _ => al_ite (fun _ => al_bd (ih _ i g hi) fun e g' he => al_no (by decide) (al_way _ he)) fun _ => al_ite (fun _ => al_bd (ih _ i g hi) fun e g' he => al_no (x := sd _) (by show (2 : Nat) ≠ 3; decide) (al_way _ he)) fun _ => al_ite (fun _ => ?_) fun _ => al_ite (fun _ => al_no (x := sd _) (by show (2 : Nat) ≠ 3; decide) (al_way _ hi)) fun _ => ?_)
    · cases R T.nm with
      | none => exact al_end 2
      | some U => exact ih U i g hi
    · cases ho : onl s T i with
      | none => exact al_nil
      | some e => exact al_way g (onl_in hi ho)
def catL (f : PT → Nat → List Gft → Sq) : List PT → Nat → List Gft → Sq
  | [], i, g => one (wy i g)
  | x :: l, i, g => bd (f x i g) fun e g' => catL f l e g'
def altL (f : PT → Nat → List Gft → Sq) (i : Nat) (g : List Gft) : List PT → Sq
  | [] => nil
  | x :: l => thn (f x i g) (altL f i g l)
section
variable {f f' : PT → Nat → List Gft → Sq}
theorem catL_one (f : PT → Nat → List Gft → Sq) (x : PT) (i : Nat) (g : List Gft) : catL f [x] i g = f x i g := bd_unit _
theorem altL_one (f : PT → Nat → List Gft → Sq) (x : PT) (i : Nat) (g : List Gft) : altL f i g [x] = f x i g := nil_thn _
theorem catL_append (f : PT → Nat → List Gft → Sq) (b : List PT) : ∀ (a : List PT) (i : Nat) (g : List Gft), catL f (a ++ b) i g = bd (catL f a i g) fun e g' => catL f b e g'
  | [], i, g => (bd_one i g _).symm
  | x :: a, i, g => by
    show bd (f x i g) (fun e g' => catL f (a ++ b) e g') = bd (bd (f x i g) fun e g' => catL f a e g') _
    rw [bd_bd]
    exact bd_congr _ fun e g' => catL_append f b a e g'
theorem altL_append (f : PT → Nat → List Gft → Sq) (i : Nat) (g : List Gft) (b : List PT) : ∀ a : List PT, altL f i g (a ++ b) = thn (altL f i g a) (altL f i g b)
  | [] => rfl
  | x :: a => by
    show thn (f x i g) (altL f i g (a ++ b)) = thn (thn (f x i g) (altL f i g a)) _
    rw [thn_assoc, altL_append f i g b a]
theorem inn_catL (hf : ∀ U i g, i ≤ s.size → Inn s (f U i g)) : ∀ (l : List PT) (i : Nat) (g : List Gft), i ≤ s.size → Inn s (catL f l i g)
  | [], _, g, hi => al_way g hi
  | x :: l, i, g, hi => al_bd (hf x i g hi) fun e g' he => inn_catL hf l e g' he
theorem catL_ctx (hf : ∀ U i g, i ≤ s.size → Inn s (f U i g)) {b c : List PT} (h : ∀ i g, i ≤ s.size → Qk 0 (catL f b i g) (catL f c i g)) (a d : List PT) (i : Nat) (g : List Gft) (hi : i ≤ s.size) : Qk 0 (catL f (a ++ (b ++ d)) i g) (catL f (a ++ (c ++ d)) i g) := by
  rw [catL_append, catL_append]
  refine qk_bdi (qk_refl _) (inn_catL hf a i g hi) fun e g' he => ?_
  rw [catL_append, catL_append]
  exact qk_bdi (h e g' he) (inn_catL hf b e g' he) fun e g' _ => qk_refl _
theorem altL_ctx {b c : List PT} {i : Nat} {g : List Gft} (h : Qk 0 (altL f i g b) (altL f i g c)) (a d : List PT) : Qk 0 (altL f i g (a ++ (b ++ d))) (altL f i g (a ++ (c ++ d))) := by
  rw [altL_append, altL_append, altL_append, altL_append]
  exact qk_thn (qk_refl _) (qk_thn h (qk_refl _))
theorem catL_map (hf : ∀ U i g, i ≤ s.size → Inn s (f U i g)) {h : PT → PT} : ∀ l : List PT, (∀ x ∈ l, ∀ i g, i ≤ s.size → Qk 0 (f x i g) (f (h x) i g)) → ∀ i g, i ≤ s.size → Qk 0 (catL f l i g) (catL f (l.map h) i g)
  | [], _, _, _, _ => qk_refl _
  | x :: l, hl, i, g, hi => qk_bdi (hl x (List.mem_cons_self ..) i g hi) (hf x i g hi) fun e g' he => catL_map hf l (fun y hy => hl y (List.mem_cons_of_mem _ hy)) e g' he
theorem altL_map {h : PT → PT} {i : Nat} {g : List Gft} : ∀ (l : List PT), (∀ x ∈ l, Qk 0 (f x i g) (f (h x) i g)) → Qk 0 (altL f i g l) (altL f i g (l.map h))
  | [], _ => qk_refl _
  | x :: l, hl => qk_thn (hl x (List.mem_cons_self ..)) (altL_map l fun y hy => hl y (List.mem_cons_of_mem _ hy))
theorem catL_le (hf : ∀ U i g, Le (f U i g) (f' U i g)) : ∀ (l : List PT) (i : Nat) (g : List Gft), Le (catL f l i g) (catL f' l i g)
  | [], _, _ => le_refl _
  | x :: l, i, g => le_bd (hf x i g) fun e g' => catL_le hf l e g'
theorem altL_le (hf : ∀ U i g, Le (f U i g) (f' U i g)) (i : Nat) (g : List Gft) : ∀ l : List PT, Le (altL f i g l) (altL f' i g l)
  | [] => le_refl _
  | x :: l => le_thn (hf x i g) (altL_le hf i g l)
theorem drop_lst {T : PT} {j : Nat} (h : j < T.len) : T.lst.drop j = T.kid j :: T.lst.drop (j + 1) := by
  have hl : j < T.lst.length := by rw [PT.lst_len]; exact h
  rw [List.drop_eq_getElem_cons hl]
  have := PT.lst_at h
  rw [List.getElem?_eq_getElem hl] at this
  rw [Option.some.inj this]
theorem cats_catL (f : PT → Nat → List Gft → Sq) (T : PT) : ∀ m j i g, j + m + 1 = T.len → Qk 0 (cats f T m j i g) (catL f (T.lst.drop j) i g)
  | 0, j, i, g, h => by
    rw [drop_lst (by omega), List.drop_eq_nil_of_le (by rw [PT.lst_len]; omega), catL_one]
    exact qk_refl _
  | m + 1, j, i, g, h => by
    rw [drop_lst (by omega)]
    exact qk_bd (ok := fun _ => True) (qk_refl _) (fun _ _ _ => trivial) fun e g' _ => qk_hl (cats_catL f T m (j + 1) e g' (by omega))
theorem catL_cats (f : PT → Nat → List Gft → Sq) (T : PT) : ∀ m j i g, j + m + 1 = T.len → Qk 0 (catL f (T.lst.drop j) i g) (cats f T m j i g)
  | 0, j, i, g, h => by
    rw [drop_lst (by omega), List.drop_eq_nil_of_le (by rw [PT.lst_len]; omega), catL_one]
    exact qk_refl _
  | m + 1, j, i, g, h => by
    rw [drop_lst (by omega)]
    exact qk_bd (ok := fun _ => True) (qk_refl _) (fun _ _ _ => trivial) fun e g' _ => qk_hr (catL_cats f T m (j + 1) e g' (by omega))
theorem alts_altL (f : PT → Nat → List Gft → Sq) (T : PT) (i : Nat) (g : List Gft) : ∀ m j, j + m = T.len → Qk 0 (alts f T i g m j) (altL f i g (T.lst.drop j))
  | 0, j, h => by
    rw [List.drop_eq_nil_of_le (by rw [PT.lst_len]; omega)]
    exact qk_refl _
  | m + 1, j, h => by
    rw [drop_lst (by omega)]
    exact qk_hl (qk_thn (qk_refl _) (alts_altL f T i g m (j + 1) (by omega)))
theorem altL_alts (f : PT → Nat → List Gft → Sq) (T : PT) (i : Nat) (g : List Gft) : ∀ m j, j + m = T.len → Qk 0 (altL f i g (T.lst.drop j)) (alts f T i g m j)
  | 0, j, h => by
    rw [List.drop_eq_nil_of_le (by rw [PT.lst_len]; omega)]
    exact qk_refl _
  | m + 1, j, h => by
    rw [drop_lst (by omega)]
    exact qk_hr (qk_thn (qk_refl _) (altL_alts f T i g m (j + 1) (by omega)))
end

theorem cat_open {p : PT} (hk : p.k = 18) (hl : 1 ≤ p.len) (n i : Nat) (g : List Gft) : Qk 0 (D s R dg n p i g) (catL (D s R dg n) p.lst i g) := by
  cases n with
  | zero => exact qk_bot 0 _
  | succ n =>
    rw [D18 hk]
    exact qk_tk (qk_le (cats_catL _ p _ 0 i g (by omega)) (catL_le (D_le s R dg n) _ _ _))
theorem alt_open {p : PT} (hk : p.k = 19) (n i : Nat) (g : List Gft) : Qk 0 (D s R dg n p i g) (altL (D s R dg n) i g p.lst) := by
  cases n with
  | zero => exact qk_bot 0 _
  | succ n =>
    rw [D19 hk]
    exact qk_tk (qk_le (alts_altL _ p i g _ 0 (by omega)) (altL_le (D_le s R dg n) _ _ _))
theorem flatK_cons (k : Int) (p : PT) (l : List PT) : flatK k (p :: l) = (if p.k = k then p.lst else [p]) ++ flatK k l := rfl
theorem flat_cat (n : Nat) : ∀ l : List PT, (∀ x ∈ l, x.k = 18 → 1 ≤ x.len) → ∀ i g, i ≤ s.size → Qk 0 (catL (D s R dg n) l i g) (catL (D s R dg n) (flatK 18 l) i g)
  | [], _, i, g, _ => qk_refl _
  | p :: l, hl, i, g, hi => by
    rw [flatK_cons, catL_append]
    refine qk_bdi ?_ (D_in n p i g hi) fun e g' he => flat_cat n l (fun y hy => hl y (List.mem_cons_of_mem _ hy)) e g' he
    split
    · rename_i hk
      exact cat_open hk (hl p (List.mem_cons_self ..) hk) n i g
    · rw [catL_one]
      exact qk_refl _
theorem flat_alt (n i : Nat) (g : List Gft) : ∀ l : List PT, Qk 0 (altL (D s R dg n) i g l) (altL (D s R dg n) i g (flatK 19 l))
  | [] => qk_refl _
  | p :: l => by
    rw [flatK_cons, altL_append]
    refine qk_thn ?_ (flat_alt n i g l)
    split
    · rename_i hk
      exact alt_open hk n i g
    · rw [altL_one]
      exact qk_refl _
theorem D_empty {p : PT} (h : isE p = true) : D s R dg (n + 1) p i g = put tk (one (wy i g)) := by
  unfold isE at h
  rw [Bool.and_eq_true, decide_eq_true_eq, decide_eq_true_eq] at h
  rw [D_leaf (leaf_of (by omega) (by omega) (by omega) (by omega)), onl1 h.1, h.2, if_pos]
  · rfl
  · refine ba_ext ?_
    rw [sub_lst, show i + 0 - i = 0 by omega, List.take_zero]
    exact (List.length_eq_zero_iff.1 (by rw [ba_len]; exact h.2)).symm
theorem D_fail {p : PT} (h : isF p = true) : D s R dg (n + 1) p i g = put tk nil := by
  unfold isF at h
  rw [decide_eq_true_eq] at h
  rw [D_leaf (leaf_of (by omega) (by omega) (by omega) (by omega)), onl15 (by omega)]
theorem D_abort {p : PT} (h : isA p = true) : D s R dg (n + 1) p i g = put tk ([], 1) := by
  unfold isA at h
  rw [decide_eq_true_eq] at h
  exact D17 h
theorem nev_bd {p : PT} (h : nev p = true) (n i : Nat) (g : List Gft) (f : Nat → List Gft → Sq) : bd (D s R dg n p i g) f = D s R dg n p i g := by
  cases n with
  | zero => rfl
  | succ n =>
    unfold nev at h
    rw [Bool.or_eq_true] at h
    rcases h with h | h
    · rw [D_fail h]; rfl
    · rw [D_abort h]; rfl
theorem stay_cat (n : Nat) : ∀ (l : List PT) (i : Nat) (g : List Gft), i ≤ s.size → Qk 0 (catL (D s R dg n) l i g) (catL (D s R dg n) (stay nev isE false l) i g)
  | [], i, g, _ => qk_refl _
  | p :: l, i, g, hi => by
    rw [stay]
    split
    · rename_i he
      cases n with
      | zero => exact qk_bot 0 _
      | succ n =>
        show Qk 0 (bd (D s R dg (n + 1) p i g) _) _
        rw [D_empty he, bd_tk, bd_one]
        exact qk_tk (stay_cat (n + 1) l i g hi)
    · cases hn : nev p with
      | true =>
        rw [stay_over, catL_one]
        show Qk 0 (bd (D s R dg n p i g) _) _
        rw [nev_bd hn]
        exact qk_refl _
      | false => exact qk_bdi (qk_refl _) (D_in n p i g hi) fun e g' he => stay_cat n l e g' he
theorem stay_alt (n i : Nat) (g : List Gft) : ∀ (l : List PT), Qk 0 (altL (D s R dg n) i g l) (altL (D s R dg n) i g (stay isA isF false l))
  | [] => qk_refl _
  | p :: l => by
    rw [stay]
    split
    · rename_i he
      cases n with
      | zero => exact qk_bot 0 _
      | succ n =>
        show Qk 0 (thn (D s R dg (n + 1) p i g) _) _
        rw [D_fail he, thn_put, thn_nil]
        exact qk_tk (stay_alt (n + 1) i g l)
    · cases hn : isA p with
      | true =>
        rw [stay_over, altL_one]
        show Qk 0 (thn (D s R dg n p i g) _) _
        rw [thn_stop]
        · exact qk_refl _
        · cases n with
          | zero => show (3 : Nat) ≠ 0; decide
          | succ n => rw [D_abort hn]; show (1 : Nat) ≠ 0; decide
      | false => exact qk_thn (qk_refl _) (stay_alt n i g l)
theorem join_leaf {x p y : PT} (hx : leafK x.k) (hp : leafK p.k) (hy : leafK y.k) (n : Nat) (g : List Gft) (h : onl s y i = (onl s x i).bind fun e => onl s p e) : Qk 0 (bd (D s R dg n x i g) fun e g' => D s R dg n p e g') (D s R dg n y i g) := by
  cases n with
  | zero => exact qk_bot 0 _
  | succ n =>
    rw [D_leaf hx, D_leaf hy, h, bd_tk]
    cases onl s x i with
    | none => exact qk_refl _
    | some e =>
      show Qk 0 (put tk (bd (one (wy e g)) _)) (put tk (match onl s p e with | some e => one (wy e g) | none => nil))
      rw [bd_one, D_leaf hp]
      exact qk_put tk (qk_tk (qk_refl _))
theorem sub_two {t u : ByteArray} (s : ByteArray) (i : Nat) : sub s i (i + (t ++ u).size) = t ++ u ↔ sub s i (i + t.size) = t ∧ sub s (i + t.size) (i + t.size + u.size) = u := by
  have hsz : (t ++ u).size = t.size + u.size := ByteArray.size_append
  have hl : (t ++ u).data.toList = t.data.toList ++ u.data.toList := by rw [ByteArray.data_append, Array.toList_append]
  have key : (s.data.toList.drop i).take (t.size + u.size) = (s.data.toList.drop i).take t.size ++ (s.data.toList.drop (i + t.size)).take u.size := by rw [List.take_add, List.drop_drop]
  constructor
  · intro h
    have h1 : (sub s i (i + (t ++ u).size)).data.toList = (t ++ u).data.toList := by rw [h]
    rw [sub_lst, hl, hsz, show i + (t.size + u.size) - i = t.size + u.size by omega] at h1
    have hlen := congrArg List.length h1
    rw [List.length_take, List.length_append, ba_len, ba_len] at hlen
    rw [key] at h1
    obtain ⟨a1, a2⟩ := List.append_inj h1 (by rw [List.length_take, ba_len]; omega)
    refine ⟨ba_ext ?_, ba_ext ?_⟩
    · rw [sub_lst, show i + t.size - i = t.size by omega]; exact a1
    · rw [sub_lst, show i + t.size + u.size - (i + t.size) = u.size by omega]; exact a2
  · rintro ⟨h1, h2⟩
    refine ba_ext ?_
    rw [sub_lst, hl, hsz, show i + (t.size + u.size) - i = t.size + u.size by omega, key]
    have a1 : (sub s i (i + t.size)).data.toList = t.data.toList := by rw [h1]
    have a2 : (sub s (i + t.size) (i + t.size + u.size)).data.toList = u.data.toList := by rw [h2]
    rw [sub_lst, show i + t.size - i = t.size by omega] at a1
    rw [sub_lst, show i + t.size + u.size - (i + t.size) = u.size by omega] at a2
    rw [a1, a2]
theorem sub_nil (s : ByteArray) (i : Nat) : sub s i (i + (⟨#[]⟩ : ByteArray).size) = ⟨#[]⟩ := ba_ext (by
  rw [sub_lst, show i + (⟨#[]⟩ : ByteArray).size - i = 0 from by show i + 0 - i = 0; omega, List.take_zero])
theorem cnt2_k (m : Int) : (cntP 2 m).k = 1 ∨ (cntP 2 m).k = 2 := by
  unfold cntP
  split
  · exact .inl rfl
  · rw [if_neg (by omega)]; exact .inr rfl
theorem cnt2_onl {m : Int} (hi : i ≤ s.size) : onl s (cntP 2 m) i = if i + m.toNat ≤ s.size then some (i + m.toNat) else none := by
  unfold cntP
  split
  · rename_i h
    rw [h.2, onl1 (T := litP ⟨#[]⟩) rfl, if_pos (show sub s i (i + (litP ⟨#[]⟩).t.size) = (litP ⟨#[]⟩).t from sub_nil s i), if_pos (show i + (0 : Int).toNat ≤ s.size from hi)]
    rfl
  · rw [if_neg (by omega)]
    exact onl2 rfl
theorem join_cat {x p y : PT} (h : behindP x p = some y) (hx : x.k = 2 → 0 ≤ x.n) (hp : p.k = 2 → 0 ≤ p.n) (n : Nat) (g : List Gft) (hi : i ≤ s.size) : Qk 0 (bd (D s R dg n x i g) fun e g' => D s R dg n p e g') (D s R dg n y i g) := by
  rcases behind_some h with ⟨h1, h2, -, rfl⟩ | ⟨h1, h2, -, rfl⟩
  · refine join_leaf (leaf_of (by omega) (by omega) (by omega) (by omega)) (leaf_of (by omega) (by omega) (by omega) (by omega)) (show leafK 1 by unfold leafK; decide) n g ?_
    rw [onl1 (T := litP (x.t ++ p.t)) rfl, onl1 h1]
    show (if sub s i (i + (x.t ++ p.t).size) = x.t ++ p.t then some (i + (x.t ++ p.t).size) else none) = _
    by_cases ha : sub s i (i + x.t.size) = x.t
    · rw [if_pos ha]
      show _ = onl s p (i + x.t.size)
      rw [onl1 h2]
      by_cases hb : sub s (i + x.t.size) (i + x.t.size + p.t.size) = p.t
      · rw [if_pos hb, if_pos ((sub_two s i).2 ⟨ha, hb⟩), ByteArray.size_append, Nat.add_assoc]
      · rw [if_neg hb, if_neg (fun q => hb ((sub_two s i).1 q).2)]
    · rw [if_neg ha, if_neg (fun q => ha ((sub_two s i).1 q).1)]
      rfl
  · have hc := cnt2_k (x.n + p.n)
    refine join_leaf (leaf_of (by omega) (by omega) (by omega) (by omega)) (leaf_of (by omega) (by omega) (by omega) (by omega)) (leaf_of (by omega) (by omega) (by omega) (by omega)) n g ?_
    have hx := hx h1
    have hp := hp h2
    rw [cnt2_onl hi, onl2 h1]
    by_cases ha : i + x.n.toNat ≤ s.size
    · rw [if_pos ha]
      show _ = onl s p (i + x.n.toNat)
      rw [onl2 h2]
      by_cases hb : i + x.n.toNat + p.n.toNat ≤ s.size
      · rw [if_pos hb, if_pos (by omega), show i + (x.n + p.n).toNat = i + x.n.toNat + p.n.toNat by omega]
      · rw [if_neg hb, if_neg (by omega)]
    · rw [if_neg ha, if_neg (by omega)]
      rfl
theorem byt_lt (s : ByteArray) (i : Nat) : byt s i < 256 := UInt8.toNat_lt _
theorem one_onl {x : PT} (h : oneB x = true) : leafK x.k ∧ onl s x i = if i < s.size ∧ inB x.t (byt s i) = true then some (i + 1) else none := by
  unfold oneB at h
  rw [Bool.or_eq_true, Bool.and_eq_true, decide_eq_true_eq, decide_eq_true_eq, decide_eq_true_eq] at h
  rcases h with h | ⟨h, h1⟩
  · exact ⟨leaf_of (by omega) (by omega) (by omega) (by omega), onl3 h⟩
  · refine ⟨leaf_of (by omega) (by omega) (by omega) (by omega), ?_⟩
    rw [onl1 h, h1]
    obtain ⟨b, hb⟩ : ∃ b, x.t.data.toList = [b] := List.length_eq_one_iff.1 (by rw [ba_len]; exact h1)
    have hin : inB x.t (byt s i) = true ↔ byt s i = b.toNat := by
      unfold inB
      rw [hb]
      simp only [List.any_cons, List.any_nil, Bool.or_false, beq_iff_eq]
      exact eq_comm
    have hsub : sub s i (i + 1) = x.t ↔ i < s.size ∧ byt s i = b.toNat := by
      constructor
      · intro q
        have q1 : (sub s i (i + 1)).data.toList = x.t.data.toList := by rw [q]
        rw [sub_lst, hb, show i + 1 - i = 1 by omega] at q1
        have hlt : i < s.data.toList.length := by
          rcases Nat.lt_or_ge i s.data.toList.length with h | h
          · exact h
          · rw [List.drop_eq_nil_of_le h] at q1; cases q1
        rw [List.drop_eq_getElem_cons hlt] at q1
        have q2 : s.data.toList[i] = b := by
          rw [List.take_succ_cons, List.take_zero] at q1
          injection q1
        refine ⟨by rw [ba_len] at hlt; exact hlt, ?_⟩
        unfold byt
        rw [List.getD_eq_getElem?_getD, List.getElem?_eq_getElem hlt, q2]
        rfl
      · rintro ⟨hlt, q⟩
        have hlt' : i < s.data.toList.length := by rw [ba_len]; exact hlt
        refine ba_ext ?_
        rw [sub_lst, hb, show i + 1 - i = 1 by omega, List.drop_eq_getElem_cons hlt', List.take_succ_cons, List.take_zero]
        unfold byt at q
        rw [List.getD_eq_getElem?_getD, List.getElem?_eq_getElem hlt'] at q
        have q3 : s.data.toList[i] = b := UInt8.toNat_inj.1 q
        rw [q3]
    by_cases hc : i < s.size ∧ inB x.t (byt s i) = true
    · rw [if_pos hc, if_pos (hsub.2 ⟨hc.1, hin.1 hc.2⟩)]
    · rw [if_neg hc, if_neg (fun q => hc ⟨(hsub.1 q).1, hin.2 (hsub.1 q).2⟩)]
theorem join_alt {x p y : PT} (h : eitherP x p = some y) (n i : Nat) (g : List Gft) : Qk 0 (thn (D s R dg n x i g) (D s R dg n p i g)) (D s R dg n y i g) := by
  obtain ⟨h1, h2, hy⟩ := either_some h
  have hd : ∀ c, c < 256 → (inB x.t c && inB p.t c) = false := by
    unfold eitherP at h
    rw [if_neg (by rw [h1, h2]; decide)] at h
    split at h
    · rename_i hz
      exact tx_empty.1 hz
    · cases h
  have hyo : oneB y = true := by rw [hy]; exact any_one _
  have hyt : inB y.t (byt s i) = (inB x.t (byt s i) || inB p.t (byt s i)) := by
    have := byt_lt s i
    generalize byt s i = c at this ⊢
    rw [hy, any_t]
    exact inB_txt _ c this
  obtain ⟨lx, ox⟩ := one_onl (s := s) (i := i) h1
  obtain ⟨lp, op⟩ := one_onl (s := s) (i := i) h2
  obtain ⟨ly, oy⟩ := one_onl (s := s) (i := i) hyo
  cases n with
  | zero => exact qk_bot 0 _
  | succ n =>
    rw [D_leaf lx, D_leaf lp, D_leaf ly, ox, op, oy, hyt, thn_put]
    have hdc := hd _ (byt_lt s i)
    by_cases hs : i < s.size
    · cases ha : inB x.t (byt s i) with
      | true =>
        rw [ha] at hdc
        have hb : inB p.t (byt s i) = false := by simpa using hdc
        rw [hb, if_pos ⟨hs, rfl⟩, if_neg (by simp), if_pos ⟨hs, rfl⟩]
        exact qk_put tk (qk_put _ (qk_tk (qk_refl _)))
      | false =>
        cases hb : inB p.t (byt s i) with
        | true =>
          rw [if_neg (by simp), if_pos ⟨hs, rfl⟩, if_pos ⟨hs, rfl⟩]
          exact qk_put tk (qk_tk (qk_refl _))
        | false =>
          rw [if_neg (by simp), if_neg (by simp)]
          exact qk_put tk (qk_tk (qk_refl _))
    · rw [if_neg (fun q => hs q.1), if_neg (fun q => hs q.1), if_neg (fun q => hs q.1)]
      exact qk_put tk (qk_tk (qk_refl _))
theorem last_two {α : Type} {out : List α} {x : α} (h : out.getLast? = some x) : out.dropLast ++ [x] = out := by
  have hne : out ≠ [] := fun e => by rw [e] at h; cases h
  have := List.getLast?_eq_some_getLast hne
  rw [this] at h
  rw [← Option.some.inj h]
  exact List.dropLast_concat_getLast hne
theorem fold_cat (n : Nat) : ∀ (l out : List PT), (∀ x ∈ out, x.k = 2 → 0 ≤ x.n) → (∀ x ∈ l, x.k = 2 → 0 ≤ x.n) → ∀ i g, i ≤ s.size → Qk 0 (catL (D s R dg n) (out ++ l) i g) (catL (D s R dg n) (l.foldl (addP behindP) out) i g)
  | [], out, _, _, i, g, _ => by rw [List.append_nil]; exact qk_refl _
  | p :: l, out, ho, hl, i, g, hi => by
    have hp := hl p (List.mem_cons_self ..)
    have hl' : ∀ x ∈ l, x.k = 2 → 0 ≤ x.n := fun x hx => hl x (List.mem_cons_of_mem _ hx)
    rw [List.foldl_cons]
    cases hg : out.getLast? with
    | none =>
      obtain rfl : out = [] := List.getLast?_eq_none_iff.1 hg
      exact fold_cat n l [p] (fun x hx => by rw [List.mem_singleton.1 hx]; exact hp) hl' i g hi
    | some x =>
      have hout := last_two hg
      cases hj : behindP x p with
      | none =>
        have e : addP behindP out p = out ++ [p] := by unfold addP; rw [hg]; simp only [hj]
        rw [e, show out ++ p :: l = (out ++ [p]) ++ l by rw [List.append_assoc]; rfl]
        exact fold_cat n l (out ++ [p]) (fun z hz => by
          rcases List.mem_append.1 hz with hz | hz
          · exact ho z hz
          · rw [List.mem_singleton.1 hz]; exact hp) hl' i g hi
      | some y =>
        have e : addP behindP out p = out.dropLast ++ [y] := by unfold addP; rw [hg]; simp only [hj]
        have hx := ho x (List.mem_of_getLast? hg)
        have hy : y.k = 2 → 0 ≤ y.n := by
          rcases behind_some hj with ⟨-, -, -, rfl⟩ | ⟨h1, h2, -, rfl⟩
          · intro h; exact absurd (show (1 : Int) = 2 from h) (by decide)
          · intro _
            have := hx h1
            have := hp h2
            unfold cntP
            split
            · show (0 : Int) ≤ 0; decide
            · rw [if_neg (by omega)]; show 0 ≤ x.n + p.n; omega
        rw [e]
        refine qk_tr0 ?_ (fold_cat n l (out.dropLast ++ [y]) (fun z hz => by
          rcases List.mem_append.1 hz with hz | hz
          · exact ho z (List.dropLast_subset _ hz)
          · rw [List.mem_singleton.1 hz]; exact hy) hl' i g hi)
        have e1 : out ++ p :: l = out.dropLast ++ ([x, p] ++ l) := by
          rw [show out ++ p :: l = (out.dropLast ++ [x]) ++ p :: l by rw [hout], List.append_assoc]; rfl
        rw [e1, List.append_assoc]
        refine catL_ctx (fun U i g hi => D_in n U i g hi) (fun i g hi => ?_) _ _ i g hi
        rw [catL_one]
        show Qk 0 (bd (D s R dg n x i g) fun e g' => catL (D s R dg n) [p] e g') _
        rw [bd_congr _ fun e g' => catL_one (D s R dg n) p e g']
        exact join_cat hj hx hp n g hi
theorem fold_alt (n i : Nat) (g : List Gft) : ∀ (l out : List PT), Qk 0 (altL (D s R dg n) i g (out ++ l)) (altL (D s R dg n) i g (l.foldl (addP eitherP) out))
  | [], out => by rw [List.append_nil]; exact qk_refl _
  | p :: l, out => by
    rw [List.foldl_cons]
    cases hg : out.getLast? with
    | none =>
      obtain rfl : out = [] := List.getLast?_eq_none_iff.1 hg
      exact fold_alt n i g l [p]
    | some x =>
      have hout := last_two hg
      cases hj : eitherP x p with
      | none =>
        have e : addP eitherP out p = out ++ [p] := by unfold addP; rw [hg]; simp only [hj]
        rw [e, show out ++ p :: l = (out ++ [p]) ++ l by rw [List.append_assoc]; rfl]
        exact fold_alt n i g l (out ++ [p])
      | some y =>
        have e : addP eitherP out p = out.dropLast ++ [y] := by unfold addP; rw [hg]; simp only [hj]
        rw [e]
        refine qk_tr0 ?_ (fold_alt n i g l (out.dropLast ++ [y]))
        have e1 : out ++ p :: l = out.dropLast ++ ([x, p] ++ l) := by
          rw [show out ++ p :: l = (out.dropLast ++ [x]) ++ p :: l by rw [hout], List.append_assoc]; rfl
        rw [e1, List.append_assoc]
        refine altL_ctx ?_ _ _
        rw [altL_one]
        show Qk 0 (thn (D s R dg n x i g) (altL (D s R dg n) i g [p])) _
        rw [altL_one]
        exact join_alt hj n i g
theorem mkP_len (k : Int) (t : ByteArray) (m : Int) (nm : ByteArray) (l : List PT) : (mkP k t m nm l).len = l.length := rfl
theorem one_cat (n : Nat) (l : List PT) (i : Nat) (g : List Gft) : Qk 0 (put tk (catL (D s R dg n) l i g)) (D s R dg (n + 1) (oneOrP 18 l (litP ⟨#[]⟩)) i g) := by
  match l with
  | [] =>
    show Qk 0 (put tk (one (wy i g))) (D s R dg (n + 1) (litP ⟨#[]⟩) i g)
    rw [D_empty (p := litP ⟨#[]⟩) rfl]
    exact qk_refl _
  | [x] =>
    rw [catL_one]
    exact qk_tk (qk_le (qk_refl _) (D_le s R dg n x i g))
  | x :: y :: l =>
    show Qk 0 _ (D s R dg (n + 1) (mkP 18 ⟨#[]⟩ 0 ⟨#[]⟩ (x :: y :: l)) i g)
    rw [D18 rfl]
    have := catL_cats (D s R dg n) (mkP 18 ⟨#[]⟩ 0 ⟨#[]⟩ (x :: y :: l)) ((mkP 18 ⟨#[]⟩ 0 ⟨#[]⟩ (x :: y :: l)).len - 1) 0 i g (by rw [mkP_len]; simp)
    rw [List.drop_zero, mkP_lst] at this
    exact qk_put tk this
theorem one_alt (n : Nat) (l : List PT) (i : Nat) (g : List Gft) : Qk 0 (put tk (altL (D s R dg n) i g l)) (D s R dg (n + 1) (oneOrP 19 l (mkP 15 ⟨#[]⟩ 0 ⟨#[]⟩ [])) i g) := by
  match l with
  | [] =>
    show Qk 0 (put tk nil) (D s R dg (n + 1) (mkP 15 ⟨#[]⟩ 0 ⟨#[]⟩ []) i g)
    rw [D_fail (p := mkP 15 ⟨#[]⟩ 0 ⟨#[]⟩ []) rfl]
    exact qk_refl _
  | [x] =>
    rw [altL_one]
    exact qk_tk (qk_le (qk_refl _) (D_le s R dg n x i g))
  | x :: y :: l =>
    show Qk 0 _ (D s R dg (n + 1) (mkP 19 ⟨#[]⟩ 0 ⟨#[]⟩ (x :: y :: l)) i g)
    rw [D19 rfl]
    have := altL_alts (D s R dg n) (mkP 19 ⟨#[]⟩ 0 ⟨#[]⟩ (x :: y :: l)) i g (mkP 19 ⟨#[]⟩ 0 ⟨#[]⟩ (x :: y :: l)).len 0 (by omega)
    rw [List.drop_zero, mkP_lst] at this
    exact qk_put tk this
theorem cat_quick (n : Nat) {l : List PT} (h2 : ∀ x ∈ flatK 18 l, x.k = 2 → 0 ≤ x.n) (h18 : ∀ x ∈ l, x.k = 18 → 1 ≤ x.len) (i : Nat) (g : List Gft) (hi : i ≤ s.size) : Qk 0 (put tk (catL (D s R dg n) l i g)) (D s R dg (n + 1) (catP l) i g) := by
  refine qk_tr0 (qk_put tk ?_) (one_cat n _ i g)
  refine qk_tr0 (flat_cat n l h18 i g hi) (qk_tr0 (stay_cat n _ i g hi) ?_)
  exact fold_cat n (stay nev isE false (flatK 18 l)) [] (fun x hx => by cases hx) (fun x hx => h2 x (stay_mem hx).1) i g hi
theorem alt_quick (n : Nat) (l : List PT) (i : Nat) (g : List Gft) : Qk 0 (put tk (altL (D s R dg n) i g l)) (D s R dg (n + 1) (altP l) i g) := by
  refine qk_tr0 (qk_put tk ?_) (one_alt n _ i g)
  refine qk_tr0 (flat_alt n i g l) (qk_tr0 (stay_alt n i g _) ?_)
  exact fold_alt n i g (stay isA isF false (flatK 19 l)) []
theorem agn_quick {f f' : PT → Nat → List Gft → Sq} {T U : PT} (h : ∀ i g, i ≤ s.size → Qk 0 (f (T.kid 0) i g) (f' (U.kid 0) i g)) (ha : ∀ i g, i ≤ s.size → Inn s (f (T.kid 0) i g)) : ∀ m i g, i ≤ s.size → Qk 0 (agn f T m i g) (agn f' U m i g)
  | 0, _, _, _ => qk_bot 0 _
  | m + 1, i, g, hi => qk_put _ (qk_put _ (qk_bdi (h i g hi) (ha i g hi) fun e g' he => qk_put _ (by
      split
      · exact qk_refl _
      · exact agn_quick h ha m e g' he)))
theorem agn_none (n : Nat) (hk : (isF (U.kid 0) || isE (U.kid 0)) = true) (m i : Nat) (g : List Gft) : Qk 0 (agn (D s R dg n) U m i g) (one (wy i g)) := by
  cases m with
  | zero => exact qk_bot 0 _
  | succ m =>
    show Qk 0 (put (wy i g) (put hs (bd (D s R dg n (U.kid 0) i g) fun e g' => put hs (if e = i then nil else agn (D s R dg n) U m e g')))) (put (wy i g) nil)
    refine qk_put (wy i g) (qk_hl ?_)
    cases n with
    | zero => exact qk_bot 0 _
    | succ n =>
      rw [Bool.or_eq_true] at hk
      rcases hk with h | h
      · rw [D_fail h]
        exact qk_tk (qk_refl _)
      · rw [D_empty h, bd_tk, bd_one, if_pos rfl]
        exact qk_tk (qk_hl (qk_refl _))
theorem agn_arb (n : Nat) (h2 : (U.kid 0).k = 2) (h1 : (U.kid 0).n = 1) : ∀ m i g, i ≤ s.size → Qk 0 (agn (D s R dg n) U m i g) (arbs g (s.size + 1 - i) i)
  | 0, _, _, _ => qk_bot 0 _
  | m + 1, i, g, hi => by
    rw [show s.size + 1 - i = (s.size - i) + 1 by omega, arbs, agn]
    refine qk_hr (qk_put (wy i g) (qk_hl ?_))
    cases n with
    | zero => exact qk_bot 0 _
    | succ n =>
      rw [D_leaf (leaf_of (by omega) (by omega) (by omega) (by omega)), onl2 h2, h1, bd_tk]
      by_cases hq : i + (1 : Int).toNat ≤ s.size
      · rw [if_pos hq]
        have hq' : i + 1 ≤ s.size := hq
        show Qk 0 (put tk (bd (one (wy (i + 1) g)) _)) _
        rw [bd_one, if_neg (by omega), show s.size - i = s.size + 1 - (i + 1) by omega]
        exact qk_tk (qk_hl (agn_arb (n + 1) h2 h1 m (i + 1) g hq'))
      · rw [if_neg hq]
        have hq' : ¬ i + 1 ≤ s.size := hq
        rw [show s.size - i = 0 by omega]
        exact qk_tk (qk_hr (qk_refl _))
theorem untl_congr {t u : ByteArray} {w : Bool} (h : ∀ c, c < 256 → inB t c = inB u c) : ∀ n i, untl s t w n i = untl s u w n i
  | 0, _ => rfl
  | n + 1, i => by rw [untl, untl, h _ (byt_lt s i), untl_congr h n (i + 1)]
theorem unt_congr {t u : ByteArray} {w : Bool} (h : ∀ c, c < 256 → inB t c = inB u c) (i : Nat) : unt s t w i = unt s u w i := untl_congr h _ _
theorem bxs_congr {t u : ByteArray} (h : ∀ c, c < 256 → inB t c = inB u c) (g : List Gft) : ∀ n e, bxs s t g n e = bxs s u g n e
  | 0, _ => rfl
  | n + 1, e => by rw [bxs, bxs, unt_congr h e, bxs_congr h g n]
theorem leaf_same (hT : leafK T.k) (hU : leafK U.k) (h : onl s T i = onl s U i) : Qk 0 (D s R dg (n + 1) T i g) (D s R dg (n + 1) U i g) := by
  rw [D_leaf hT, D_leaf hU, h]
  exact qk_refl _
theorem fine_mem {x : PT} (h : FineS T) (hx : x ∈ T.lst) : FineS x := by
  obtain ⟨i, hi⟩ := List.mem_iff_getElem?.1 hx
  have hlt : i < T.len := by have := (List.getElem?_eq_some_iff.1 hi).1; rwa [PT.lst_len] at this
  rw [PT.lst_at hlt] at hi
  rw [← Option.some.inj hi]
  exact h.kid hlt
theorem mkP_kid {k : Int} {t : ByteArray} {m : Int} {nm : ByteArray} {x : PT} {l : List PT} : (mkP k t m nm (x :: l)).kid 0 = x := by
  rw [PT.kid_at (T := mkP k t m nm (x :: l)) (by rw [mkP_len]; simp)]
  rfl
theorem smp_pos {x : PT} (h : x.Smp) (hk : x.k = 2) : 0 ≤ x.n := Int.le_of_lt (len_pos h hk)
theorem simp_quick : ∀ T : PT, FineS T → ∀ n i g, i ≤ s.size → Qk 0 (D s R dg n T i g) (D s R dg n T.simp i g) := mem_lst_ind fun T ih hF n i g hi => by
  cases n with
  | zero => exact qk_bot 0 _
  | succ n =>
  have hok := hF.ok
  have hr := hok.1
  have ihm : ∀ x ∈ T.lst, ∀ i g, i ≤ s.size → Qk 0 (D s R dg n x i g) (D s R dg n x.simp i g) := fun x hx i g hi => ih x hx (fine_mem hF hx) n i g hi
  have hsm : ∀ x ∈ T.lst.map PT.simp, x.Smp := fun x hx => by
    obtain ⟨y, hy, rfl⟩ := List.mem_map.1 hx
    exact simp_smp y (fine_mem hF hy)
  have hl1 : T.k = 20 ∨ T.k = 21 ∨ T.k = 22 → T.lst = [T.kid 0] := fun h => by
    have hl := hok.2.2.2.2 h
    have := drop_lst (T := T) (j := 0) (by omega)
    rw [List.drop_zero] at this
    rw [this, List.drop_eq_nil_of_le (by rw [PT.lst_len]; omega)]
  have htx : ∀ c, c < 256 → inB T.t c = inB (txt (inB T.t)) c := fun c hc => (inB_txt _ c hc).symm
  rw [T.simp_eq]
  have hcase : T.k = 1 ∨ T.k = 3 ∨ T.k = 4 ∨ T.k = 5 ∨ T.k = 6 ∨ T.k = 7 ∨ T.k = 2 ∨ T.k = 8 ∨ T.k = 9 ∨ T.k = 10 ∨ T.k = 11 ∨ T.k = 18 ∨ T.k = 19 ∨ T.k = 20 ∨ T.k = 21 ∨ T.k = 22 ∨ T.k = 23 ∨ T.k = 24 ∨ T.k = 12 ∨ T.k = 13 ∨ T.k = 14 ∨ T.k = 15 ∨ T.k = 16 ∨ T.k = 17 := by omega
  unfold simpN
  rcases hcase with q | q | q | q | q | q | q | q | q | q | q | q | q | q | q | q | q | q | q | q | q | q | q | q
  · rw [if_pos q]
    exact leaf_same (leaf_of (by omega) (by omega) (by omega) (by omega)) (show leafK 1 by unfold leafK; decide) (by rw [onl1 q, onl1 (T := litP T.t) rfl]; rfl)
  · rw [if_neg (by omega), if_pos q]
    obtain ⟨l1, o1⟩ := one_onl (s := s) (i := i) (any_one (inB T.t))
    exact leaf_same (leaf_of (by omega) (by omega) (by omega) (by omega)) l1 (by rw [onl3 q, o1, any_t, inB_txt _ _ (byt_lt s i)])
  · rw [if_neg (by omega), if_neg (by omega), if_pos (by omega), q]
    exact leaf_same (leaf_of (by omega) (by omega) (by omega) (by omega)) (show leafK 4 by unfold leafK; decide) (by rw [onl4 q, onl4 (T := mkP 4 (txt (inB T.t)) 0 ⟨#[]⟩ []) rfl, htx _ (byt_lt s i)]; rfl)
  · rw [if_neg (by omega), if_neg (by omega), if_pos (by omega), q]
    exact leaf_same (leaf_of (by omega) (by omega) (by omega) (by omega)) (show leafK 5 by unfold leafK; decide) (by rw [onl5 q, onl5 (T := mkP 5 (txt (inB T.t)) 0 ⟨#[]⟩ []) rfl, unt_congr htx]; rfl)
  · rw [if_neg (by omega), if_neg (by omega), if_pos (by omega), q]
    exact leaf_same (leaf_of (by omega) (by omega) (by omega) (by omega)) (show leafK 6 by unfold leafK; decide) (by rw [onl6 q, onl6 (T := mkP 6 (txt (inB T.t)) 0 ⟨#[]⟩ []) rfl, unt_congr htx]; rfl)
  · rw [if_neg (by omega), if_neg (by omega), if_pos (by omega), q, D7 q, D7 (T := mkP 7 (txt (inB T.t)) 0 ⟨#[]⟩ []) rfl, bxs_congr htx]
    exact qk_refl _
  · rw [if_neg (by omega), if_neg (by omega), if_neg (by omega), if_pos (by omega), q]
    have hc := cnt2_k T.n
    exact leaf_same (leaf_of (by omega) (by omega) (by omega) (by omega)) (leaf_of (by omega) (by omega) (by omega) (by omega)) (by rw [onl2 q, cnt2_onl hi])
  · rw [if_neg (by omega), if_neg (by omega), if_neg (by omega), if_pos (by omega), q]
    unfold cntP
    rw [if_neg (by omega), if_neg (by omega)]
    exact leaf_same (leaf_of (by omega) (by omega) (by omega) (by omega)) (show leafK 8 by unfold leafK; decide) (by rw [onl8 q, onl8 (T := mkP 8 ⟨#[]⟩ T.n ⟨#[]⟩ []) rfl]; rfl)
  · rw [if_neg (by omega), if_neg (by omega), if_neg (by omega), if_pos (by omega), q]
    unfold cntP
    rw [if_neg (by omega)]
    split
    · rename_i h0
      exact leaf_same (leaf_of (by omega) (by omega) (by omega) (by omega)) (show leafK 12 by unfold leafK; decide) (by rw [onl9 q, onl12 (T := mkP 12 ⟨#[]⟩ 0 ⟨#[]⟩ []) rfl, h0.2, if_pos (show i + (0 : Int).toNat ≤ s.size from hi)]; rfl)
    · exact leaf_same (leaf_of (by omega) (by omega) (by omega) (by omega)) (show leafK 9 by unfold leafK; decide) (by rw [onl9 q, onl9 (T := mkP 9 ⟨#[]⟩ T.n ⟨#[]⟩ []) rfl]; rfl)
  · rw [if_neg (by omega), if_neg (by omega), if_neg (by omega), if_pos (by omega), q]
    unfold cntP
    rw [if_neg (by omega), if_neg (by omega)]
    exact leaf_same (leaf_of (by omega) (by omega) (by omega) (by omega)) (show leafK 10 by unfold leafK; decide) (by rw [onl10 q, onl10 (T := mkP 10 ⟨#[]⟩ T.n ⟨#[]⟩ []) rfl]; rfl)
  · rw [if_neg (by omega), if_neg (by omega), if_neg (by omega), if_pos (by omega), q]
    unfold cntP
    rw [if_neg (by omega), if_neg (by omega)]
    exact leaf_same (leaf_of (by omega) (by omega) (by omega) (by omega)) (show leafK 11 by unfold leafK; decide) (by rw [onl11 q, onl11 (T := mkP 11 ⟨#[]⟩ T.n ⟨#[]⟩ []) rfl]; rfl)
  · rw [if_neg (by omega), if_neg (by omega), if_neg (by omega), if_neg (by omega), if_pos q, D18 q]
    have hl := hok.2.2.2.1 (.inl q)
    have h0 := cats_catL (D s R dg n) T (T.len - 1) 0 i g (by omega)
    rw [List.drop_zero] at h0
    refine qk_tr0 (qk_put tk (qk_tr0 h0 (catL_map (fun U i g hi => D_in n U i g hi) T.lst ihm i g hi))) (cat_quick n (fun x hx hk => ?_) (fun x hx hk => ?_) i g hi)
    · rcases flatK_mem hx with ⟨h1, -⟩ | ⟨p, hp, -, hpx⟩
      · exact smp_pos (hsm x h1) hk
      · exact smp_pos (((Smp_iff p).1 (hsm p hp)).2 x hpx) hk
    · have := (((Smp_iff x).1 (hsm x hx)).1.k18 hk).2.2.2.1
      rw [PT.lst_len] at this
      omega
  · rw [if_neg (by omega), if_neg (by omega), if_neg (by omega), if_neg (by omega), if_neg (by omega), if_pos q, D19 q]
    have h0 := alts_altL (D s R dg n) T i g T.len 0 (by omega)
    rw [List.drop_zero] at h0
    exact qk_tr0 (qk_put tk (qk_tr0 h0 (altL_map T.lst fun x hx => ihm x hx i g hi))) (alt_quick n _ i g)
  · rw [if_neg (by omega), if_neg (by omega), if_neg (by omega), if_neg (by omega), if_neg (by omega), if_neg (by omega), if_pos q, D20 q, hl1 (.inl q)]
    have hm := ihm (T.kid 0) (by rw [hl1 (.inl q)]; exact List.mem_cons_self ..)
    have h0 := agn_quick (U := mkP 20 ⟨#[]⟩ 0 ⟨#[]⟩ [(T.kid 0).simp]) (f' := D s R dg n) (by rw [mkP_kid]; exact hm) (fun i g hi => D_in n (T.kid 0) i g hi) n i g hi
    show Qk 0 _ (D s R dg (n + 1) (arbP [(T.kid 0).simp]) i g)
    unfold arbP
    show Qk 0 _ (D s R dg (n + 1) (if (isF (T.kid 0).simp || isE (T.kid 0).simp) = true then _ else if (T.kid 0).simp.k = 2 ∧ (T.kid 0).simp.n = 1 then _ else _) i g)
    split
    · rename_i hz
      rw [D_empty (p := litP ⟨#[]⟩) rfl]
      exact qk_put tk (qk_tr0 h0 (agn_none n (by rw [mkP_kid]; exact hz) n i g))
    split
    · rename_i hz
      rw [D13 (T := mkP 13 ⟨#[]⟩ 0 ⟨#[]⟩ []) rfl]
      exact qk_put tk (qk_tr0 h0 (agn_arb n (by rw [mkP_kid]; exact hz.1) (by rw [mkP_kid]; exact hz.2) n i g hi))
    · rw [D20 (T := mkP 20 ⟨#[]⟩ 0 ⟨#[]⟩ [(T.kid 0).simp]) rfl]
      exact qk_put tk h0
  · rw [if_neg (by omega), if_neg (by omega), if_neg (by omega), if_neg (by omega), if_neg (by omega), if_neg (by omega), if_neg (by omega), if_pos (by omega), D21 q, hl1 (.inr (.inl q))]
    have hm := ihm (T.kid 0) (by rw [hl1 (.inr (.inl q))]; exact List.mem_cons_self ..) i g hi
    show Qk 0 _ (D s R dg (n + 1) (if nev (T.kid 0).simp = true then (T.kid 0).simp else mkP T.k ⟨#[]⟩ 0 T.nm [(T.kid 0).simp]) i g)
    split
    · rename_i hz
      have := qk_bd (f' := fun e g' => put hs (one (wy e (g' ++ [(T.nm, sub s i e)])))) (ok := fun _ => True) hm (fun _ _ _ => trivial) fun e g' _ => qk_refl _
      rw [nev_bd hz] at this
      exact qk_tk (qk_le this (D_le s R dg n _ i g))
    · rw [D21 (T := mkP T.k ⟨#[]⟩ 0 T.nm [(T.kid 0).simp]) q, mkP_kid]
      exact qk_put tk (qk_bd (ok := fun _ => True) hm (fun _ _ _ => trivial) fun e g' _ => qk_refl _)
  · rw [if_neg (by omega), if_neg (by omega), if_neg (by omega), if_neg (by omega), if_neg (by omega), if_neg (by omega), if_neg (by omega), if_pos (by omega), D22 q, hl1 (.inr (.inr q))]
    have hm := ihm (T.kid 0) (by rw [hl1 (.inr (.inr q))]; exact List.mem_cons_self ..) i g hi
    show Qk 0 _ (D s R dg (n + 1) (if nev (T.kid 0).simp = true then (T.kid 0).simp else mkP T.k ⟨#[]⟩ 0 T.nm [(T.kid 0).simp]) i g)
    split
    · rename_i hz
      have := qk_bd (f' := fun e g' => put (sd (T.nm, sub s i e)) (one (wy e g'))) (ok := fun _ => True) hm (fun _ _ _ => trivial) fun e g' _ => qk_refl _
      rw [nev_bd hz] at this
      exact qk_tk (qk_le this (D_le s R dg n _ i g))
    · rw [D22 (T := mkP T.k ⟨#[]⟩ 0 T.nm [(T.kid 0).simp]) q, mkP_kid]
      exact qk_put tk (qk_bd (ok := fun _ => True) hm (fun _ _ _ => trivial) fun e g' _ => qk_refl _)
  · rw [if_neg (by omega), if_neg (by omega), if_neg (by omega), if_neg (by omega), if_neg (by omega), if_neg (by omega), if_neg (by omega), if_neg (by omega), if_pos (by omega), D23 q, D23 (T := mkP T.k ⟨#[]⟩ 0 T.nm (T.lst.map PT.simp)) q]
    exact qk_refl _
  · rw [if_neg (by omega), if_neg (by omega), if_neg (by omega), if_neg (by omega), if_neg (by omega), if_neg (by omega), if_neg (by omega), if_neg (by omega), if_pos (by omega), D24 q, D24 (T := mkP T.k ⟨#[]⟩ 0 T.nm (T.lst.map PT.simp)) q]
    exact qk_refl _
  all_goals rw [if_neg (by omega), if_neg (by omega), if_neg (by omega), if_neg (by omega), if_neg (by omega), if_neg (by omega), if_neg (by omega), if_neg (by omega), if_neg (by omega)]
  · exact leaf_same (leaf_of (by omega) (by omega) (by omega) (by omega)) (show leafK T.k from leaf_of (by omega) (by omega) (by omega) (by omega)) (by rw [onl12 q, onl12 (T := mkP T.k ⟨#[]⟩ 0 ⟨#[]⟩ (T.lst.map PT.simp)) q])
  · rw [D13 q, D13 (T := mkP T.k ⟨#[]⟩ 0 ⟨#[]⟩ (T.lst.map PT.simp)) q]
    exact qk_refl _
  · rw [D14 q, D14 (T := mkP T.k ⟨#[]⟩ 0 ⟨#[]⟩ (T.lst.map PT.simp)) q]
    exact qk_refl _
  · rw [D_fail (p := T) (by unfold isF; rw [q]; rfl), D_fail (p := mkP T.k ⟨#[]⟩ 0 ⟨#[]⟩ (T.lst.map PT.simp)) (by unfold isF; show decide (T.k = 15) = true; rw [q]; rfl)]
    exact qk_refl _
  · rw [D16 q, D16 (T := mkP T.k ⟨#[]⟩ 0 ⟨#[]⟩ (T.lst.map PT.simp)) q]
    exact qk_refl _
  · rw [D17 q, D17 (T := mkP T.k ⟨#[]⟩ 0 ⟨#[]⟩ (T.lst.map PT.simp)) q]
    exact qk_refl _
end
end Go.Proofs.YtbmngbpillihaaaDoor
