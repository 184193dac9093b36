/- What is simpler is no larger and no deeper. -/
import Derived.Test.YtbmngbpillihaaaDoorSimpMadeP
namespace Go.Proofs.YtbmngbpillihaaaDoor
open Go.RowKit

def csum : List PT → Nat
  | [] => 0
  | x :: l => x.cnt + csum l
def dmax : List PT → Nat
  | [] => 0
  | x :: l => max x.dep (dmax l)
theorem csum_append : ∀ a b, csum (a ++ b) = csum a + csum b
  | [], b => by simp [csum]
  | x :: a, b => by rw [List.cons_append, csum, csum, csum_append a b]; omega
theorem dmax_append : ∀ a b, dmax (a ++ b) = max (dmax a) (dmax b)
  | [], b => by simp [dmax]
  | x :: a, b => by rw [List.cons_append, dmax, dmax, dmax_append a b]; omega
theorem sumTo_lst (f : PT → Nat) : ∀ (l : List PT) (n : Nat), n ≤ l.length → sumTo (fun i => f (l.getD i PT.nul)) n = ((l.take n).map f).sum
  | l, 0, _ => by simp [sumTo]
  | l, n + 1, h => by
    rw [sumTo, sumTo_lst f l n (by omega), List.take_succ_eq_append_getElem (by omega), List.map_append, List.sum_append]
    simp [List.getD_eq_getElem?_getD, List.getElem?_eq_getElem (show n < l.length by omega)]
theorem csum_sum : ∀ l, csum l = (l.map PT.cnt).sum
  | [] => rfl
  | x :: l => by rw [csum, List.map_cons, List.sum_cons, csum_sum l]
theorem kid_lst (T : PT) (i : Nat) : T.kid i = T.lst.getD i PT.nul := by
  by_cases h : i < T.len
  · rw [List.getD_eq_getElem?_getD, PT.lst_at h]; rfl
  · rw [List.getD_eq_getElem?_getD, List.getElem?_eq_none (by rw [PT.lst_len]; omega)]
    unfold PT.kid
    rw [dif_neg h]
    rfl
theorem cnt_lst (T : PT) : T.cnt = 1 + csum T.lst := by
  rw [T.cnt_eq, csum_sum]
  have := sumTo_lst PT.cnt T.lst T.len (by rw [PT.lst_len]; exact Nat.le_refl _)
  rw [List.take_of_length_le (by rw [PT.lst_len]; exact Nat.le_refl _)] at this
  rw [← this]
  exact congrArg (1 + ·) (sumTo_congr _ fun i _ => by rw [kid_lst])
theorem dmax_le {d : Nat} : ∀ {l : List PT}, (∀ x ∈ l, x.dep ≤ d) → dmax l ≤ d
  | [], _ => Nat.zero_le _
  | x :: l, h => by
    have h1 := h x List.mem_cons_self
    have h2 := dmax_le (l := l) fun y hy => h y (List.mem_cons_of_mem _ hy)
    rw [dmax]; omega
theorem le_dmax : ∀ {l : List PT} {x : PT}, x ∈ l → x.dep ≤ dmax l
  | y :: l, x, h => by
    rw [dmax]
    rcases List.mem_cons.1 h with rfl | h
    · omega
    · have := le_dmax h; omega
theorem maxTo_of (f : Nat → Nat) (d : Nat) : ∀ n, (∀ i, i < n → f i ≤ d) → maxTo f n ≤ d
  | 0, _ => Nat.zero_le _
  | n + 1, h => by
    have h1 := maxTo_of f d n fun i hi => h i (by omega)
    have h2 := h n (by omega)
    rw [maxTo]; omega
theorem le_maxTo (f : Nat → Nat) : ∀ n i, i < n → f i ≤ maxTo f n
  | n + 1, i, h => by
    rw [maxTo]
    rcases Nat.lt_or_ge i n with q | q
    · have := le_maxTo f n i q; omega
    · obtain rfl : i = n := by omega
      omega
theorem dep_lst (T : PT) : T.dep = 1 + dmax T.lst := by
  rw [T.dep_eq]
  have h1 : maxTo (fun i => (T.kid i).dep) T.len ≤ dmax T.lst := maxTo_of _ _ _ fun i hi => le_dmax (List.mem_of_getElem? (PT.lst_at hi))
  have h2 : dmax T.lst ≤ maxTo (fun i => (T.kid i).dep) T.len := dmax_le fun x hx => by
    obtain ⟨i, hi⟩ := List.mem_iff_getElem?.1 hx
    have hlt : i < T.len := by have := (List.getElem?_eq_some_iff.1 hi).1; rwa [PT.lst_len] at this
    rw [PT.lst_at hlt] at hi
    rw [← Option.some.inj hi]
    exact le_maxTo (fun i => (T.kid i).dep) T.len i hlt
  omega
theorem mkP_cnt (k : Int) (t : ByteArray) (n : Int) (nm : ByteArray) (l : List PT) : (mkP k t n nm l).cnt = 1 + csum l := by rw [cnt_lst, mkP_lst]
theorem mkP_dep (k : Int) (t : ByteArray) (n : Int) (nm : ByteArray) (l : List PT) : (mkP k t n nm l).dep = 1 + dmax l := by rw [dep_lst, mkP_lst]
theorem any_cnt (p : Nat → Bool) : (anyP p).cnt = 1 ∧ (anyP p).dep = 1 := by
  unfold anyP
  by_cases h : (tx p 256).length = 1
  · rw [if_pos h]; exact ⟨mkP_cnt .., mkP_dep ..⟩
  · rw [if_neg h]; exact ⟨mkP_cnt .., mkP_dep ..⟩
theorem cntP_cnt (k n : Int) : (cntP k n).cnt = 1 ∧ (cntP k n).dep = 1 := by
  unfold cntP
  split
  · exact ⟨mkP_cnt .., mkP_dep ..⟩
  · split
    · exact ⟨mkP_cnt .., mkP_dep ..⟩
    · exact ⟨mkP_cnt .., mkP_dep ..⟩
section
variable {last idle : PT → Bool} {join : PT → PT → Option PT}
theorem stay_less : ∀ (l : List PT) (ov : Bool), csum (stay last idle ov l) ≤ csum l ∧ dmax (stay last idle ov l) ≤ dmax l
  | [], ov => by cases ov <;> exact ⟨Nat.le_refl _, Nat.le_refl _⟩
  | p :: l, true => by rw [stay_over]; exact ⟨Nat.zero_le _, Nat.zero_le _⟩
  | p :: l, false => by
    rw [stay]
    split
    · have := stay_less l false
      rw [csum, dmax]; omega
    · have := stay_less l (last p)
      rw [csum, dmax, csum, dmax]; omega
theorem flatK_less (k : Int) : ∀ l : List PT, csum (flatK k l) ≤ csum l ∧ dmax (flatK k l) ≤ dmax l
  | [] => ⟨Nat.le_refl _, Nat.le_refl _⟩
  | p :: l => by
    have ih := flatK_less k l
    have e : flatK k (p :: l) = (if p.k = k then p.lst else [p]) ++ flatK k l := List.flatMap_cons
    rw [e, csum_append, dmax_append, csum, dmax]
    split
    · have h1 := cnt_lst p
      have h2 := dep_lst p
      omega
    · have h1 : csum [p] = p.cnt := by simp [csum]
      have h2 : dmax [p] = p.dep := by simp [dmax]
      rw [h1, h2]; omega
theorem add_less (hj : ∀ x p y, join x p = some y → y.cnt = 1 ∧ y.dep = 1) (out : List PT) (p : PT) : csum (addP join out p) ≤ csum out + p.cnt ∧ dmax (addP join out p) ≤ max (dmax out) p.dep := by
  rcases List.eq_nil_or_concat out with rfl | ⟨pre, x, rfl⟩
  · have e : addP join [] p = [p] := rfl
    rw [e]
    simp [csum, dmax]
  · have hgl : (pre.concat x).getLast? = some x := by simp
    rw [List.concat_eq_append] at *
    unfold addP
    rw [hgl]
    show csum (match join x p with | some z => (pre ++ [x]).dropLast ++ [z] | none => pre ++ [x] ++ [p]) ≤ _ ∧ dmax (match join x p with | some z => (pre ++ [x]).dropLast ++ [z] | none => pre ++ [x] ++ [p]) ≤ _
    have hx1 := x.cnt_pos
    have hx2 := x.dep_pos
    cases hq : join x p with
    | some y =>
      obtain ⟨y1, y2⟩ := hj x p y hq
      simp only [List.dropLast_concat, csum_append, dmax_append, csum, dmax]
      omega
    | none =>
      simp only [csum_append, dmax_append, csum, dmax]
      omega
theorem fold_less (hj : ∀ x p y, join x p = some y → y.cnt = 1 ∧ y.dep = 1) : ∀ (L out : List PT), csum (L.foldl (addP join) out) ≤ csum out + csum L ∧ dmax (L.foldl (addP join) out) ≤ max (dmax out) (dmax L)
  | [], out => by simp [csum, dmax]
  | p :: L, out => by
    rw [List.foldl_cons]
    have h1 := add_less hj out p
    have h2 := fold_less hj L (addP join out p)
    rw [csum, dmax]
    omega
theorem few_less (hj : ∀ x p y, join x p = some y → y.cnt = 1 ∧ y.dep = 1) (k : Int) (l : List PT) : csum (fewP k last idle join l) ≤ csum l ∧ dmax (fewP k last idle join l) ≤ dmax l := by
  unfold fewP
  have h1 := fold_less hj (stay last idle false (flatK k l)) []
  have h2 := stay_less (last := last) (idle := idle) (flatK k l) false
  have h3 := flatK_less k l
  have e1 : csum [] = 0 := rfl
  have e2 : dmax [] = 0 := rfl
  rw [e1, e2] at h1
  omega
end
theorem oneOr_less {k : Int} {R : List PT} {z : PT} (hz : z.cnt = 1 ∧ z.dep = 1) : (oneOrP k R z).cnt ≤ 1 + csum R ∧ (oneOrP k R z).dep ≤ 1 + dmax R := by
  match R with
  | [] => show z.cnt ≤ _ ∧ z.dep ≤ _; rw [hz.1, hz.2]; exact ⟨Nat.le_add_right _ _, Nat.le_add_right _ _⟩
  | [x] => show x.cnt ≤ _ ∧ x.dep ≤ _; rw [csum, dmax]; omega
  | x :: y :: R => show (mkP k _ _ _ (x :: y :: R)).cnt ≤ _ ∧ (mkP k _ _ _ (x :: y :: R)).dep ≤ _; rw [mkP_cnt, mkP_dep]; exact ⟨Nat.le_refl _, Nat.le_refl _⟩
theorem behind_leaf (x p y : PT) (h : behindP x p = some y) : y.cnt = 1 ∧ y.dep = 1 := by
  rcases behind_some h with ⟨-, -, -, e⟩ | ⟨-, -, -, e⟩
  · rw [e]; exact ⟨mkP_cnt .., mkP_dep ..⟩
  · rw [e]; exact cntP_cnt _ _
theorem either_leaf (x p y : PT) (h : eitherP x p = some y) : y.cnt = 1 ∧ y.dep = 1 := by
  obtain ⟨-, -, e⟩ := either_some h
  rw [e]; exact any_cnt _
theorem getD_less {l : List PT} : (l.getD 0 PT.nul).cnt ≤ 1 + csum l ∧ (l.getD 0 PT.nul).dep ≤ 1 + dmax l := by
  cases l with
  | nil => decide
  | cons x l => show x.cnt ≤ _ ∧ x.dep ≤ _; rw [csum, dmax]; omega
theorem simpN_less (k : Int) (t : ByteArray) (n : Int) (nm : ByteArray) (l : List PT) : (simpN k t n nm l).cnt ≤ 1 + csum l ∧ (simpN k t n nm l).dep ≤ 1 + dmax l := by
  have h1 : ∀ z : PT, z.cnt = 1 ∧ z.dep = 1 → z.cnt ≤ 1 + csum l ∧ z.dep ≤ 1 + dmax l := fun z hz => by omega
  have hm : ∀ k t n nm, (mkP k t n nm l).cnt ≤ 1 + csum l ∧ (mkP k t n nm l).dep ≤ 1 + dmax l := fun k t n nm => by rw [mkP_cnt, mkP_dep]; exact ⟨Nat.le_refl _, Nat.le_refl _⟩
  have h0 : ∀ k t n nm, (mkP k t n nm []).cnt = 1 ∧ (mkP k t n nm []).dep = 1 := fun k t n nm => ⟨mkP_cnt .., mkP_dep ..⟩
  unfold simpN
  split
  · exact h1 _ (h0 ..)
  split
  · exact h1 _ (any_cnt _)
  split
  · exact h1 _ (h0 ..)
  split
  · exact h1 _ (cntP_cnt _ _)
  split
  · have a := few_less (last := nev) (idle := isE) behind_leaf 18 l
    have b := oneOr_less (k := 18) (R := fewP 18 nev isE behindP l) (z := litP ⟨#[]⟩) (h0 ..)
    unfold catP
    omega
  split
  · have a := few_less (last := isA) (idle := isF) either_leaf 19 l
    have b := oneOr_less (k := 19) (R := fewP 19 isA isF eitherP l) (z := mkP 15 ⟨#[]⟩ 0 ⟨#[]⟩ []) (h0 ..)
    unfold altP
    omega
  split
  · unfold arbP
    split
    · exact h1 _ (h0 ..)
    split
    · exact h1 _ (h0 ..)
    · exact hm ..
  split
  · split
    · exact getD_less
    · exact hm ..
  split
  · exact hm ..
  · exact hm ..
theorem simp_less : ∀ T : PT, T.simp.cnt ≤ T.cnt ∧ T.simp.dep ≤ T.dep := mem_lst_ind fun T ih => by
  have h := simpN_less T.k T.t T.n T.nm (T.lst.map PT.simp)
  rw [← PT.simp_eq] at h
  have hs : ∀ l : List PT, (∀ x ∈ l, x.simp.cnt ≤ x.cnt ∧ x.simp.dep ≤ x.dep) → csum (l.map PT.simp) ≤ csum l ∧ dmax (l.map PT.simp) ≤ dmax l := fun l => by
    induction l with
    | nil => intro _; exact ⟨Nat.le_refl _, Nat.le_refl _⟩
    | cons x l hl =>
      intro hx
      have a := hx x List.mem_cons_self
      have b := hl fun y hy => hx y (List.mem_cons_of_mem _ hy)
      rw [List.map_cons, csum, csum, dmax, dmax]
      omega
  have := hs T.lst ih
  have c := cnt_lst T
  have d := dep_lst T
  omega
end Go.Proofs.YtbmngbpillihaaaDoor
