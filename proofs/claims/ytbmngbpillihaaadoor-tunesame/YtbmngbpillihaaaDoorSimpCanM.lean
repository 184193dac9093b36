/- What is simpler is no larger and no deeper. What is simpler is right. Where a pattern lies does not count: its size, its depth, what is wrong with it. -/
import Derived.Test.YtbmngbpillihaaaDoorSimpQuickM
namespace Go.Proofs.YtbmngbpillihaaaDoor
open Go.RowKit

def csum : List PT → Nat
  | [] => 0
  | x :: l => x.cnt + csum l
def dmax : List PT → Nat
  | [] => 0
  | x :: l => max x.dep (dmax l)
theorem csum_append : ∀ a b, csum (a ++ b) = csum a + csum b
  | [], b => by simp [csum]
  | x :: a, b => by rw [List.cons_append, csum, csum, csum_append a b]; omega
theorem dmax_append : ∀ a b, dmax (a ++ b) = max (dmax a) (dmax b)
  | [], b => by simp [dmax]
  | x :: a, b => by rw [List.cons_append, dmax, dmax, dmax_append a b]; omega
theorem sumTo_lst (f : PT → Nat) : ∀ (l : List PT) (n : Nat), n ≤ l.length → sumTo (fun i => f (l.getD i PT.nul)) n = ((l.take n).map f).sum
  | l, 0, _ => by simp [sumTo]
  | l, n + 1, h => by
    rw [sumTo, sumTo_lst f l n (by omega), List.take_succ_eq_append_getElem (by omega), List.map_append, List.sum_append]
    simp [List.getD_eq_getElem?_getD, List.getElem?_eq_getElem (show n < l.length by omega)]
theorem csum_sum : ∀ l, csum l = (l.map PT.cnt).sum
  | [] => rfl
  | x :: l => by rw [csum, List.map_cons, List.sum_cons, csum_sum l]
theorem kid_lst (T : PT) (i : Nat) : T.kid i = T.lst.getD i PT.nul := by
  by_cases h : i < T.len
  · rw [List.getD_eq_getElem?_getD, PT.lst_at h]; rfl
  · rw [List.getD_eq_getElem?_getD, List.getElem?_eq_none (by rw [PT.lst_len]; omega)]
    unfold PT.kid
    rw [dif_neg h]
    rfl
theorem cnt_lst (T : PT) : T.cnt = 1 + csum T.lst := by
  rw [T.cnt_eq, csum_sum]
  have := sumTo_lst PT.cnt T.lst T.len (by rw [PT.lst_len]; exact Nat.le_refl _)
  rw [List.take_of_length_le (by rw [PT.lst_len]; exact Nat.le_refl _)] at this
  rw [← this]
  exact congrArg (1 + ·) (sumTo_congr _ fun i _ => by rw [kid_lst])
theorem dmax_le {d : Nat} : ∀ {l : List PT}, (∀ x ∈ l, x.dep ≤ d) → dmax l ≤ d
  | [], _ => Nat.zero_le _
  | x :: l, h => by
    have h1 := h x List.mem_cons_self
    have h2 := dmax_le (l := l) fun y hy => h y (List.mem_cons_of_mem _ hy)
    rw [dmax]; omega
theorem le_dmax : ∀ {l : List PT} {x : PT}, x ∈ l → x.dep ≤ dmax l
  | y :: l, x, h => by
    rw [dmax]
    rcases List.mem_cons.1 h with rfl | h
    · omega
    · have := le_dmax h; omega
theorem maxTo_of (f : Nat → Nat) (d : Nat) : ∀ n, (∀ i, i < n → f i ≤ d) → maxTo f n ≤ d
  | 0, _ => Nat.zero_le _
  | n + 1, h => by
    have h1 := maxTo_of f d n fun i hi => h i (by omega)
    have h2 := h n (by omega)
    rw [maxTo]; omega
theorem le_maxTo (f : Nat → Nat) : ∀ n i, i < n → f i ≤ maxTo f n
  | n + 1, i, h => by
    rw [maxTo]
    rcases Nat.lt_or_ge i n with q | q
    · have := le_maxTo f n i q; omega
    · obtain rfl : i = n := by omega
      omega
theorem dep_lst (T : PT) : T.dep = 1 + dmax T.lst := by
  rw [T.dep_eq]
  have h1 : maxTo (fun i => (T.kid i).dep) T.len ≤ dmax T.lst := maxTo_of _ _ _ fun i hi => le_dmax (List.mem_of_getElem? (PT.lst_at hi))
  have h2 : dmax T.lst ≤ maxTo (fun i => (T.kid i).dep) T.len := dmax_le fun x hx => by
    obtain ⟨i, hi⟩ := List.mem_iff_getElem?.1 hx
    have hlt : i < T.len := by have := (List.getElem?_eq_some_iff.1 hi).1; rwa [PT.lst_len] at this
    rw [PT.lst_at hlt] at hi
    rw [← Option.some.inj hi]
    exact le_maxTo (fun i => (T.kid i).dep) T.len i hlt
  omega
theorem mkP_cnt (k : Int) (t : ByteArray) (n : Int) (nm : ByteArray) (l : List PT) : (mkP k t n nm l).cnt = 1 + csum l := by rw [cnt_lst, mkP_lst]
theorem mkP_dep (k : Int) (t : ByteArray) (n : Int) (nm : ByteArray) (l : List PT) : (mkP k t n nm l).dep = 1 + dmax l := by rw [dep_lst, mkP_lst]
theorem any_cnt (p : Nat → Bool) : (anyP p).cnt = 1 ∧ (anyP p).dep = 1 := by
  unfold anyP
  by_cases h : (tx p 256).length = 1
  · rw [if_pos h]; exact ⟨mkP_cnt .., mkP_dep ..⟩
  · rw [if_neg h]; exact ⟨mkP_cnt .., mkP_dep ..⟩
theorem cntP_cnt (k n : Int) : (cntP k n).cnt = 1 ∧ (cntP k n).dep = 1 := by
  unfold cntP
  split
  · exact ⟨mkP_cnt .., mkP_dep ..⟩
  · split
    · exact ⟨mkP_cnt .., mkP_dep ..⟩
    · exact ⟨mkP_cnt .., mkP_dep ..⟩
section
variable {last idle : PT → Bool} {join : PT → PT → Option PT}
theorem stay_less : ∀ (l : List PT) (ov : Bool), csum (stay last idle ov l) ≤ csum l ∧ dmax (stay last idle ov l) ≤ dmax l
  | [], ov => by cases ov <;> exact ⟨Nat.le_refl _, Nat.le_refl _⟩
  | p :: l, true => by rw [stay_over]; exact ⟨Nat.zero_le _, Nat.zero_le _⟩
  | p :: l, false => by
    rw [stay]
    split
    · have := stay_less l false
      rw [csum, dmax]; omega
    · have := stay_less l (last p)
      rw [csum, dmax, csum, dmax]; omega
theorem flatK_less (k : Int) : ∀ l : List PT, csum (flatK k l) ≤ csum l ∧ dmax (flatK k l) ≤ dmax l
  | [] => ⟨Nat.le_refl _, Nat.le_refl _⟩
  | p :: l => by
    have ih := flatK_less k l
    have e : flatK k (p :: l) = (if p.k = k then p.lst else [p]) ++ flatK k l := List.flatMap_cons
    rw [e, csum_append, dmax_append, csum, dmax]
    split
    · have h1 := cnt_lst p
      have h2 := dep_lst p
      omega
    · have h1 : csum [p] = p.cnt := by simp [csum]
      have h2 : dmax [p] = p.dep := by simp [dmax]
      rw [h1, h2]; omega
theorem add_less (hj : ∀ x p y, join x p = some y → y.cnt = 1 ∧ y.dep = 1) (out : List PT) (p : PT) : csum (addP join out p) ≤ csum out + p.cnt ∧ dmax (addP join out p) ≤ max (dmax out) p.dep := by
  rcases List.eq_nil_or_concat out with rfl | ⟨pre, x, rfl⟩
  · have e : addP join [] p = [p] := rfl
    rw [e]
    simp [csum, dmax]
  · have hgl : (pre.concat x).getLast? = some x := by simp
    rw [List.concat_eq_append] at *
    unfold addP
    rw [hgl]
    show csum (match join x p with | some z => (pre ++ [x]).dropLast ++ [z] | none => pre ++ [x] ++ [p]) ≤ _ ∧ dmax (match join x p with | some z => (pre ++ [x]).dropLast ++ [z] | none => pre ++ [x] ++ [p]) ≤ _
    have hx1 := x.cnt_pos
    have hx2 := x.dep_pos
    cases hq : join x p with
    | some y =>
      obtain ⟨y1, y2⟩ := hj x p y hq
      simp only [List.dropLast_concat, csum_append, dmax_append, csum, dmax]
      omega
    | none =>
      simp only [csum_append, dmax_append, csum, dmax]
      omega
theorem fold_less (hj : ∀ x p y, join x p = some y → y.cnt = 1 ∧ y.dep = 1) : ∀ (L out : List PT), csum (L.foldl (addP join) out) ≤ csum out + csum L ∧ dmax (L.foldl (addP join) out) ≤ max (dmax out) (dmax L)
  | [], out => by simp [csum, dmax]
  | p :: L, out => by
    rw [List.foldl_cons]
    have h1 := add_less hj out p
    have h2 := fold_less hj L (addP join out p)
    rw [csum, dmax]
    omega
theorem few_less (hj : ∀ x p y, join x p = some y → y.cnt = 1 ∧ y.dep = 1) (k : Int) (l : List PT) : csum (fewP k last idle join l) ≤ csum l ∧ dmax (fewP k last idle join l) ≤ dmax l := by
  unfold fewP
  have h1 := fold_less hj (stay last idle false (flatK k l)) []
  have h2 := stay_less (last := last) (idle := idle) (flatK k l) false
  have h3 := flatK_less k l
  have e1 : csum [] = 0 := rfl
  have e2 : dmax [] = 0 := rfl
  rw [e1, e2] at h1
  omega
end
theorem oneOr_less {k : Int} {R : List PT} {z : PT} (hz : z.cnt = 1 ∧ z.dep = 1) : (oneOrP k R z).cnt ≤ 1 + csum R ∧ (oneOrP k R z).dep ≤ 1 + dmax R := by
  match R with
  | [] => show z.cnt ≤ _ ∧ z.dep ≤ _; rw [hz.1, hz.2]; exact ⟨Nat.le_add_right _ _, Nat.le_add_right _ _⟩
  | [x] => show x.cnt ≤ _ ∧ x.dep ≤ _; rw [csum, dmax]; omega
  | x :: y :: R => show (mkP k _ _ _ (x :: y :: R)).cnt ≤ _ ∧ (mkP k _ _ _ (x :: y :: R)).dep ≤ _; rw [mkP_cnt, mkP_dep]; exact ⟨Nat.le_refl _, Nat.le_refl _⟩
theorem behind_leaf (x p y : PT) (h : behindP x p = some y) : y.cnt = 1 ∧ y.dep = 1 := by
  rcases behind_some h with ⟨-, -, -, e⟩ | ⟨-, -, -, e⟩
  · rw [e]; exact ⟨mkP_cnt .., mkP_dep ..⟩
  · rw [e]; exact cntP_cnt _ _
theorem either_leaf (x p y : PT) (h : eitherP x p = some y) : y.cnt = 1 ∧ y.dep = 1 := by
  obtain ⟨-, -, e⟩ := either_some h
  rw [e]; exact any_cnt _
theorem getD_less {l : List PT} : (l.getD 0 PT.nul).cnt ≤ 1 + csum l ∧ (l.getD 0 PT.nul).dep ≤ 1 + dmax l := by
  cases l with
  | nil => decide
  | cons x l => show x.cnt ≤ _ ∧ x.dep ≤ _; rw [csum, dmax]; omega
theorem simpN_less (k : Int) (t : ByteArray) (n : Int) (nm : ByteArray) (l : List PT) : (simpN k t n nm l).cnt ≤ 1 + csum l ∧ (simpN k t n nm l).dep ≤ 1 + dmax l := by
  have h1 : ∀ z : PT, z.cnt = 1 ∧ z.dep = 1 → z.cnt ≤ 1 + csum l ∧ z.dep ≤ 1 + dmax l := fun z hz => by omega
  have hm : ∀ k t n nm, (mkP k t n nm l).cnt ≤ 1 + csum l ∧ (mkP k t n nm l).dep ≤ 1 + dmax l := fun k t n nm => by rw [mkP_cnt, mkP_dep]; exact ⟨Nat.le_refl _, Nat.le_refl _⟩
  have h0 : ∀ k t n nm, (mkP k t n nm []).cnt = 1 ∧ (mkP k t n nm []).dep = 1 := fun k t n nm => ⟨mkP_cnt .., mkP_dep ..⟩
  unfold simpN
  split
  · exact h1 _ (h0 ..)
  split
  · exact h1 _ (any_cnt _)
  split
  · exact h1 _ (h0 ..)
  split
  · exact h1 _ (cntP_cnt _ _)
  split
  · have a := few_less (last := nev) (idle := isE) behind_leaf 18 l
    have b := oneOr_less (k := 18) (R := fewP 18 nev isE behindP l) (z := litP ⟨#[]⟩) (h0 ..)
    unfold catP
    omega
  split
  · have a := few_less (last := isA) (idle := isF) either_leaf 19 l
    have b := oneOr_less (k := 19) (R := fewP 19 isA isF eitherP l) (z := mkP 15 ⟨#[]⟩ 0 ⟨#[]⟩ []) (h0 ..)
    unfold altP
    omega
  split
  · unfold arbP
    split
    · exact h1 _ (h0 ..)
    split
    · exact h1 _ (h0 ..)
    · exact hm ..
  split
  · split
    · exact getD_less
    · exact hm ..
  split
  · exact hm ..
  · exact hm ..
theorem simp_less : ∀ T : PT, T.simp.cnt ≤ T.cnt ∧ T.simp.dep ≤ T.dep := mem_lst_ind fun T ih => by
  have h := simpN_less T.k T.t T.n T.nm (T.lst.map PT.simp)
  rw [← PT.simp_eq] at h
  have hs : ∀ l : List PT, (∀ x ∈ l, x.simp.cnt ≤ x.cnt ∧ x.simp.dep ≤ x.dep) → csum (l.map PT.simp) ≤ csum l ∧ dmax (l.map PT.simp) ≤ dmax l := fun l => by
    induction l with
    | nil => intro _; exact ⟨Nat.le_refl _, Nat.le_refl _⟩
    | cons x l hl =>
      intro hx
      have a := hx x List.mem_cons_self
      have b := hl fun y hy => hx y (List.mem_cons_of_mem _ hy)
      rw [List.map_cons, csum, csum, dmax, dmax]
      omega
  have := hs T.lst ih
  have c := cnt_lst T
  have d := dep_lst T
  omega
end Go.Proofs.YtbmngbpillihaaaDoor

namespace Go.Proofs.YtbmngbpillihaaaDoor
open Go.RowKit

theorem firstS {f : Nat → Int} : ∀ {n : Nat}, firstTo f n = 0 ↔ ∀ i, i < n → f i = 0
  | 0 => ⟨fun _ i hi => absurd hi (Nat.not_lt_zero _), fun _ => rfl⟩
  | n + 1 => by
    rw [firstTo]
    constructor
    · intro h i hi
      by_cases q : firstTo f n = 0
      · rw [if_pos q] at h
        rcases Nat.lt_or_ge i n with z | z
        · exact firstS.1 q i z
        · obtain rfl : i = n := by omega
          exact h
      · rw [if_neg q] at h
        exact absurd h q
    · intro h
      rw [if_pos (firstS.2 fun i hi => h i (by omega))]
      exact h n (by omega)
theorem bad_lst (T : PT) : T.bad = 0 ↔ errN T = 0 ∧ ∀ x ∈ T.lst, x.bad = 0 := by
  rw [T.bad_eq]
  by_cases h : errN T = 0
  · rw [if_pos h, firstS]
    constructor
    · intro q
      refine ⟨h, fun x hx => ?_⟩
      obtain ⟨i, hi⟩ := List.mem_iff_getElem?.1 hx
      have hlt : i < T.len := by have := (List.getElem?_eq_some_iff.1 hi).1; rwa [PT.lst_len] at this
      rw [PT.lst_at hlt] at hi
      rw [← Option.some.inj hi]
      exact q i hlt
    · rintro ⟨-, q⟩ i hi
      exact q _ (List.mem_of_getElem? (PT.lst_at hi))
  · rw [if_neg h]
    exact ⟨fun q => absurd q h, fun q => absurd q.1 h⟩
structure Rt (k : Int) (t : ByteArray) (n : Int) (nm : ByteArray) (len : Nat) : Prop where
  rng : 1 ≤ k ∧ k ≤ 24
  long : k = 1 ∨ (3 ≤ k ∧ k ≤ 7) → t.size ≤ 65536
  some : 3 ≤ k ∧ k ≤ 7 → 0 < t.size
  num : k = 2 ∨ (8 ≤ k ∧ k ≤ 11) → 0 ≤ n ∧ n ≤ 65536
  name : 21 ≤ k ∧ k ≤ 24 → named nm = true
  two : k = 18 ∨ k = 19 → 2 ≤ len ∧ len ≤ 4096
  one : 20 ≤ k ∧ k ≤ 22 → len = 1
  none : k ≤ 17 ∨ 23 ≤ k → len = 0
theorem errN_iff (T : PT) : errN T = 0 ↔ Rt T.k T.t T.n T.nm T.len := by
  unfold errN
  by_cases h0 : T.k < 1 ∨ 24 < T.k
  · rw [if_pos h0]
    exact ⟨fun h => absurd h (by decide), fun h => by have := h.rng; omega⟩
  rw [if_neg h0]
  have a1 : hasK T.k = 1 ↔ (T.k = 1 ∨ (3 ≤ T.k ∧ T.k ≤ 7)) := by unfold hasK; split <;> (try split) <;> (try split) <;> omega
  have a2 : hasK T.k = 2 ↔ (T.k = 2 ∨ (8 ≤ T.k ∧ T.k ≤ 11)) := by unfold hasK; split <;> (try split) <;> (try split) <;> omega
  have a3 : hasK T.k = 3 ↔ (21 ≤ T.k ∧ T.k ≤ 24) := by unfold hasK; split <;> (try split) <;> (try split) <;> omega
  by_cases h1 : hasK T.k = 1 ∧ 65536 < T.t.size
  · rw [if_pos h1]
    exact ⟨fun h => absurd h (by decide), fun h => by have := h.long (a1.1 h1.1); omega⟩
  rw [if_neg h1]
  by_cases h2 : hasK T.k = 1 ∧ T.k ≠ 1 ∧ T.t.size = 0
  · rw [if_pos h2]
    exact ⟨fun h => absurd h (by decide), fun h => by have := h.some (by have := a1.1 h2.1; omega); omega⟩
  rw [if_neg h2]
  by_cases h3 : hasK T.k = 2 ∧ (T.n < 0 ∨ 65536 < T.n)
  · rw [if_pos h3]
    exact ⟨fun h => absurd h (by decide), fun h => by have := h.num (a2.1 h3.1); omega⟩
  rw [if_neg h3]
  by_cases h4 : hasK T.k = 3 ∧ named T.nm = false
  · rw [if_pos h4]
    exact ⟨fun h => absurd h (by decide), fun h => by have := h.name (a3.1 h4.1); rw [h4.2] at this; cases this⟩
  rw [if_neg h4]
  have b1 : leastK T.k = if T.k = 18 ∨ T.k = 19 then 2 else if 20 ≤ T.k ∧ T.k ≤ 22 then 1 else 0 := rfl
  have b2 : mostK T.k = if T.k = 18 ∨ T.k = 19 then 4096 else if 20 ≤ T.k ∧ T.k ≤ 22 then 1 else 0 := rfl
  by_cases h5 : (T.len : Int) < leastK T.k ∨ mostK T.k < T.len
  · rw [if_pos h5]
    refine ⟨fun h => absurd h (by decide), fun h => ?_⟩
    have c1 := h.two
    have c2 := h.one
    have c3 := h.none
    exfalso
    rw [b1, b2] at h5
    split at h5
    · have := c1 (by assumption); omega
    · split at h5
      · have := c2 (by assumption); omega
      · have := c3 (by omega); omega
  · rw [if_neg h5]
    refine ⟨fun _ => ⟨by omega, fun q => ?_, fun q => ?_, fun q => ?_, fun q => ?_, fun q => ?_, fun q => ?_, fun q => ?_⟩, fun _ => rfl⟩
    · rcases Nat.lt_or_ge 65536 T.t.size with z | z
      · exact absurd ⟨a1.2 q, z⟩ h1
      · exact z
    · rcases Nat.eq_zero_or_pos T.t.size with z | z
      · exact absurd ⟨a1.2 (.inr q), by omega, z⟩ h2
      · exact z
    · by_cases z : T.n < 0 ∨ 65536 < T.n
      · exact absurd ⟨a2.2 q, z⟩ h3
      · omega
    · cases z : named T.nm with
      | true => rfl
      | false => exact absurd ⟨a3.2 q, z⟩ h4
    · rw [b1, b2, if_pos q, if_pos q] at h5; omega
    · have c1 : leastK T.k = 1 := by rw [b1, if_neg (by omega), if_pos q]
      have c2 : mostK T.k = 1 := by rw [b2, if_neg (by omega), if_pos q]
      rw [c1, c2] at h5; omega
    · have c1 : leastK T.k = 0 := by rw [b1, if_neg (by omega), if_neg (by omega)]
      have c2 : mostK T.k = 0 := by rw [b2, if_neg (by omega), if_neg (by omega)]
      rw [c1, c2] at h5; omega
theorem bad_mk {k : Int} {t : ByteArray} {n : Int} {nm : ByteArray} {l : List PT} (h : Rt k t n nm l.length) (hl : ∀ x ∈ l, x.bad = 0) : (mkP k t n nm l).bad = 0 := (bad_lst _).2 ⟨(errN_iff _).2 h, fun x hx => hl x (by rw [mkP_lst] at hx; exact hx)⟩
theorem bad_rt {T : PT} (h : T.bad = 0) : Rt T.k T.t T.n T.nm T.len := (errN_iff T).1 ((bad_lst T).1 h).1
theorem nilL {x : PT} {P : Prop} : x ∈ ([] : List PT) → P := fun h => by cases h
theorem bad_lit {t : ByteArray} (h : t.size ≤ 65536) : (litP t).bad = 0 := bad_mk ⟨by decide, fun _ => h, by omega, by omega, by omega, by omega, by omega, fun _ => rfl⟩ fun _ => nilL
theorem tx_len (p : Nat → Bool) : (txt p).size ≤ 256 := tx_le p 256
theorem bad_anyP {p : Nat → Bool} (h : 0 < (tx p 256).length) : (anyP p).bad = 0 := by
  have hs : (txt p).size = (tx p 256).length := txt_size p
  have hl := tx_len p
  unfold anyP
  by_cases q : (tx p 256).length = 1
  · rw [if_pos q]; exact bad_lit (by omega)
  · rw [if_neg q]
    generalize txt p = t at hs hl ⊢
    exact bad_mk ⟨by decide, fun _ => by omega, fun _ => by omega, by omega, by omega, by omega, by omega, fun _ => rfl⟩ fun _ => nilL
theorem bad_cnt {k n : Int} (hk : k = 2 ∨ (8 ≤ k ∧ k ≤ 11)) (hn : 0 ≤ n ∧ n ≤ 65536) : (cntP k n).bad = 0 := by
  unfold cntP
  split
  · exact bad_lit (by decide)
  · split
    · exact bad_mk ⟨by decide, by omega, by omega, by omega, by omega, by omega, by omega, fun _ => rfl⟩ fun _ => nilL
    · exact bad_mk ⟨by omega, by omega, by omega, fun _ => hn, by omega, by omega, by omega, fun _ => rfl⟩ fun _ => nilL
theorem tx_pos {t : ByteArray} (h : 0 < t.size) {p : Nat → Bool} (hp : ∀ c, inB t c = true → p c = true) : 0 < (tx p 256).length := by
  have hl : t.data.toList.length = t.size := by simp
  cases hd : t.data.toList with
  | nil => rw [hd] at hl; simp at hl; omega
  | cons b l =>
    have hb : inB t b.toNat = true := (inB_iff t _).2 ⟨b, by rw [hd]; exact List.mem_cons_self, rfl⟩
    have : b ∈ tx p 256 := (mem_tx 256 (Nat.le_refl _)).2 ⟨UInt8.toNat_lt b, hp _ hb⟩
    exact List.length_pos_of_mem this
theorem behind_bad (x p y : PT) (hx : x.bad = 0) (hp : p.bad = 0) (h : behindP x p = some y) : y.bad = 0 := by
  rcases behind_some h with ⟨h1, h2, h3, e⟩ | ⟨h1, h2, h3, e⟩
  · rw [e]
    exact bad_lit (by rw [ByteArray.size_append]; exact h3)
  · rw [e]
    have a := (bad_rt hx).num (.inl h1)
    have b := (bad_rt hp).num (.inl h2)
    exact bad_cnt (.inl rfl) (by omega)
theorem one_some {x : PT} (h : oneB x = true) (hb : x.bad = 0) : 0 < x.t.size := by
  unfold oneB at h
  rw [Bool.or_eq_true, Bool.and_eq_true, decide_eq_true_eq, decide_eq_true_eq, decide_eq_true_eq] at h
  rcases h with h | h
  · exact (bad_rt hb).some (by omega)
  · omega
theorem either_bad (x p y : PT) (hx : x.bad = 0) (_ : p.bad = 0) (h : eitherP x p = some y) : y.bad = 0 := by
  obtain ⟨h1, -, e⟩ := either_some h
  rw [e]
  exact bad_anyP (tx_pos (one_some h1 hx) fun c hc => by rw [hc, Bool.true_or])
section
variable {last idle : PT → Bool} {join : PT → PT → Option PT}
theorem add_bad (hj : ∀ x p y : PT, x.bad = 0 → p.bad = 0 → join x p = some y → y.bad = 0) {out : List PT} {p : PT} (ho : ∀ x ∈ out, x.bad = 0) (hp : p.bad = 0) : ∀ x ∈ addP join out p, x.bad = 0 := by
  rcases List.eq_nil_or_concat out with rfl | ⟨pre, x, rfl⟩
  · have e : addP join [] p = [p] := rfl
    rw [e]
    intro z hz
    rw [List.mem_singleton.1 hz]; exact hp
  · have hgl : (pre.concat x).getLast? = some x := by simp
    rw [List.concat_eq_append] at *
    unfold addP
    rw [hgl]
    show ∀ z ∈ (match join x p with | some z => (pre ++ [x]).dropLast ++ [z] | none => pre ++ [x] ++ [p]), z.bad = 0
    cases hq : join x p with
    | some y =>
      intro z hz
      rw [List.dropLast_concat] at hz
      rcases List.mem_append.1 hz with h | h
      · exact ho z (List.mem_append_left _ h)
      · rw [List.mem_singleton.1 h]; exact hj x p y (ho x (by simp)) hp hq
    | none =>
      intro z hz
      rcases List.mem_append.1 hz with h | h
      · exact ho z h
      · rw [List.mem_singleton.1 h]; exact hp
theorem fold_bad (hj : ∀ x p y : PT, x.bad = 0 → p.bad = 0 → join x p = some y → y.bad = 0) : ∀ (L out : List PT), (∀ x ∈ L, x.bad = 0) → (∀ x ∈ out, x.bad = 0) → ∀ x ∈ L.foldl (addP join) out, x.bad = 0
  | [], _, _, ho => ho
  | p :: L, out, hL, ho => fold_bad hj L (addP join out p) (fun x hx => hL x (List.mem_cons_of_mem _ hx)) (add_bad hj ho (hL p List.mem_cons_self))
theorem few_bad (hj : ∀ x p y : PT, x.bad = 0 → p.bad = 0 → join x p = some y → y.bad = 0) (k : Int) {l : List PT} (hl : ∀ x ∈ l, x.bad = 0) : ∀ x ∈ fewP k last idle join l, x.bad = 0 :=
  fold_bad hj _ [] (fun x hx => by
    rcases flatK_mem (stay_mem hx).1 with ⟨h, -⟩ | ⟨p, hp, -, hx⟩
    · exact hl x h
    · exact ((bad_lst p).1 (hl p hp)).2 x hx) fun _ => nilL
end
theorem csum_len : ∀ l : List PT, l.length ≤ csum l
  | [] => Nat.le_refl _
  | x :: l => by have := csum_len l; have := x.cnt_pos; rw [List.length_cons, csum]; omega
theorem oneOr_bad {k : Int} {R : List PT} {z : PT} (hk : k = 18 ∨ k = 19) (hz : z.bad = 0) (hR : ∀ x ∈ R, x.bad = 0) (hc : csum R ≤ 4096) : (oneOrP k R z).bad = 0 := by
  match R, hR, hc with
  | [], _, _ => exact hz
  | [x], hR, _ => exact hR x List.mem_cons_self
  | x :: y :: R, hR, hc =>
    have := csum_len (x :: y :: R)
    exact bad_mk ⟨by omega, by omega, by omega, by omega, by omega, fun _ => ⟨by simp, by omega⟩, by omega, by omega⟩ hR
theorem simpN_bad {k : Int} {t : ByteArray} {n : Int} {nm : ByteArray} {l : List PT} (h : Rt k t n nm l.length) (hl : ∀ x ∈ l, x.bad = 0) (hc : csum l ≤ 4096) : (simpN k t n nm l).bad = 0 := by
  have hr := h.rng
  rcases (show k = 1 ∨ k = 3 ∨ (k = 4 ∨ k = 5 ∨ k = 6 ∨ k = 7) ∨ (k = 2 ∨ k = 8 ∨ k = 9 ∨ k = 10 ∨ k = 11) ∨ k = 18 ∨ k = 19 ∨ k = 20 ∨ (k = 21 ∨ k = 22) ∨ (k = 23 ∨ k = 24) ∨ (12 ≤ k ∧ k ≤ 17) by omega) with q | q | q | q | q | q | q | q | q | q
  · rw [simpN, if_pos q]; exact bad_lit (h.long (by omega))
  · rw [simpN, if_neg (by omega), if_pos q]; exact bad_anyP (tx_pos (h.some (by omega)) fun c hc => hc)
  · rw [simpN, if_neg (by omega), if_neg (by omega), if_pos q]
    have a := tx_pos (p := inB t) (h.some (by omega)) fun c hc => hc
    have b := tx_len (inB t)
    have c := txt_size (inB t)
    generalize txt (inB t) = u at b c ⊢
    exact bad_mk ⟨hr, fun _ => by omega, fun _ => by omega, by omega, by omega, by omega, by omega, fun _ => rfl⟩ fun _ => nilL
  · rw [simpN, if_neg (by omega), if_neg (by omega), if_neg (by omega), if_pos q]
    exact bad_cnt (by omega) (h.num (by omega))
  · rw [simpN, if_neg (by omega), if_neg (by omega), if_neg (by omega), if_neg (by omega), if_pos q, catP]
    have a := few_less (last := nev) (idle := isE) behind_leaf 18 l
    exact oneOr_bad (.inl rfl) (bad_lit (by decide)) (few_bad behind_bad 18 hl) (by omega)
  · rw [simpN, if_neg (by omega), if_neg (by omega), if_neg (by omega), if_neg (by omega), if_neg (by omega), if_pos q, altP]
    have a := few_less (last := isA) (idle := isF) either_leaf 19 l
    exact oneOr_bad (.inr rfl) (bad_mk ⟨by decide, by omega, by omega, by omega, by omega, by omega, by omega, fun _ => rfl⟩ fun _ => nilL) (few_bad either_bad 19 hl) (by omega)
  · have ho := h.one (by omega)
    rw [simpN, if_neg (by omega), if_neg (by omega), if_neg (by omega), if_neg (by omega), if_neg (by omega), if_neg (by omega), if_pos q, arbP]
    split
    · exact bad_lit (by decide)
    · split
      · exact bad_mk ⟨by decide, by omega, by omega, by omega, by omega, by omega, by omega, fun _ => rfl⟩ fun _ => nilL
      · exact bad_mk ⟨by decide, by omega, by omega, by omega, by omega, by omega, fun _ => ho, by omega⟩ hl
  · have ho := h.one (by omega)
    rw [simpN, if_neg (by omega), if_neg (by omega), if_neg (by omega), if_neg (by omega), if_neg (by omega), if_neg (by omega), if_neg (by omega), if_pos q]
    split
    · match l, ho, hl with
      | [x], _, hl => exact hl x List.mem_cons_self
    · exact bad_mk ⟨hr, by omega, by omega, by omega, fun z => h.name (by omega), by omega, fun _ => ho, by omega⟩ hl
  · have ho := h.none (by omega)
    rw [simpN, if_neg (by omega), if_neg (by omega), if_neg (by omega), if_neg (by omega), if_neg (by omega), if_neg (by omega), if_neg (by omega), if_neg (by omega), if_pos q]
    exact bad_mk ⟨hr, by omega, by omega, by omega, fun z => h.name (by omega), by omega, by omega, fun _ => ho⟩ hl
  · have ho := h.none (by omega)
    rw [simpN, if_neg (by omega), if_neg (by omega), if_neg (by omega), if_neg (by omega), if_neg (by omega), if_neg (by omega), if_neg (by omega), if_neg (by omega), if_neg (by omega)]
    exact bad_mk ⟨hr, by omega, by omega, by omega, by omega, by omega, by omega, fun _ => ho⟩ hl
theorem simp_bad : ∀ T : PT, T.bad = 0 → T.cnt ≤ 4096 → T.simp.bad = 0 := mem_lst_ind fun T ih hT hc => by
  obtain ⟨h1, h2⟩ := (bad_lst T).1 hT
  have c := cnt_lst T
  have hcx : ∀ l : List PT, ∀ x ∈ l, x.cnt ≤ csum l := fun l => by
    induction l with
    | nil => exact fun x => nilL
    | cons y l hl =>
      intro x hx
      rw [csum]
      rcases List.mem_cons.1 hx with rfl | hx
      · omega
      · have := hl x hx; omega
  have hs : csum (T.lst.map PT.simp) ≤ csum T.lst := by
    generalize T.lst = l
    induction l with
    | nil => exact Nat.le_refl _
    | cons x l hl => rw [List.map_cons, csum, csum]; have := (simp_less x).1; omega
  rw [PT.simp_eq]
  refine simpN_bad ?_ (fun x hx => ?_) (by omega)
  · rw [List.length_map, PT.lst_len]; exact (errN_iff T).1 h1
  · obtain ⟨y, hy, rfl⟩ := List.mem_map.1 hx
    exact ih y hy (h2 y hy) (by have := hcx T.lst y hy; omega)
theorem simp_right {T : PT} (h : T.wrong = 0) : T.simp.wrong = 0 := by
  unfold PT.wrong at h ⊢
  cases hf : T.fits with
  | false => rw [hf, if_neg (by decide)] at h; exact absurd h (by decide)
  | true =>
    rw [hf, if_pos rfl] at h
    unfold PT.fits at hf
    rw [Bool.and_eq_true, decide_eq_true_eq, decide_eq_true_eq] at hf
    have hl := simp_less T
    have : T.simp.fits = true := by
      unfold PT.fits
      rw [decide_eq_true (show T.simp.cnt ≤ 4096 by omega), decide_eq_true (show T.simp.dep ≤ 200 by omega)]; rfl
    rw [this, if_pos rfl]
    exact simp_bad T h hf.1
end Go.Proofs.YtbmngbpillihaaaDoor

namespace Go.Proofs.YtbmngbpillihaaaDoor
open Go.RowKit

theorem can_len (T : PT) : T.can.len = T.len := by rw [← PT.lst_len, can_lst, List.length_map, PT.lst_len]
theorem can_cnt : ∀ T : PT, T.can.cnt = T.cnt := mem_lst_ind fun T ih => by
  rw [cnt_lst, cnt_lst T, can_lst, csum_sum, csum_sum, List.map_map]
  exact congrArg (fun l => 1 + List.sum l) (List.map_congr_left fun x hx => ih x hx)
theorem dmax_map {f : PT → PT} : ∀ {l : List PT}, (∀ x ∈ l, (f x).dep = x.dep) → dmax (l.map f) = dmax l
  | [], _ => rfl
  | x :: l, h => by rw [List.map_cons, dmax, dmax, h x List.mem_cons_self, dmax_map fun y hy => h y (List.mem_cons_of_mem _ hy)]
theorem can_dep : ∀ T : PT, T.can.dep = T.dep := mem_lst_ind fun T ih => by
  rw [dep_lst, dep_lst T, can_lst, dmax_map ih]
theorem can_err (T : PT) : errN T.can = errN T := by
  unfold errN
  rw [can_k, can_t, can_n, can_nm, can_len]
theorem can_bad : ∀ T : PT, T.can.bad = T.bad := mem_lst_ind fun T ih => by
  rw [T.can.bad_eq, T.bad_eq, can_err, can_len]
  have hk : ∀ i, i < T.len → (T.can.kid i).bad = (T.kid i).bad := fun i hi => by
    have h1 := PT.lst_at hi
    have h2 : T.can.lst[i]? = some (T.can.kid i) := PT.lst_at (by rw [can_len]; exact hi)
    rw [can_lst, List.getElem?_map, h1] at h2
    rw [← Option.some.inj h2]
    exact ih _ (List.mem_of_getElem? h1)
  rw [firstTo_congr T.len hk]
theorem can_wrong (T : PT) : T.can.wrong = T.wrong := by
  unfold PT.wrong PT.fits
  rw [can_bad, can_cnt, can_dep]
theorem twice_of {T U : PT} (h : T.wrong = 0) (hF : FineS T) (hU : U.can = T.simp) : U.wrong = 0 ∧ U.simp = U.can ∧ U.cnt ≤ T.cnt ∧ U.dep ≤ T.dep := by
  refine ⟨?_, ?_, ?_, ?_⟩
  · rw [← can_wrong, hU]; exact simp_right h
  · rw [← simp_can, hU]; exact simp_twice hF
  · rw [← can_cnt, hU]; exact (simp_less T).1
  · rw [← can_dep, hU]; exact (simp_less T).2
end Go.Proofs.YtbmngbpillihaaaDoor
