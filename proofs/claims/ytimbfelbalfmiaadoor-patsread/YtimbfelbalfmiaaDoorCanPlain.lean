/- Patterns without where they lie. -/
import Derived.Test.YtimbfelbalfmiaaDoorPatWrong
namespace Go.Proofs.YtimbfelbalfmiaaDoor
open Go.RowKit

/-- A node, wherever its kids may lie. -/
def mkP (k : Int) (t : ByteArray) (n : Int) (nm : ByteArray) (l : List PT) : PT := ⟨k, t, n, nm, none, 0, 0, l.length, l.length, fun i => l[i]⟩
def PT.lst (T : PT) : List PT := List.ofFn T.kids
/-- A pattern without where it lies. -/
def PT.can : PT → PT
  | .node k t n nm _ _ _ _ _ kids => mkP k t n nm (List.ofFn fun i => PT.can (kids i))
theorem PT.can_eq (T : PT) : T.can = mkP T.k T.t T.n T.nm (T.lst.map PT.can) := by
  obtain ⟨k, t, n, nm, xa, b, o, len, cap, kids⟩ := T
  show mkP k t n nm (List.ofFn fun i => PT.can (kids i)) = mkP k t n nm ((List.ofFn kids).map PT.can)
  rw [List.map_ofFn]
  rfl
theorem PT.lst_len (T : PT) : T.lst.length = T.len := by unfold PT.lst; simp
theorem PT.lst_at {T : PT} {i : Nat} (h : i < T.len) : T.lst[i]? = some (T.kid i) := by
  unfold PT.lst
  rw [List.getElem?_ofFn, dif_pos h, PT.kid_at h]
theorem mkP_lst (k : Int) (t : ByteArray) (n : Int) (nm : ByteArray) (l : List PT) : (mkP k t n nm l).lst = l := by
  unfold PT.lst mkP
  exact List.ofFn_getElem
theorem can_k (T : PT) : T.can.k = T.k := by rw [PT.can_eq]; rfl
theorem can_t (T : PT) : T.can.t = T.t := by rw [PT.can_eq]; rfl
theorem can_n (T : PT) : T.can.n = T.n := by rw [PT.can_eq]; rfl
theorem can_nm (T : PT) : T.can.nm = T.nm := by rw [PT.can_eq]; rfl
theorem can_lst (T : PT) : T.can.lst = T.lst.map PT.can := by rw [PT.can_eq, mkP_lst]
theorem mem_lst_ind {P : PT → Prop} (h : ∀ T : PT, (∀ x ∈ T.lst, P x) → P T) : ∀ T, P T := PT.ind fun T ih => h T fun x hx => by
  obtain ⟨i, hi⟩ := List.mem_iff_getElem?.1 hx
  have hlt : i < T.len := by have := (List.getElem?_eq_some_iff.1 hi).1; rwa [PT.lst_len] at this
  rw [PT.lst_at hlt] at hi
  rw [← Option.some.inj hi]
  exact ih i hlt
theorem can_can : ∀ T : PT, T.can.can = T.can := mem_lst_ind fun T ih => by
  rw [PT.can_eq T.can, can_k, can_t, can_n, can_nm, can_lst, PT.can_eq T, List.map_map]
  exact congrArg _ (List.map_congr_left fun x hx => ih x hx)
def csum : List PT → Nat
  | [] => 0
  | x :: l => x.cnt + csum l
def dmax : List PT → Nat
  | [] => 0
  | x :: l => max x.dep (dmax l)
theorem csum_append : ∀ a b, csum (a ++ b) = csum a + csum b
  | [], b => by simp [csum]
  | x :: a, b => by rw [List.cons_append, csum, csum, csum_append a b]; omega
theorem dmax_append : ∀ a b, dmax (a ++ b) = max (dmax a) (dmax b)
  | [], b => by simp [dmax]
  | x :: a, b => by rw [List.cons_append, dmax, dmax, dmax_append a b]; omega
theorem sumTo_lst (f : PT → Nat) : ∀ (l : List PT) (n : Nat), n ≤ l.length → sumTo (fun i => f (l.getD i PT.nul)) n = ((l.take n).map f).sum
  | l, 0, _ => by simp [sumTo]
  | l, n + 1, h => by
    rw [sumTo, sumTo_lst f l n (by omega), List.take_succ_eq_append_getElem (by omega), List.map_append, List.sum_append]
    simp [List.getD_eq_getElem?_getD, List.getElem?_eq_getElem (show n < l.length by omega)]
theorem csum_sum : ∀ l, csum l = (l.map PT.cnt).sum
  | [] => rfl
  | x :: l => by rw [csum, List.map_cons, List.sum_cons, csum_sum l]
theorem kid_lst (T : PT) (i : Nat) : T.kid i = T.lst.getD i PT.nul := by
  by_cases h : i < T.len
  · rw [List.getD_eq_getElem?_getD, PT.lst_at h]; rfl
  · rw [List.getD_eq_getElem?_getD, List.getElem?_eq_none (by rw [PT.lst_len]; omega)]
    unfold PT.kid
    rw [dif_neg h]
    rfl
theorem cnt_lst (T : PT) : T.cnt = 1 + csum T.lst := by
  rw [T.cnt_eq, csum_sum]
  have := sumTo_lst PT.cnt T.lst T.len (by rw [PT.lst_len]; exact Nat.le_refl _)
  rw [List.take_of_length_le (by rw [PT.lst_len]; exact Nat.le_refl _)] at this
  rw [← this]
  exact congrArg (1 + ·) (sumTo_congr _ fun i _ => by rw [kid_lst])
theorem dmax_le {d : Nat} : ∀ {l : List PT}, (∀ x ∈ l, x.dep ≤ d) → dmax l ≤ d
  | [], _ => Nat.zero_le _
  | x :: l, h => by
    have h1 := h x List.mem_cons_self
    have h2 := dmax_le (l := l) fun y hy => h y (List.mem_cons_of_mem _ hy)
    rw [dmax]; omega
theorem le_dmax : ∀ {l : List PT} {x : PT}, x ∈ l → x.dep ≤ dmax l
  | y :: l, x, h => by
    rw [dmax]
    rcases List.mem_cons.1 h with rfl | h
    · omega
    · have := le_dmax h; omega
theorem maxTo_of (f : Nat → Nat) (d : Nat) : ∀ n, (∀ i, i < n → f i ≤ d) → maxTo f n ≤ d
  | 0, _ => Nat.zero_le _
  | n + 1, h => by
    have h1 := maxTo_of f d n fun i hi => h i (by omega)
    have h2 := h n (by omega)
    rw [maxTo]; omega
theorem le_maxTo (f : Nat → Nat) : ∀ n i, i < n → f i ≤ maxTo f n
  | n + 1, i, h => by
    rw [maxTo]
    rcases Nat.lt_or_ge i n with q | q
    · have := le_maxTo f n i q; omega
    · obtain rfl : i = n := by omega
      omega
theorem dep_lst (T : PT) : T.dep = 1 + dmax T.lst := by
  rw [T.dep_eq]
  have h1 : maxTo (fun i => (T.kid i).dep) T.len ≤ dmax T.lst := maxTo_of _ _ _ fun i hi => le_dmax (List.mem_of_getElem? (PT.lst_at hi))
  have h2 : dmax T.lst ≤ maxTo (fun i => (T.kid i).dep) T.len := dmax_le fun x hx => by
    obtain ⟨i, hi⟩ := List.mem_iff_getElem?.1 hx
    have hlt : i < T.len := by have := (List.getElem?_eq_some_iff.1 hi).1; rwa [PT.lst_len] at this
    rw [PT.lst_at hlt] at hi
    rw [← Option.some.inj hi]
    exact le_maxTo (fun i => (T.kid i).dep) T.len i hlt
  omega
theorem mkP_cnt (k : Int) (t : ByteArray) (n : Int) (nm : ByteArray) (l : List PT) : (mkP k t n nm l).cnt = 1 + csum l := by rw [cnt_lst, mkP_lst]
theorem mkP_dep (k : Int) (t : ByteArray) (n : Int) (nm : ByteArray) (l : List PT) : (mkP k t n nm l).dep = 1 + dmax l := by rw [dep_lst, mkP_lst]
theorem can_len (T : PT) : T.can.len = T.len := by rw [← PT.lst_len, can_lst, List.length_map, PT.lst_len]
theorem can_cnt : ∀ T : PT, T.can.cnt = T.cnt := mem_lst_ind fun T ih => by
  rw [cnt_lst, cnt_lst T, can_lst, csum_sum, csum_sum, List.map_map]
  exact congrArg (fun l => 1 + List.sum l) (List.map_congr_left fun x hx => ih x hx)
theorem dmax_map {f : PT → PT} : ∀ {l : List PT}, (∀ x ∈ l, (f x).dep = x.dep) → dmax (l.map f) = dmax l
  | [], _ => rfl
  | x :: l, h => by rw [List.map_cons, dmax, dmax, h x List.mem_cons_self, dmax_map fun y hy => h y (List.mem_cons_of_mem _ hy)]
theorem can_dep : ∀ T : PT, T.can.dep = T.dep := mem_lst_ind fun T ih => by
  rw [dep_lst, dep_lst T, can_lst, dmax_map ih]
theorem can_err (T : PT) : errN T.can = errN T := by
  unfold errN
  rw [can_k, can_t, can_n, can_nm, can_len]
/-- What is wrong is that of the one of the same form. -/
theorem can_bad : ∀ T : PT, T.can.bad = T.bad := mem_lst_ind fun T ih => by
  rw [T.can.bad_eq, T.bad_eq, can_err, can_len]
  have hk : ∀ i, i < T.len → (T.can.kid i).bad = (T.kid i).bad := fun i hi => by
    have h1 := PT.lst_at hi
    have h2 : T.can.lst[i]? = some (T.can.kid i) := PT.lst_at (by rw [can_len]; exact hi)
    rw [can_lst, List.getElem?_map, h1] at h2
    rw [← Option.some.inj h2]
    exact ih _ (List.mem_of_getElem? h1)
  rw [firstTo_congr T.len hk]
theorem can_wrong (T : PT) : T.can.wrong = T.wrong := by
  unfold PT.wrong PT.fits
  rw [can_bad, can_cnt, can_dep]
theorem can_parts {A B : PT} (h : A.can = B.can) : B.k = A.k ∧ B.t = A.t ∧ B.n = A.n ∧ B.nm = A.nm ∧ B.len = A.len ∧ ∀ j, j < A.len → (A.kid j).can = (B.kid j).can := by
  have hl : B.len = A.len := by rw [← can_len, ← h, can_len]
  refine ⟨by rw [← can_k, ← h, can_k], by rw [← can_t, ← h, can_t], by rw [← can_n, ← h, can_n], by rw [← can_nm, ← h, can_nm], hl, fun j hj => ?_⟩
  have e : A.lst.map PT.can = B.lst.map PT.can := by rw [← can_lst, h, can_lst]
  have e2 := congrArg (fun l => l[j]?) e
  simp only [List.getElem?_map] at e2
  rw [PT.lst_at hj, PT.lst_at (by omega)] at e2
  exact Option.some.inj e2
end Go.Proofs.YtimbfelbalfmiaaDoor
