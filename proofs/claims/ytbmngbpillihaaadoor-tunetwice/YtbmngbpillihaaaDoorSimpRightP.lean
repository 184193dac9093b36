/- What is simpler is right. -/
import Derived.Test.YtbmngbpillihaaaDoorSimpLessP
namespace Go.Proofs.YtbmngbpillihaaaDoor
open Go.RowKit

theorem firstS {f : Nat → Int} : ∀ {n : Nat}, firstTo f n = 0 ↔ ∀ i, i < n → f i = 0
  | 0 => ⟨fun _ i hi => absurd hi (Nat.not_lt_zero _), fun _ => rfl⟩
  | n + 1 => by
    rw [firstTo]
    constructor
    · intro h i hi
      by_cases q : firstTo f n = 0
      · rw [if_pos q] at h
        rcases Nat.lt_or_ge i n with z | z
        · exact firstS.1 q i z
        · obtain rfl : i = n := by omega
          exact h
      · rw [if_neg q] at h
        exact absurd h q
    · intro h
      rw [if_pos (firstS.2 fun i hi => h i (by omega))]
      exact h n (by omega)
theorem bad_lst (T : PT) : T.bad = 0 ↔ errN T = 0 ∧ ∀ x ∈ T.lst, x.bad = 0 := by
  rw [T.bad_eq]
  by_cases h : errN T = 0
  · rw [if_pos h, firstS]
    constructor
    · intro q
      refine ⟨h, fun x hx => ?_⟩
      obtain ⟨i, hi⟩ := List.mem_iff_getElem?.1 hx
      have hlt : i < T.len := by have := (List.getElem?_eq_some_iff.1 hi).1; rwa [PT.lst_len] at this
      rw [PT.lst_at hlt] at hi
      rw [← Option.some.inj hi]
      exact q i hlt
    · rintro ⟨-, q⟩ i hi
      exact q _ (List.mem_of_getElem? (PT.lst_at hi))
  · rw [if_neg h]
    exact ⟨fun q => absurd q h, fun q => absurd q.1 h⟩
/-- What is asked of a node. -/
structure Rt (k : Int) (t : ByteArray) (n : Int) (nm : ByteArray) (len : Nat) : Prop where
  rng : 1 ≤ k ∧ k ≤ 24
  long : k = 1 ∨ (3 ≤ k ∧ k ≤ 7) → t.size ≤ 65536
  some : 3 ≤ k ∧ k ≤ 7 → 0 < t.size
  num : k = 2 ∨ (8 ≤ k ∧ k ≤ 11) → 0 ≤ n ∧ n ≤ 65536
  name : 21 ≤ k ∧ k ≤ 24 → named nm = true
  two : k = 18 ∨ k = 19 → 2 ≤ len ∧ len ≤ 4096
  one : 20 ≤ k ∧ k ≤ 22 → len = 1
  none : k ≤ 17 ∨ 23 ≤ k → len = 0
theorem errN_iff (T : PT) : errN T = 0 ↔ Rt T.k T.t T.n T.nm T.len := by
  unfold errN
  by_cases h0 : T.k < 1 ∨ 24 < T.k
  · rw [if_pos h0]
    exact ⟨fun h => absurd h (by decide), fun h => by have := h.rng; omega⟩
  rw [if_neg h0]
  have a1 : hasK T.k = 1 ↔ (T.k = 1 ∨ (3 ≤ T.k ∧ T.k ≤ 7)) := by unfold hasK; split <;> (try split) <;> (try split) <;> omega
  have a2 : hasK T.k = 2 ↔ (T.k = 2 ∨ (8 ≤ T.k ∧ T.k ≤ 11)) := by unfold hasK; split <;> (try split) <;> (try split) <;> omega
  have a3 : hasK T.k = 3 ↔ (21 ≤ T.k ∧ T.k ≤ 24) := by unfold hasK; split <;> (try split) <;> (try split) <;> omega
  by_cases h1 : hasK T.k = 1 ∧ 65536 < T.t.size
  · rw [if_pos h1]
    exact ⟨fun h => absurd h (by decide), fun h => by have := h.long (a1.1 h1.1); omega⟩
  rw [if_neg h1]
  by_cases h2 : hasK T.k = 1 ∧ T.k ≠ 1 ∧ T.t.size = 0
  · rw [if_pos h2]
    exact ⟨fun h => absurd h (by decide), fun h => by have := h.some (by have := a1.1 h2.1; omega); omega⟩
  rw [if_neg h2]
  by_cases h3 : hasK T.k = 2 ∧ (T.n < 0 ∨ 65536 < T.n)
  · rw [if_pos h3]
    exact ⟨fun h => absurd h (by decide), fun h => by have := h.num (a2.1 h3.1); omega⟩
  rw [if_neg h3]
  by_cases h4 : hasK T.k = 3 ∧ named T.nm = false
  · rw [if_pos h4]
    exact ⟨fun h => absurd h (by decide), fun h => by have := h.name (a3.1 h4.1); rw [h4.2] at this; cases this⟩
  rw [if_neg h4]
  have b1 : leastK T.k = if T.k = 18 ∨ T.k = 19 then 2 else if 20 ≤ T.k ∧ T.k ≤ 22 then 1 else 0 := rfl
  have b2 : mostK T.k = if T.k = 18 ∨ T.k = 19 then 4096 else if 20 ≤ T.k ∧ T.k ≤ 22 then 1 else 0 := rfl
  by_cases h5 : (T.len : Int) < leastK T.k ∨ mostK T.k < T.len
  · rw [if_pos h5]
    refine ⟨fun h => absurd h (by decide), fun h => ?_⟩
    have c1 := h.two
    have c2 := h.one
    have c3 := h.none
    exfalso
    rw [b1, b2] at h5
    split at h5
    · have := c1 (by assumption); omega
    · split at h5
      · have := c2 (by assumption); omega
      · have := c3 (by omega); omega
  · rw [if_neg h5]
    refine ⟨fun _ => ⟨by omega, fun q => ?_, fun q => ?_, fun q => ?_, fun q => ?_, fun q => ?_, fun q => ?_, fun q => ?_⟩, fun _ => rfl⟩
    · rcases Nat.lt_or_ge 65536 T.t.size with z | z
      · exact absurd ⟨a1.2 q, z⟩ h1
      · exact z
    · rcases Nat.eq_zero_or_pos T.t.size with z | z
      · exact absurd ⟨a1.2 (.inr q), by omega, z⟩ h2
      · exact z
    · by_cases z : T.n < 0 ∨ 65536 < T.n
      · exact absurd ⟨a2.2 q, z⟩ h3
      · omega
    · cases z : named T.nm with
      | true => rfl
      | false => exact absurd ⟨a3.2 q, z⟩ h4
    · rw [b1, b2, if_pos q, if_pos q] at h5; omega
    · have c1 : leastK T.k = 1 := by rw [b1, if_neg (by omega), if_pos q]
      have c2 : mostK T.k = 1 := by rw [b2, if_neg (by omega), if_pos q]
      rw [c1, c2] at h5; omega
    · have c1 : leastK T.k = 0 := by rw [b1, if_neg (by omega), if_neg (by omega)]
      have c2 : mostK T.k = 0 := by rw [b2, if_neg (by omega), if_neg (by omega)]
      rw [c1, c2] at h5; omega
theorem bad_mk {k : Int} {t : ByteArray} {n : Int} {nm : ByteArray} {l : List PT} (h : Rt k t n nm l.length) (hl : ∀ x ∈ l, x.bad = 0) : (mkP k t n nm l).bad = 0 := (bad_lst _).2 ⟨(errN_iff _).2 h, fun x hx => hl x (by rw [mkP_lst] at hx; exact hx)⟩
theorem bad_rt {T : PT} (h : T.bad = 0) : Rt T.k T.t T.n T.nm T.len := (errN_iff T).1 ((bad_lst T).1 h).1
theorem nilL {x : PT} {P : Prop} : x ∈ ([] : List PT) → P := fun h => by cases h
theorem bad_lit {t : ByteArray} (h : t.size ≤ 65536) : (litP t).bad = 0 := bad_mk ⟨by decide, fun _ => h, by omega, by omega, by omega, by omega, by omega, fun _ => rfl⟩ fun _ => nilL
theorem tx_len (p : Nat → Bool) : (txt p).size ≤ 256 := tx_le p 256
theorem bad_anyP {p : Nat → Bool} (h : 0 < (tx p 256).length) : (anyP p).bad = 0 := by
  have hs : (txt p).size = (tx p 256).length := txt_size p
  have hl := tx_len p
  unfold anyP
  by_cases q : (tx p 256).length = 1
  · rw [if_pos q]; exact bad_lit (by omega)
  · rw [if_neg q]
    generalize txt p = t at hs hl ⊢
    exact bad_mk ⟨by decide, fun _ => by omega, fun _ => by omega, by omega, by omega, by omega, by omega, fun _ => rfl⟩ fun _ => nilL
theorem bad_cnt {k n : Int} (hk : k = 2 ∨ (8 ≤ k ∧ k ≤ 11)) (hn : 0 ≤ n ∧ n ≤ 65536) : (cntP k n).bad = 0 := by
  unfold cntP
  split
  · exact bad_lit (by decide)
  · split
    · exact bad_mk ⟨by decide, by omega, by omega, by omega, by omega, by omega, by omega, fun _ => rfl⟩ fun _ => nilL
    · exact bad_mk ⟨by omega, by omega, by omega, fun _ => hn, by omega, by omega, by omega, fun _ => rfl⟩ fun _ => nilL
theorem tx_pos {t : ByteArray} (h : 0 < t.size) {p : Nat → Bool} (hp : ∀ c, inB t c = true → p c = true) : 0 < (tx p 256).length := by
  have hl : t.data.toList.length = t.size := by simp
  cases hd : t.data.toList with
  | nil => rw [hd] at hl; simp at hl; omega
  | cons b l =>
    have hb : inB t b.toNat = true := (inB_iff t _).2 ⟨b, by rw [hd]; exact List.mem_cons_self, rfl⟩
    have : b ∈ tx p 256 := (mem_tx 256 (Nat.le_refl _)).2 ⟨UInt8.toNat_lt b, hp _ hb⟩
    exact List.length_pos_of_mem this
theorem behind_bad (x p y : PT) (hx : x.bad = 0) (hp : p.bad = 0) (h : behindP x p = some y) : y.bad = 0 := by
  rcases behind_some h with ⟨h1, h2, h3, e⟩ | ⟨h1, h2, h3, e⟩
  · rw [e]
    exact bad_lit (by rw [ByteArray.size_append]; exact h3)
  · rw [e]
    have a := (bad_rt hx).num (.inl h1)
    have b := (bad_rt hp).num (.inl h2)
    exact bad_cnt (.inl rfl) (by omega)
theorem one_some {x : PT} (h : oneB x = true) (hb : x.bad = 0) : 0 < x.t.size := by
  unfold oneB at h
  rw [Bool.or_eq_true, Bool.and_eq_true, decide_eq_true_eq, decide_eq_true_eq, decide_eq_true_eq] at h
  rcases h with h | h
  · exact (bad_rt hb).some (by omega)
  · omega
theorem either_bad (x p y : PT) (hx : x.bad = 0) (_ : p.bad = 0) (h : eitherP x p = some y) : y.bad = 0 := by
  obtain ⟨h1, -, e⟩ := either_some h
  rw [e]
  exact bad_anyP (tx_pos (one_some h1 hx) fun c hc => by rw [hc, Bool.true_or])
section
variable {last idle : PT → Bool} {join : PT → PT → Option PT}
theorem add_bad (hj : ∀ x p y : PT, x.bad = 0 → p.bad = 0 → join x p = some y → y.bad = 0) {out : List PT} {p : PT} (ho : ∀ x ∈ out, x.bad = 0) (hp : p.bad = 0) : ∀ x ∈ addP join out p, x.bad = 0 := by
  rcases List.eq_nil_or_concat out with rfl | ⟨pre, x, rfl⟩
  · have e : addP join [] p = [p] := rfl
    rw [e]
    intro z hz
    rw [List.mem_singleton.1 hz]; exact hp
  · have hgl : (pre.concat x).getLast? = some x := by simp
    rw [List.concat_eq_append] at *
    unfold addP
    rw [hgl]
    show ∀ z ∈ (match join x p with | some z => (pre ++ [x]).dropLast ++ [z] | none => pre ++ [x] ++ [p]), z.bad = 0
    cases hq : join x p with
    | some y =>
      intro z hz
      rw [List.dropLast_concat] at hz
      rcases List.mem_append.1 hz with h | h
      · exact ho z (List.mem_append_left _ h)
      · rw [List.mem_singleton.1 h]; exact hj x p y (ho x (by simp)) hp hq
    | none =>
      intro z hz
      rcases List.mem_append.1 hz with h | h
      · exact ho z h
      · rw [List.mem_singleton.1 h]; exact hp
theorem fold_bad (hj : ∀ x p y : PT, x.bad = 0 → p.bad = 0 → join x p = some y → y.bad = 0) : ∀ (L out : List PT), (∀ x ∈ L, x.bad = 0) → (∀ x ∈ out, x.bad = 0) → ∀ x ∈ L.foldl (addP join) out, x.bad = 0
  | [], _, _, ho => ho
  | p :: L, out, hL, ho => fold_bad hj L (addP join out p) (fun x hx => hL x (List.mem_cons_of_mem _ hx)) (add_bad hj ho (hL p List.mem_cons_self))
theorem few_bad (hj : ∀ x p y : PT, x.bad = 0 → p.bad = 0 → join x p = some y → y.bad = 0) (k : Int) {l : List PT} (hl : ∀ x ∈ l, x.bad = 0) : ∀ x ∈ fewP k last idle join l, x.bad = 0 :=
  fold_bad hj _ [] (fun x hx => by
    rcases flatK_mem (stay_mem hx).1 with ⟨h, -⟩ | ⟨p, hp, -, hx⟩
    · exact hl x h
    · exact ((bad_lst p).1 (hl p hp)).2 x hx) fun _ => nilL
end
theorem csum_len : ∀ l : List PT, l.length ≤ csum l
  | [] => Nat.le_refl _
  | x :: l => by have := csum_len l; have := x.cnt_pos; rw [List.length_cons, csum]; omega
theorem oneOr_bad {k : Int} {R : List PT} {z : PT} (hk : k = 18 ∨ k = 19) (hz : z.bad = 0) (hR : ∀ x ∈ R, x.bad = 0) (hc : csum R ≤ 4096) : (oneOrP k R z).bad = 0 := by
  match R, hR, hc with
  | [], _, _ => exact hz
  | [x], hR, _ => exact hR x List.mem_cons_self
  | x :: y :: R, hR, hc =>
    have := csum_len (x :: y :: R)
    exact bad_mk ⟨by omega, by omega, by omega, by omega, by omega, fun _ => ⟨by simp, by omega⟩, by omega, by omega⟩ hR
theorem simpN_bad {k : Int} {t : ByteArray} {n : Int} {nm : ByteArray} {l : List PT} (h : Rt k t n nm l.length) (hl : ∀ x ∈ l, x.bad = 0) (hc : csum l ≤ 4096) : (simpN k t n nm l).bad = 0 := by
  have hr := h.rng
  rcases (show k = 1 ∨ k = 3 ∨ (k = 4 ∨ k = 5 ∨ k = 6 ∨ k = 7) ∨ (k = 2 ∨ k = 8 ∨ k = 9 ∨ k = 10 ∨ k = 11) ∨ k = 18 ∨ k = 19 ∨ k = 20 ∨ (k = 21 ∨ k = 22) ∨ (k = 23 ∨ k = 24) ∨ (12 ≤ k ∧ k ≤ 17) by omega) with q | q | q | q | q | q | q | q | q | q
  · rw [simpN, if_pos q]; exact bad_lit (h.long (by omega))
  · rw [simpN, if_neg (by omega), if_pos q]; exact bad_anyP (tx_pos (h.some (by omega)) fun c hc => hc)
  · rw [simpN, if_neg (by omega), if_neg (by omega), if_pos q]
    have a := tx_pos (p := inB t) (h.some (by omega)) fun c hc => hc
    have b := tx_len (inB t)
    have c := txt_size (inB t)
    generalize txt (inB t) = u at b c ⊢
    exact bad_mk ⟨hr, fun _ => by omega, fun _ => by omega, by omega, by omega, by omega, by omega, fun _ => rfl⟩ fun _ => nilL
  · rw [simpN, if_neg (by omega), if_neg (by omega), if_neg (by omega), if_pos q]
    exact bad_cnt (by omega) (h.num (by omega))
  · rw [simpN, if_neg (by omega), if_neg (by omega), if_neg (by omega), if_neg (by omega), if_pos q, catP]
    have a := few_less (last := nev) (idle := isE) behind_leaf 18 l
    exact oneOr_bad (.inl rfl) (bad_lit (by decide)) (few_bad behind_bad 18 hl) (by omega)
  · rw [simpN, if_neg (by omega), if_neg (by omega), if_neg (by omega), if_neg (by omega), if_neg (by omega), if_pos q, altP]
    have a := few_less (last := isA) (idle := isF) either_leaf 19 l
    exact oneOr_bad (.inr rfl) (bad_mk ⟨by decide, by omega, by omega, by omega, by omega, by omega, by omega, fun _ => rfl⟩ fun _ => nilL) (few_bad either_bad 19 hl) (by omega)
  · have ho := h.one (by omega)
    rw [simpN, if_neg (by omega), if_neg (by omega), if_neg (by omega), if_neg (by omega), if_neg (by omega), if_neg (by omega), if_pos q, arbP]
    split
    · exact bad_lit (by decide)
    · split
      · exact bad_mk ⟨by decide, by omega, by omega, by omega, by omega, by omega, by omega, fun _ => rfl⟩ fun _ => nilL
      · exact bad_mk ⟨by decide, by omega, by omega, by omega, by omega, by omega, fun _ => ho, by omega⟩ hl
  · have ho := h.one (by omega)
    rw [simpN, if_neg (by omega), if_neg (by omega), if_neg (by omega), if_neg (by omega), if_neg (by omega), if_neg (by omega), if_neg (by omega), if_pos q]
    split
    · match l, ho, hl with
      | [x], _, hl => exact hl x List.mem_cons_self
    · exact bad_mk ⟨hr, by omega, by omega, by omega, fun z => h.name (by omega), by omega, fun _ => ho, by omega⟩ hl
  · have ho := h.none (by omega)
    rw [simpN, if_neg (by omega), if_neg (by omega), if_neg (by omega), if_neg (by omega), if_neg (by omega), if_neg (by omega), if_neg (by omega), if_neg (by omega), if_pos q]
    exact bad_mk ⟨hr, by omega, by omega, by omega, fun z => h.name (by omega), by omega, by omega, fun _ => ho⟩ hl
  · have ho := h.none (by omega)
    rw [simpN, if_neg (by omega), if_neg (by omega), if_neg (by omega), if_neg (by omega), if_neg (by omega), if_neg (by omega), if_neg (by omega), if_neg (by omega), if_neg (by omega)]
    exact bad_mk ⟨hr, by omega, by omega, by omega, by omega, by omega, by omega, fun _ => ho⟩ hl
theorem simp_bad : ∀ T : PT, T.bad = 0 → T.cnt ≤ 4096 → T.simp.bad = 0 := mem_lst_ind fun T ih hT hc => by
  obtain ⟨h1, h2⟩ := (bad_lst T).1 hT
  have c := cnt_lst T
  have hcx : ∀ l : List PT, ∀ x ∈ l, x.cnt ≤ csum l := fun l => by
    induction l with
    | nil => exact fun x => nilL
    | cons y l hl =>
      intro x hx
      rw [csum]
      rcases List.mem_cons.1 hx with rfl | hx
      · omega
      · have := hl x hx; omega
  have hs : csum (T.lst.map PT.simp) ≤ csum T.lst := by
    generalize T.lst = l
    induction l with
    | nil => exact Nat.le_refl _
    | cons x l hl => rw [List.map_cons, csum, csum]; have := (simp_less x).1; omega
  rw [PT.simp_eq]
  refine simpN_bad ?_ (fun x hx => ?_) (by omega)
  · rw [List.length_map, PT.lst_len]; exact (errN_iff T).1 h1
  · obtain ⟨y, hy, rfl⟩ := List.mem_map.1 hx
    exact ih y hy (h2 y hy) (by have := hcx T.lst y hy; omega)
/-- What is right stays right. -/
theorem simp_right {T : PT} (h : T.wrong = 0) : T.simp.wrong = 0 := by
  unfold PT.wrong at h ⊢
  cases hf : T.fits with
  | false => rw [hf, if_neg (by decide)] at h; exact absurd h (by decide)
  | true =>
    rw [hf, if_pos rfl] at h
    unfold PT.fits at hf
    rw [Bool.and_eq_true, decide_eq_true_eq, decide_eq_true_eq] at hf
    have hl := simp_less T
    have : T.simp.fits = true := by
      unfold PT.fits
      rw [decide_eq_true (show T.simp.cnt ≤ 4096 by omega), decide_eq_true (show T.simp.dep ≤ 200 by omega)]; rfl
    rw [this, if_pos rfl]
    exact simp_bad T h hf.1
end Go.Proofs.YtbmngbpillihaaaDoor
