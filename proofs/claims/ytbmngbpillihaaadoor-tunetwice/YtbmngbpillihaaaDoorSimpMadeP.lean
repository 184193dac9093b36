/- What is made simpler cannot be made simpler again. -/
import Derived.Test.YtbmngbpillihaaaDoorSimpFewPM
namespace Go.Proofs.YtbmngbpillihaaaDoor
open Go.RowKit

/-- None but the last one ends all. -/
def Stp (last : PT → Bool) : List PT → Prop
  | [] => True
  | [_] => True
  | x :: y :: l => last x = false ∧ Stp last (y :: l)
section
variable {last idle : PT → Bool} {join : PT → PT → Option PT}
theorem Stp.cons {x : PT} (hx : last x = false) : ∀ {l : List PT}, Stp last l → Stp last (x :: l)
  | [], _ => trivial
  | _ :: _, h => ⟨hx, h⟩
theorem Stp.tail {x : PT} : ∀ {l : List PT}, Stp last (x :: l) → Stp last l
  | [], _ => trivial
  | _ :: _, h => h.2
theorem Stp.head {x : PT} : ∀ {l : List PT}, Stp last (x :: l) → l ≠ [] → last x = false
  | [], _, h => absurd rfl h
  | _ :: _, h, _ => h.1
theorem stay_stp : ∀ l, Stp last (stay last idle false l)
  | [] => trivial
  | p :: l => by
    rw [stay]
    split
    · exact stay_stp l
    · cases hp : last p with
      | true => rw [stay_over]; trivial
      | false => exact Stp.cons hp (stay_stp l)
theorem stay_mem {x : PT} : ∀ {l : List PT}, x ∈ stay last idle false l → x ∈ l ∧ idle x = false
  | [], h => by cases h
  | p :: l, h => by
    rw [stay] at h
    split at h
    · exact ⟨List.mem_cons_of_mem _ (stay_mem h).1, (stay_mem h).2⟩
    · rename_i hp
      rcases List.mem_cons.1 h with rfl | h
      · exact ⟨List.mem_cons_self, by simpa using hp⟩
      · cases hq : last p with
        | true => rw [hq, stay_over] at h; cases h
        | false => rw [hq] at h; exact ⟨List.mem_cons_of_mem _ (stay_mem h).1, (stay_mem h).2⟩
theorem Chn.snoc {p : PT} (hp : idle p = false) : ∀ {out : List PT}, Chn last idle join out → (∀ x, out.getLast? = some x → last x = false ∧ join x p = none) → Chn last idle join (out ++ [p])
  | [], _, _ => hp
  | [x], h, hl => by
    obtain ⟨a, b⟩ := hl x rfl
    exact ⟨h, a, b, hp⟩
  | x :: y :: l, h, hl => ⟨h.1, h.2.1, h.2.2.1, Chn.snoc hp h.2.2.2 fun z hz => hl z (by rw [List.getLast?_cons_cons]; exact hz)⟩
theorem Chn.swap {x y : PT} (hy : idle y = false) : ∀ {out : List PT}, Chn last idle join (out ++ [x]) → (∀ a, a ∈ out → join a x = none → join a y = none) → Chn last idle join (out ++ [y])
  | [], _, _ => hy
  | [a], h, hl => ⟨h.1, h.2.1, hl a List.mem_cons_self h.2.2.1, hy⟩
  | _ :: b :: l, h, hl => ⟨h.1, h.2.1, h.2.2.1, Chn.swap (out := b :: l) hy h.2.2.2 fun z hz => hl z (List.mem_cons_of_mem _ hz)⟩
theorem fold_chn {good : PT → Prop} (hi : ∀ x, good x → idle x = false) (hJ : ∀ a x p y, good a → good x → good p → join a x = none → join x p = some y → join a y = none) (hg : ∀ x p y, good x → good p → join x p = some y → good y ∧ last y = false) :
    ∀ (L out : List PT), (∀ x ∈ L, good x) → (∀ x ∈ out, good x) → Chn last idle join out → (∀ x, out.getLast? = some x → L ≠ [] → last x = false) → Stp last L → Chn last idle join (L.foldl (addP join) out) ∧ ∀ x ∈ L.foldl (addP join) out, good x
  | [], out, _, ho, hc, _, _ => ⟨hc, ho⟩
  | p :: L, out, hL, ho, hc, hl, hs => by
    rw [List.foldl_cons]
    have hp := hL p List.mem_cons_self
    have hL' : ∀ x ∈ L, good x := fun x hx => hL x (List.mem_cons_of_mem _ hx)
    have hpl : L ≠ [] → last p = false := fun h => hs.head h
    rcases List.eq_nil_or_concat out with rfl | ⟨pre, x, rfl⟩
    · have e : addP join [] p = [p] := rfl
      rw [e]
      refine fold_chn hi hJ hg L [p] hL' (fun x hx => by rw [List.mem_singleton.1 hx]; exact hp) (hi p hp) (fun x hx h => ?_) hs.tail
      have : x = p := by simpa using hx.symm
      rw [this]; exact hpl h
    · have hgl : (pre.concat x).getLast? = some x := by simp
      have hx : good x := ho x (by simp)
      have hpre : ∀ a ∈ pre, good a := fun a ha => ho a (by simp [ha])
      have hlx := hl x hgl (by simp)
      rw [List.concat_eq_append] at *
      cases hj : join x p with
      | some y =>
        have e : addP join (pre ++ [x]) p = pre ++ [y] := by
          unfold addP
          rw [hgl]
          show (match join x p with | some z => (pre ++ [x]).dropLast ++ [z] | none => pre ++ [x] ++ [p]) = _
          rw [hj]
          simp
        obtain ⟨gy, ly⟩ := hg x p y hx hp hj
        rw [e]
        refine fold_chn hi hJ hg L (pre ++ [y]) hL' (fun z hz => ?_) (Chn.swap (hi y gy) hc fun a ha h => hJ a x p y (hpre a ha) hx hp h hj) (fun z hz _ => ?_) hs.tail
        · rcases List.mem_append.1 hz with h | h
          · exact hpre z h
          · rw [List.mem_singleton.1 h]; exact gy
        · have : z = y := by simpa using hz.symm
          rw [this]; exact ly
      | none =>
        have e : addP join (pre ++ [x]) p = pre ++ [x] ++ [p] := by
          unfold addP
          rw [hgl]
          show (match join x p with | some z => (pre ++ [x]).dropLast ++ [z] | none => pre ++ [x] ++ [p]) = _
          rw [hj]
        rw [e]
        refine fold_chn hi hJ hg L (pre ++ [x] ++ [p]) hL' (fun z hz => ?_) (Chn.snoc (hi p hp) hc fun z hz => ?_) (fun z hz h => ?_) hs.tail
        · rcases List.mem_append.1 hz with h | h
          · exact ho z h
          · rw [List.mem_singleton.1 h]; exact hp
        · have : z = x := by simpa using hz.symm
          rw [this]; exact ⟨hlx, hj⟩
        · have : z = p := by simpa using hz.symm
          rw [this]; exact hpl h
end

theorem mkP_node {k : Int} {t : ByteArray} {n : Int} {nm : ByteArray} {l : List PT} : mkP k t n nm l = mkP (mkP k t n nm l).k (mkP k t n nm l).t (mkP k t n nm l).n (mkP k t n nm l).nm (mkP k t n nm l).lst := by rw [mkP_lst]; rfl
theorem smp_leaf {k : Int} {t : ByteArray} {n : Int} {nm : ByteArray} (h : NodeS (mkP k t n nm [])) : (mkP k t n nm []).Smp := (Smp_iff _).2 ⟨h, fun x hx => by rw [mkP_lst] at hx; cases hx⟩
theorem smp_lit (t : ByteArray) : (litP t).Smp := smp_leaf ⟨mkP_node, fun _ => ⟨rfl, rfl, mkP_lst ..⟩, fun h => absurd (show (1 : Int) = 3 from h) (by decide), fun h => absurd (show (1 : Int) = 4 ∨ (1 : Int) = 5 ∨ (1 : Int) = 6 ∨ (1 : Int) = 7 from h) (by decide), fun h => absurd (show (1 : Int) = 2 ∨ (1 : Int) = 8 ∨ (1 : Int) = 9 ∨ (1 : Int) = 10 ∨ (1 : Int) = 11 from h) (by decide), fun h => absurd (show (1 : Int) = 18 from h) (by decide), fun h => absurd (show (1 : Int) = 19 from h) (by decide), fun h => absurd (show (1 : Int) = 20 from h) (by decide), fun h => absurd (show (1 : Int) = 21 ∨ (1 : Int) = 22 from h) (by decide), fun h => absurd (show (1 : Int) = 23 ∨ (1 : Int) = 24 from h) (by decide), fun h _ => absurd (show (12 : Int) ≤ 1 from h) (by decide), by show (1 : Int) ≤ 1 ∧ (1 : Int) ≤ 24; decide⟩
/-- A node of a kind: only what its own kind asks is asked. -/
theorem nodeS_of {k : Int} {t : ByteArray} {n : Int} {nm : ByteArray} {l : List PT} (hr : 1 ≤ k ∧ k ≤ 24) (k1 : k = 1 → n = 0 ∧ nm = ⟨#[]⟩ ∧ l = []) (k3 : k = 3 → n = 0 ∧ nm = ⟨#[]⟩ ∧ l = [] ∧ t = txt (inB t) ∧ (tx (inB t) 256).length ≠ 1)
    (k4 : k = 4 ∨ k = 5 ∨ k = 6 ∨ k = 7 → n = 0 ∧ nm = ⟨#[]⟩ ∧ l = [] ∧ t = txt (inB t)) (k2 : k = 2 ∨ k = 8 ∨ k = 9 ∨ k = 10 ∨ k = 11 → t = ⟨#[]⟩ ∧ nm = ⟨#[]⟩ ∧ l = [] ∧ (k = 2 → 0 < n) ∧ (k = 9 → n ≠ 0))
    (k18 : k = 18 → t = ⟨#[]⟩ ∧ n = 0 ∧ nm = ⟨#[]⟩ ∧ 2 ≤ l.length ∧ (∀ x ∈ l, x.k ≠ 18) ∧ Chn nev isE behindP l) (k19 : k = 19 → t = ⟨#[]⟩ ∧ n = 0 ∧ nm = ⟨#[]⟩ ∧ 2 ≤ l.length ∧ (∀ x ∈ l, x.k ≠ 19) ∧ Chn isA isF eitherP l)
    (k20 : k = 20 → t = ⟨#[]⟩ ∧ n = 0 ∧ nm = ⟨#[]⟩ ∧ (isF (l.getD 0 PT.nul) || isE (l.getD 0 PT.nul)) = false ∧ ¬ ((l.getD 0 PT.nul).k = 2 ∧ (l.getD 0 PT.nul).n = 1)) (k21 : k = 21 ∨ k = 22 → t = ⟨#[]⟩ ∧ n = 0 ∧ nev (l.getD 0 PT.nul) = false) (k23 : k = 23 ∨ k = 24 → t = ⟨#[]⟩ ∧ n = 0) (rest : 12 ≤ k → k ≤ 17 → t = ⟨#[]⟩ ∧ n = 0 ∧ nm = ⟨#[]⟩) (hl : ∀ x ∈ l, x.Smp) : (mkP k t n nm l).Smp := by
  refine (Smp_iff _).2 ⟨⟨mkP_node, ?_, ?_, ?_, ?_, ?_, ?_, ?_, ?_, k23, rest, hr⟩, fun x hx => hl x (by rw [mkP_lst] at hx; exact hx)⟩
  · rw [mkP_lst]; exact k1
  · rw [mkP_lst]; exact k3
  · rw [mkP_lst]; exact k4
  · rw [mkP_lst]; exact k2
  · rw [mkP_lst]; exact k18
  · rw [mkP_lst]; exact k19
  · rw [mkP_lst]; exact k20
  · rw [mkP_lst]; exact k21
set_option maxRecDepth 100000 in
theorem smp_any (p : Nat → Bool) : (anyP p).Smp := by
  unfold anyP
  by_cases h : (tx p 256).length = 1
  · rw [if_pos h]
    exact smp_lit _
  · rw [if_neg h]
    have h' : (tx (inB (txt p)) 256).length ≠ 1 := by rw [tx_congr 256 fun c hc => inB_txt p c hc]; exact h
    have ht := txt_txt p
    generalize txt p = t at h' ht ⊢
    exact nodeS_of (by decide) (by omega) (fun _ => ⟨rfl, rfl, rfl, ht.symm, h'⟩) (by omega) (by omega) (by omega) (by omega) (by omega) (by omega) (by omega) (by omega) (fun _ hx => by cases hx)
theorem smp_cnt {k n : Int} (hk : k = 2 ∨ k = 8 ∨ k = 9 ∨ k = 10 ∨ k = 11) (hn : 0 ≤ n) : (cntP k n).Smp := by
  unfold cntP
  split
  · exact smp_lit _
  · rename_i h1
    split
    · exact nodeS_of (by decide) (by omega) (by omega) (by omega) (by omega) (by omega) (by omega) (by omega) (by omega) (by omega) (fun _ _ => ⟨rfl, rfl, rfl⟩) (fun _ hx => by cases hx)
    · rename_i h2
      exact nodeS_of (by omega) (by omega) (by omega) (by omega) (fun _ => ⟨rfl, rfl, rfl, fun z => by omega, fun z y => h2 ⟨z, y⟩⟩) (by omega) (by omega) (by omega) (by omega) (by omega) (by omega) (fun _ hx => by cases hx)
set_option maxRecDepth 100000 in
theorem any_k (p : Nat → Bool) : ((anyP p).k = 1 ∧ (anyP p).t.size = 1) ∨ (anyP p).k = 3 := by
  unfold anyP
  by_cases h : (tx p 256).length = 1
  · rw [if_pos h]
    exact .inl ⟨rfl, h⟩
  · rw [if_neg h]
    exact .inr rfl
set_option maxRecDepth 100000 in
theorem any_t (p : Nat → Bool) : (anyP p).t = txt p := by
  unfold anyP
  by_cases h : (tx p 256).length = 1
  · rw [if_pos h]; rfl
  · rw [if_neg h]; rfl
theorem any_one (p : Nat → Bool) : oneB (anyP p) = true := by
  unfold oneB
  rcases any_k p with ⟨h1, h2⟩ | h
  · rw [h1, h2]; rfl
  · rw [h]; rfl
/-- What stands in a sequence. -/
def G18 (x : PT) : Prop := x.Smp ∧ x.k ≠ 18 ∧ isE x = false
def G19 (x : PT) : Prop := x.Smp ∧ x.k ≠ 19 ∧ isF x = false
theorem behind_some {x p y : PT} (h : behindP x p = some y) : (x.k = 1 ∧ p.k = 1 ∧ x.t.size + p.t.size ≤ 65536 ∧ y = litP (x.t ++ p.t)) ∨ (x.k = 2 ∧ p.k = 2 ∧ x.n + p.n ≤ 65536 ∧ y = cntP 2 (x.n + p.n)) := by
  unfold behindP at h
  by_cases h1 : x.k ≠ p.k
  · rw [if_pos h1] at h; cases h
  · rw [if_neg h1] at h
    have h1 : x.k = p.k := Classical.not_not.1 h1
    by_cases h2 : x.k = 1 ∧ x.t.size + p.t.size ≤ 65536
    · rw [if_pos h2] at h
      exact .inl ⟨h2.1, by omega, h2.2, (Option.some.inj h).symm⟩
    · rw [if_neg h2] at h
      by_cases h3 : x.k = 2 ∧ x.n + p.n ≤ 65536
      · rw [if_pos h3] at h
        exact .inr ⟨h3.1, by omega, h3.2, (Option.some.inj h).symm⟩
      · rw [if_neg h3] at h; cases h
theorem isE_not {x : PT} (h : isE x = false) (hk : x.k = 1) : 0 < x.t.size := by
  unfold isE at h
  rw [decide_eq_true hk, Bool.true_and] at h
  have := of_decide_eq_false h
  omega
theorem cnt_two {n : Int} (h : 0 < n) : cntP 2 n = mkP 2 ⟨#[]⟩ n ⟨#[]⟩ [] := by
  unfold cntP
  rw [if_neg (by omega), if_neg (by omega)]
theorem len_pos {x : PT} (h : x.Smp) (hk : x.k = 2) : 0 < x.n := (((Smp_iff x).1 h).1.k2 (.inl hk)).2.2.2.1 hk
theorem behind_good (x p y : PT) (hx : G18 x) (hp : G18 p) (h : behindP x p = some y) : G18 y ∧ nev y = false := by
  rcases behind_some h with ⟨h1, h2, h3, rfl⟩ | ⟨h1, h2, h3, rfl⟩
  · have := isE_not hx.2.2 h1
    refine ⟨⟨smp_lit _, by show (1 : Int) ≠ 18; decide, ?_⟩, rfl⟩
    unfold isE
    have hs : (litP (x.t ++ p.t)).t.size = x.t.size + p.t.size := ByteArray.size_append ..
    rw [hs, decide_eq_false (show ¬ x.t.size + p.t.size = 0 by omega), Bool.and_false]
  · have a1 := len_pos hx.1 h1
    have a2 := len_pos hp.1 h2
    rw [cnt_two (by omega)]
    exact ⟨⟨by rw [← cnt_two (show 0 < x.n + p.n by omega)]; exact smp_cnt (.inl rfl) (by omega), by show (2 : Int) ≠ 18; decide, rfl⟩, rfl⟩
theorem behind_back (a x p y : PT) (_ : G18 a) (hx : G18 x) (hp : G18 p) (h : behindP a x = none) (hj : behindP x p = some y) : behindP a y = none := by
  unfold behindP at h ⊢
  rcases behind_some hj with ⟨h1, h2, h3, rfl⟩ | ⟨h1, h2, h3, rfl⟩
  · have hk : (litP (x.t ++ p.t)).k = 1 := rfl
    have hs : (litP (x.t ++ p.t)).t.size = x.t.size + p.t.size := ByteArray.size_append ..
    rw [hk, hs]
    rw [h1] at h
    by_cases q : a.k ≠ 1
    · rw [if_pos q]
    · rw [if_neg q] at h ⊢
      have q : a.k = 1 := Classical.not_not.1 q
      by_cases z : a.t.size + x.t.size ≤ 65536
      · rw [if_pos ⟨q, z⟩] at h; cases h
      · rw [if_neg (fun e => z (by omega)), if_neg (by omega)]
  · have a1 := len_pos hx.1 h1
    have a2 := len_pos hp.1 h2
    rw [cnt_two (by omega)]
    rw [h1] at h
    show (if a.k ≠ 2 then none else if a.k = 1 ∧ a.t.size + 0 ≤ 65536 then _ else if a.k = 2 ∧ a.n + (x.n + p.n) ≤ 65536 then _ else none) = none
    by_cases q : a.k ≠ 2
    · rw [if_pos q]
    · rw [if_neg q] at h ⊢
      have q : a.k = 2 := Classical.not_not.1 q
      rw [if_neg (by omega)] at h ⊢
      by_cases z : a.n + x.n ≤ 65536
      · rw [if_pos ⟨q, z⟩] at h; cases h
      · rw [if_neg (fun e => z (by omega))]
set_option maxRecDepth 100000 in
theorem either_some {x p y : PT} (h : eitherP x p = some y) : oneB x = true ∧ oneB p = true ∧ y = anyP (fun c => inB x.t c || inB p.t c) := by
  unfold eitherP at h
  by_cases h1 : (oneB x && oneB p) = false
  · rw [if_pos h1] at h; cases h
  · rw [if_neg h1] at h
    have h1 : (oneB x && oneB p) = true := by simpa using h1
    rw [Bool.and_eq_true] at h1
    by_cases h2 : (tx (fun c => inB x.t c && inB p.t c) 256).isEmpty = true
    · rw [if_pos h2] at h
      exact ⟨h1.1, h1.2, (Option.some.inj h).symm⟩
    · rw [if_neg h2] at h; cases h
set_option maxRecDepth 100000 in
theorem either_good (x p y : PT) (_ : G19 x) (_ : G19 p) (h : eitherP x p = some y) : G19 y ∧ isA y = false := by
  obtain ⟨-, -, e⟩ := either_some h
  rw [e]
  have hk := any_k fun c => inB x.t c || inB p.t c
  refine ⟨⟨smp_any _, by omega, ?_⟩, ?_⟩
  · unfold isF; exact decide_eq_false (by omega)
  · unfold isA; exact decide_eq_false (by omega)
set_option maxRecDepth 100000 in
theorem tx_empty {p : Nat → Bool} : (tx p 256).isEmpty = true ↔ ∀ c, c < 256 → p c = false := by
  constructor
  · intro h c hc
    have h0 : tx p 256 = [] := List.isEmpty_iff.1 h
    cases hp : p c with
    | false => rfl
    | true =>
      have : UInt8.ofNat c ∈ tx p 256 := (mem_tx 256 (Nat.le_refl _)).2 (by rw [UInt8.toNat_ofNat', Nat.mod_eq_of_lt (by omega)]; exact ⟨hc, hp⟩)
      rw [h0] at this
      cases this
  · intro h
    rw [List.isEmpty_iff, List.eq_nil_iff_forall_not_mem]
    intro b hb
    obtain ⟨h1, h2⟩ := (mem_tx 256 (Nat.le_refl _)).1 hb
    rw [h _ h1] at h2
    cases h2
set_option maxRecDepth 100000 in
theorem either_back (a x p y : PT) (_ : G19 a) (_ : G19 x) (_ : G19 p) (h : eitherP a x = none) (hj : eitherP x p = some y) : eitherP a y = none := by
  obtain ⟨h1, h2, e⟩ := either_some hj
  rw [e]
  unfold eitherP at h ⊢
  rw [any_one, Bool.and_true]
  rw [h1, Bool.and_true] at h
  by_cases q : oneB a = false
  · rw [if_pos q]
  · rw [if_neg q] at h ⊢
    by_cases z : (tx (fun c => inB a.t c && inB x.t c) 256).isEmpty = true
    · rw [if_pos z] at h; cases h
    · rw [if_neg]
      intro e
      apply z
      rw [tx_empty] at e ⊢
      intro c hc
      have := e c hc
      rw [any_t, inB_txt _ c hc] at this
      cases ha : inB a.t c with
      | false => rfl
      | true =>
        rw [ha, Bool.true_and] at this
        rw [Bool.true_and]
        cases hx : inB x.t c with
        | false => rfl
        | true => rw [hx] at this; cases this
theorem flatK_mem {k : Int} {l : List PT} {x : PT} (h : x ∈ flatK k l) : (x ∈ l ∧ x.k ≠ k) ∨ ∃ p ∈ l, p.k = k ∧ x ∈ p.lst := by
  unfold flatK at h
  obtain ⟨p, hp, hx⟩ := List.mem_flatMap.1 h
  by_cases q : p.k = k
  · rw [if_pos q] at hx
    exact .inr ⟨p, hp, q, hx⟩
  · rw [if_neg q, List.mem_singleton] at hx
    exact .inl ⟨hx ▸ hp, hx ▸ q⟩
theorem smp_cat {l : List PT} (hl : ∀ x ∈ l, x.Smp) : (catP l).Smp := by
  have hg : ∀ x ∈ stay nev isE false (flatK 18 l), G18 x := fun x hx => by
    obtain ⟨h1, h2⟩ := stay_mem hx
    rcases flatK_mem h1 with ⟨h3, h4⟩ | ⟨p, hp, hk, hx⟩
    · exact ⟨hl x h3, h4, h2⟩
    · obtain ⟨n1, n2⟩ := (Smp_iff p).1 (hl p hp)
      exact ⟨n2 x hx, (n1.k18 hk).2.2.2.2.1 x hx, h2⟩
  obtain ⟨hc, hG⟩ := fold_chn (good := G18) (fun x h => h.2.2) behind_back behind_good _ [] hg (fun x hx => by cases hx) trivial (fun x hx => by cases hx) (stay_stp (flatK 18 l))
  have e : catP l = oneOrP 18 ((stay nev isE false (flatK 18 l)).foldl (addP behindP) []) (litP ⟨#[]⟩) := rfl
  rw [e]
  generalize (stay nev isE false (flatK 18 l)).foldl (addP behindP) [] = R at hc hG
  match R, hc, hG with
  | [], _, _ => exact smp_lit _
  | [x], _, hG => exact (hG x List.mem_cons_self).1
  | x :: y :: R, hc, hG => exact nodeS_of (by decide) (by omega) (by omega) (by omega) (by omega) (fun _ => ⟨rfl, rfl, rfl, by simp, fun z hz => (hG z hz).2.1, hc⟩) (by omega) (by omega) (by omega) (by omega) (by omega) (fun z hz => (hG z hz).1)
theorem smp_fail : (mkP 15 ⟨#[]⟩ 0 ⟨#[]⟩ []).Smp := nodeS_of (by decide) (by omega) (by omega) (by omega) (by omega) (by omega) (by omega) (by omega) (by omega) (by omega) (fun _ _ => ⟨rfl, rfl, rfl⟩) (fun _ hx => by cases hx)
theorem smp_alt {l : List PT} (hl : ∀ x ∈ l, x.Smp) : (altP l).Smp := by
  have hg : ∀ x ∈ stay isA isF false (flatK 19 l), G19 x := fun x hx => by
    obtain ⟨h1, h2⟩ := stay_mem hx
    rcases flatK_mem h1 with ⟨h3, h4⟩ | ⟨p, hp, hk, hx⟩
    · exact ⟨hl x h3, h4, h2⟩
    · obtain ⟨n1, n2⟩ := (Smp_iff p).1 (hl p hp)
      exact ⟨n2 x hx, (n1.k19 hk).2.2.2.2.1 x hx, h2⟩
  obtain ⟨hc, hG⟩ := fold_chn (good := G19) (fun x h => h.2.2) either_back either_good _ [] hg (fun x hx => by cases hx) trivial (fun x hx => by cases hx) (stay_stp (flatK 19 l))
  have e : altP l = oneOrP 19 ((stay isA isF false (flatK 19 l)).foldl (addP eitherP) []) (mkP 15 ⟨#[]⟩ 0 ⟨#[]⟩ []) := rfl
  rw [e]
  generalize (stay isA isF false (flatK 19 l)).foldl (addP eitherP) [] = R at hc hG
  match R, hc, hG with
  | [], _, _ => exact smp_fail
  | [x], _, hG => exact (hG x List.mem_cons_self).1
  | x :: y :: R, hc, hG => exact nodeS_of (by decide) (by omega) (by omega) (by omega) (by omega) (by omega) (fun _ => ⟨rfl, rfl, rfl, by simp, fun z hz => (hG z hz).2.1, hc⟩) (by omega) (by omega) (by omega) (by omega) (fun z hz => (hG z hz).1)
set_option maxRecDepth 100000 in
theorem simp_smp : ∀ T : PT, FineS T → T.simp.Smp := mem_lst_ind fun T ih hT => by
  have ho := hT.ok
  have hk : ∀ x ∈ T.lst.map PT.simp, x.Smp := fun x hx => by
    obtain ⟨y, hy, rfl⟩ := List.mem_map.1 hx
    obtain ⟨i, hi⟩ := List.mem_iff_getElem?.1 hy
    have hlt : i < T.len := by have := (List.getElem?_eq_some_iff.1 hi).1; rwa [PT.lst_len] at this
    rw [PT.lst_at hlt] at hi
    refine ih y hy ?_
    rw [← Option.some.inj hi]
    exact hT.kid hlt
  rw [PT.simp_eq]
  have hr := ho.1
  generalize T.lst.map PT.simp = l at hk
  rcases (show T.k = 1 ∨ T.k = 3 ∨ (T.k = 4 ∨ T.k = 5 ∨ T.k = 6 ∨ T.k = 7) ∨ (T.k = 2 ∨ T.k = 8 ∨ T.k = 9 ∨ T.k = 10 ∨ T.k = 11) ∨ T.k = 18 ∨ T.k = 19 ∨ T.k = 20 ∨ (T.k = 21 ∨ T.k = 22) ∨ (T.k = 23 ∨ T.k = 24) ∨ (12 ≤ T.k ∧ T.k ≤ 17) by omega) with q | q | q | q | q | q | q | q | q | q
  · rw [simpN, if_pos q]; exact smp_lit _
  · rw [simpN, if_neg (by omega), if_pos q]; exact smp_any _
  · rw [simpN, if_neg (by omega), if_neg (by omega), if_pos q]
    have ht := txt_txt (inB T.t)
    generalize txt (inB T.t) = t at ht ⊢
    exact nodeS_of hr (by omega) (by omega) (fun _ => ⟨rfl, rfl, rfl, ht.symm⟩) (by omega) (by omega) (by omega) (by omega) (by omega) (by omega) (by omega) (fun _ hx => by cases hx)
  · rw [simpN, if_neg (by omega), if_neg (by omega), if_neg (by omega), if_pos q]
    exact smp_cnt q (ho.2.2.1 (by omega)).1
  · rw [simpN, if_neg (by omega), if_neg (by omega), if_neg (by omega), if_neg (by omega), if_pos q]; exact smp_cat hk
  · rw [simpN, if_neg (by omega), if_neg (by omega), if_neg (by omega), if_neg (by omega), if_neg (by omega), if_pos q]; exact smp_alt hk
  · rw [simpN, if_neg (by omega), if_neg (by omega), if_neg (by omega), if_neg (by omega), if_neg (by omega), if_neg (by omega), if_pos q, arbP]
    by_cases z : (isF (l.getD 0 PT.nul) || isE (l.getD 0 PT.nul)) = true
    · rw [if_pos z]; exact smp_lit _
    · rw [if_neg z]
      by_cases z2 : (l.getD 0 PT.nul).k = 2 ∧ (l.getD 0 PT.nul).n = 1
      · rw [if_pos z2]
        exact nodeS_of (by decide) (by omega) (by omega) (by omega) (by omega) (by omega) (by omega) (by omega) (by omega) (by omega) (fun _ _ => ⟨rfl, rfl, rfl⟩) (fun _ hx => by cases hx)
      · rw [if_neg z2]
        exact nodeS_of (by decide) (by omega) (by omega) (by omega) (by omega) (by omega) (by omega) (fun _ => ⟨rfl, rfl, rfl, by simpa using z, z2⟩) (by omega) (by omega) (by omega) hk
  · rw [simpN, if_neg (by omega), if_neg (by omega), if_neg (by omega), if_neg (by omega), if_neg (by omega), if_neg (by omega), if_neg (by omega), if_pos q]
    have hl1 := ho.2.2.2.2 (by omega)
    by_cases z : nev (l.getD 0 PT.nul) = true
    · rw [if_pos z]
      cases l with
      | nil => exact absurd z (by decide)
      | cons x l => exact hk x List.mem_cons_self
    · rw [if_neg z]
      exact nodeS_of hr (by omega) (by omega) (by omega) (by omega) (by omega) (by omega) (by omega) (fun _ => ⟨rfl, rfl, by simpa using z⟩) (by omega) (by omega) hk
  · rw [simpN, if_neg (by omega), if_neg (by omega), if_neg (by omega), if_neg (by omega), if_neg (by omega), if_neg (by omega), if_neg (by omega), if_neg (by omega), if_pos q]
    exact nodeS_of hr (by omega) (by omega) (by omega) (by omega) (by omega) (by omega) (by omega) (by omega) (fun _ => ⟨rfl, rfl⟩) (by omega) hk
  · rw [simpN, if_neg (by omega), if_neg (by omega), if_neg (by omega), if_neg (by omega), if_neg (by omega), if_neg (by omega), if_neg (by omega), if_neg (by omega), if_neg (by omega)]
    exact nodeS_of hr (by omega) (by omega) (by omega) (by omega) (by omega) (by omega) (by omega) (by omega) (by omega) (fun _ _ => ⟨rfl, rfl, rfl⟩) hk
/-- Twice is once. -/
theorem simp_twice {T : PT} (h : FineS T) : T.simp.simp = T.simp := Smp_simp _ (simp_smp T h)
end Go.Proofs.YtbmngbpillihaaaDoor
