/- What is simpler stays as it is: plain facts. What is kept of kids, one behind the other. -/
import Derived.Test.YtbmngbpillihaaaDoorText5M
import Derived.Test.YtbmngbpillihaaaDoorScanSimRP
import Derived.Test.YtbmngbpillihaaaDoorSimpAddM
namespace Go.Proofs.YtbmngbpillihaaaDoor
open Go.RowKit

theorem tx_congr {p q : Nat → Bool} : ∀ n, (∀ c, c < n → p c = q c) → tx p n = tx q n
  | 0, _ => rfl
  | n + 1, h => by rw [tx, tx, tx_congr n fun c hc => h c (by omega), h n (by omega)]
theorem mem_tx {p : Nat → Bool} {b : UInt8} : ∀ n, n ≤ 256 → (b ∈ tx p n ↔ b.toNat < n ∧ p b.toNat = true)
  | 0, _ => by simp [tx]
  | n + 1, h => by
    rw [tx, List.mem_append, mem_tx n (by omega)]
    have hof : ∀ c : UInt8, c = UInt8.ofNat n ↔ c.toNat = n := fun c => by
      constructor
      · rintro rfl
        rw [UInt8.toNat_ofNat']; omega
      · rintro rfl
        simp
    by_cases hp : p n = true
    · rw [if_pos hp, List.mem_singleton, hof]
      constructor
      · rintro (⟨h1, h2⟩ | h1)
        · exact ⟨by omega, h2⟩
        · exact ⟨by omega, by rw [h1]; exact hp⟩
      · rintro ⟨h1, h2⟩
        rcases Nat.lt_or_ge b.toNat n with q | q
        · exact .inl ⟨q, h2⟩
        · exact .inr (by omega)
    · rw [if_neg hp]
      constructor
      · rintro (⟨h1, h2⟩ | h1)
        · exact ⟨by omega, h2⟩
        · cases h1
      · rintro ⟨h1, h2⟩
        rcases Nat.lt_or_ge b.toNat n with q | q
        · exact .inl ⟨q, h2⟩
        · exact absurd (show p n = true by rw [show n = b.toNat by omega]; exact h2) hp
theorem inB_iff (t : ByteArray) (c : Nat) : inB t c = true ↔ ∃ b ∈ t.data.toList, b.toNat = c := by
  unfold inB
  rw [List.any_eq_true]
  constructor
  · rintro ⟨b, h1, h2⟩; exact ⟨b, h1, by simpa using h2⟩
  · rintro ⟨b, h1, h2⟩; exact ⟨b, h1, by simpa using h2⟩
theorem inB_txt (p : Nat → Bool) (c : Nat) (h : c < 256) : inB (txt p) c = p c := by
  have e : (txt p).data.toList = tx p 256 := rfl
  cases hp : p c with
  | true =>
    rw [inB_iff, e]
    refine ⟨UInt8.ofNat c, (mem_tx 256 (Nat.le_refl _)).2 ?_, ?_⟩
    · rw [UInt8.toNat_ofNat', Nat.mod_eq_of_lt (by omega)]
      exact ⟨h, hp⟩
    · rw [UInt8.toNat_ofNat', Nat.mod_eq_of_lt (by omega)]
  | false =>
    rw [Bool.eq_false_iff]
    intro q
    rw [inB_iff, e] at q
    obtain ⟨b, h1, h2⟩ := q
    have := ((mem_tx 256 (Nat.le_refl _)).1 h1).2
    rw [h2, hp] at this
    cases this
theorem txt_congr {p q : Nat → Bool} (h : ∀ c, c < 256 → p c = q c) : txt p = txt q := by unfold txt; rw [tx_congr 256 h]
theorem txt_txt (p : Nat → Bool) : txt (inB (txt p)) = txt p := txt_congr fun c h => inB_txt p c h
theorem txt_size (p : Nat → Bool) : (txt p).size = (tx p 256).length := rfl
/-- One behind the other as they stay. -/
def Chn (last idle : PT → Bool) (join : PT → PT → Option PT) : List PT → Prop
  | [] => True
  | [x] => idle x = false
  | x :: y :: l => idle x = false ∧ last x = false ∧ join x y = none ∧ Chn last idle join (y :: l)
section
variable {last idle : PT → Bool} {join : PT → PT → Option PT}
theorem Chn.tail {x : PT} : ∀ {l : List PT}, Chn last idle join (x :: l) → Chn last idle join l
  | [], _ => trivial
  | _ :: _, h => h.2.2.2
theorem stay_over : ∀ l, stay last idle true l = []
  | [] => rfl
  | _ :: l => by rw [stay]; exact stay_over l
theorem Chn.stay : ∀ {l : List PT}, Chn last idle join l → stay last idle false l = l
  | [], _ => rfl
  | [x], h => by
    rw [Go.Proofs.YtbmngbpillihaaaDoor.stay, if_neg (by rw [show idle x = false from h]; simp)]
    cases last x <;> rfl
  | x :: y :: l, h => by
    rw [Go.Proofs.YtbmngbpillihaaaDoor.stay, if_neg (by rw [h.1]; simp), h.2.1, Chn.stay h.2.2.2]
theorem Chn.fold : ∀ {l pre : List PT} {x : PT}, Chn last idle join (x :: l) → l.foldl (addP join) (pre ++ [x]) = pre ++ [x] ++ l
  | [], pre, x, _ => by simp
  | y :: l, pre, x, h => by
    rw [List.foldl_cons]
    have : addP join (pre ++ [x]) y = pre ++ [x] ++ [y] := by
      unfold addP
      rw [show (pre ++ [x]).getLast? = some x by simp]
      show (match join x y with | some z => (pre ++ [x]).dropLast ++ [z] | none => pre ++ [x] ++ [y]) = _
      rw [h.2.2.1]
    rw [this, Chn.fold h.2.2.2]
    simp
theorem Chn.few {k : Int} {l : List PT} (h : Chn last idle join l) (hk : ∀ x ∈ l, x.k ≠ k) : fewP k last idle join l = l := by
  have hf : flatK k l = l := by
    unfold flatK
    induction l with
    | nil => rfl
    | cons x l ih =>
      rw [List.flatMap_cons, if_neg (hk x List.mem_cons_self), ih h.tail fun y hy => hk y (List.mem_cons_of_mem _ hy)]
      rfl
  unfold fewP
  rw [hf, h.stay]
  cases l with
  | nil => rfl
  | cons x l => exact Chn.fold (pre := []) h
end

/-- A node that cannot be made simpler, its kids being such. -/
structure NodeS (U : PT) : Prop where
  eq : U = mkP U.k U.t U.n U.nm U.lst
  k1 : U.k = 1 → U.n = 0 ∧ U.nm = ⟨#[]⟩ ∧ U.lst = []
  k3 : U.k = 3 → U.n = 0 ∧ U.nm = ⟨#[]⟩ ∧ U.lst = [] ∧ U.t = txt (inB U.t) ∧ (tx (inB U.t) 256).length ≠ 1
  k4 : U.k = 4 ∨ U.k = 5 ∨ U.k = 6 ∨ U.k = 7 → U.n = 0 ∧ U.nm = ⟨#[]⟩ ∧ U.lst = [] ∧ U.t = txt (inB U.t)
  k2 : U.k = 2 ∨ U.k = 8 ∨ U.k = 9 ∨ U.k = 10 ∨ U.k = 11 → U.t = ⟨#[]⟩ ∧ U.nm = ⟨#[]⟩ ∧ U.lst = [] ∧ (U.k = 2 → 0 < U.n) ∧ (U.k = 9 → U.n ≠ 0)
  k18 : U.k = 18 → U.t = ⟨#[]⟩ ∧ U.n = 0 ∧ U.nm = ⟨#[]⟩ ∧ 2 ≤ U.lst.length ∧ (∀ x ∈ U.lst, x.k ≠ 18) ∧ Chn nev isE behindP U.lst
  k19 : U.k = 19 → U.t = ⟨#[]⟩ ∧ U.n = 0 ∧ U.nm = ⟨#[]⟩ ∧ 2 ≤ U.lst.length ∧ (∀ x ∈ U.lst, x.k ≠ 19) ∧ Chn isA isF eitherP U.lst
  k20 : U.k = 20 → U.t = ⟨#[]⟩ ∧ U.n = 0 ∧ U.nm = ⟨#[]⟩ ∧ (isF (U.lst.getD 0 PT.nul) || isE (U.lst.getD 0 PT.nul)) = false ∧ ¬ ((U.lst.getD 0 PT.nul).k = 2 ∧ (U.lst.getD 0 PT.nul).n = 1)
  k21 : U.k = 21 ∨ U.k = 22 → U.t = ⟨#[]⟩ ∧ U.n = 0 ∧ nev (U.lst.getD 0 PT.nul) = false
  k23 : U.k = 23 ∨ U.k = 24 → U.t = ⟨#[]⟩ ∧ U.n = 0
  rest : 12 ≤ U.k → U.k ≤ 17 → U.t = ⟨#[]⟩ ∧ U.n = 0 ∧ U.nm = ⟨#[]⟩
  rng : 1 ≤ U.k ∧ U.k ≤ 24
/-- All of it. -/
def PT.Smq : PT → Prop
  | .node k t n nm xa b o len cap kids => NodeS (.node k t n nm xa b o len cap kids) ∧ ∀ i, PT.Smq (kids i)
structure PT.Smp (U : PT) : Prop where
  all : U.Smq
theorem Smp_iff (U : PT) : U.Smp ↔ NodeS U ∧ ∀ x ∈ U.lst, x.Smp := by
  obtain ⟨k, t, n, nm, xa, b, o, len, cap, kids⟩ := U
  constructor
  · rintro ⟨h1, h2⟩
    refine ⟨h1, fun x hx => ?_⟩
    obtain ⟨i, rfl⟩ := List.mem_ofFn.1 hx
    exact ⟨h2 i⟩
  · rintro ⟨h1, h2⟩
    exact ⟨⟨h1, fun i => (h2 _ (List.mem_ofFn.2 ⟨i, rfl⟩)).all⟩⟩
theorem oneOrP_many {k : Int} {l : List PT} {z : PT} (h : 2 ≤ l.length) : oneOrP k l z = mkP k ⟨#[]⟩ 0 ⟨#[]⟩ l := by
  match l, h with
  | x :: y :: l, _ => rfl
theorem Smp_simp : ∀ U : PT, U.Smp → U.simp = U := mem_lst_ind fun U ih h => by
  obtain ⟨hn, hk⟩ := (Smp_iff U).1 h
  have hm : U.lst.map PT.simp = U.lst := by
    conv => rhs; rw [← List.map_id U.lst]
    exact List.map_congr_left fun x hx => ih x hx (hk x hx)
  rw [PT.simp_eq, hm]
  have hr := hn.rng
  rcases (show U.k = 1 ∨ U.k = 3 ∨ (U.k = 4 ∨ U.k = 5 ∨ U.k = 6 ∨ U.k = 7) ∨ (U.k = 2 ∨ U.k = 8 ∨ U.k = 9 ∨ U.k = 10 ∨ U.k = 11) ∨ U.k = 18 ∨ U.k = 19 ∨ U.k = 20 ∨ (U.k = 21 ∨ U.k = 22) ∨ (U.k = 23 ∨ U.k = 24) ∨ (12 ≤ U.k ∧ U.k ≤ 17) by omega) with q | q | q | q | q | q | q | q | q | q
  · obtain ⟨a1, a2, a3⟩ := hn.k1 q
    rw [simpN, if_pos q]
    conv => rhs; rw [hn.eq, q, a1, a2, a3]
    rfl
  · obtain ⟨a1, a2, a3, a4, a5⟩ := hn.k3 q
    rw [simpN, if_neg (by omega), if_pos q, anyP, if_neg a5, ← a4]
    conv => rhs; rw [hn.eq, q, a1, a2, a3]
  · obtain ⟨a1, a2, a3, a4⟩ := hn.k4 q
    rw [simpN, if_neg (by omega), if_neg (by omega), if_pos q, ← a4]
    conv => rhs; rw [hn.eq, a1, a2, a3]
  · obtain ⟨a1, a2, a3, a4, a5⟩ := hn.k2 q
    rw [simpN, if_neg (by omega), if_neg (by omega), if_neg (by omega), if_pos q, cntP, if_neg (fun z => by have := a4 z.1; omega), if_neg (fun z => a5 z.1 z.2)]
    conv => rhs; rw [hn.eq, a1, a2, a3]
  · obtain ⟨a1, a2, a3, a4, a5, a6⟩ := hn.k18 q
    rw [simpN, if_neg (by omega), if_neg (by omega), if_neg (by omega), if_neg (by omega), if_pos q, catP, a6.few a5, oneOrP_many a4]
    conv => rhs; rw [hn.eq, q, a1, a2, a3]
  · obtain ⟨a1, a2, a3, a4, a5, a6⟩ := hn.k19 q
    rw [simpN, if_neg (by omega), if_neg (by omega), if_neg (by omega), if_neg (by omega), if_neg (by omega), if_pos q, altP, a6.few a5, oneOrP_many a4]
    conv => rhs; rw [hn.eq, q, a1, a2, a3]
  · obtain ⟨a1, a2, a3, a4, a5⟩ := hn.k20 q
    rw [simpN, if_neg (by omega), if_neg (by omega), if_neg (by omega), if_neg (by omega), if_neg (by omega), if_neg (by omega), if_pos q, arbP, if_neg (by rw [a4]; simp), if_neg a5]
    conv => rhs; rw [hn.eq, q, a1, a2, a3]
  · obtain ⟨a1, a2, a3⟩ := hn.k21 q
    rw [simpN, if_neg (by omega), if_neg (by omega), if_neg (by omega), if_neg (by omega), if_neg (by omega), if_neg (by omega), if_neg (by omega), if_pos q, if_neg (by rw [a3]; simp)]
    conv => rhs; rw [hn.eq, a1, a2]
  · obtain ⟨a1, a2⟩ := hn.k23 q
    rw [simpN, if_neg (by omega), if_neg (by omega), if_neg (by omega), if_neg (by omega), if_neg (by omega), if_neg (by omega), if_neg (by omega), if_neg (by omega), if_pos q]
    conv => rhs; rw [hn.eq, a1, a2]
  · obtain ⟨a1, a2, a3⟩ := hn.rest q.1 q.2
    rw [simpN, if_neg (by omega), if_neg (by omega), if_neg (by omega), if_neg (by omega), if_neg (by omega), if_neg (by omega), if_neg (by omega), if_neg (by omega), if_neg (by omega)]
    conv => rhs; rw [hn.eq, a1, a2, a3]
end Go.Proofs.YtbmngbpillihaaaDoor

namespace Go.Proofs.YtbmngbpillihaaaDoor
open Go.RowKit

/-- One kid is asked of, and put if it stays. -/
def stp (last idle : PT → Bool) (join : PT → PT → Option PT) (s : Bool × List PT) (p : PT) : Bool × List PT := if (s.1 || idle p) = true then s else (last p, addP join s.2 p)
theorem stp_fold (last idle : PT → Bool) (join : PT → PT → Option PT) : ∀ (F : List PT) (ov : Bool) (l : List PT), (F.foldl (stp last idle join) (ov, l)).2 = (stay last idle ov F).foldl (addP join) l
  | [], ov, l => by cases ov <;> rfl
  | p :: F, true, l => by
    show (F.foldl (stp last idle join) (stp last idle join (true, l) p)).2 = _
    rw [show stp last idle join (true, l) p = (true, l) from rfl, stp_fold last idle join F true l]; rfl
  | p :: F, false, l => by
    show (F.foldl (stp last idle join) (stp last idle join (false, l) p)).2 = (if idle p then stay last idle false F else p :: stay last idle (last p) F).foldl _ _
    cases h : idle p with
    | true => rw [show stp last idle join (false, l) p = (false, l) by unfold stp; rw [h]; rfl, stp_fold last idle join F false l]; rfl
    | false => rw [show stp last idle join (false, l) p = (last p, addP join l p) by unfold stp; rw [h]; rfl, stp_fold last idle join F (last p) _]; rfl
theorem few_fold (k : Int) (last idle : PT → Bool) (join : PT → PT → Option PT) (l : List PT) : fewP k last idle join l = ((flatK k l).foldl (stp last idle join) (false, [])).2 := (stp_fold last idle join _ false []).symm
theorem addP_len (join : PT → PT → Option PT) (l : List PT) (p : PT) : (addP join l p).length ≤ l.length + 1 := by
  unfold addP
  cases h : l.getLast? with
  | none => simp
  | some x =>
    dsimp only
    cases join x p with
    | none => simp
    | some y => simp <;> omega
theorem stp_len (last idle : PT → Bool) (join : PT → PT → Option PT) (s : Bool × List PT) (p : PT) : (stp last idle join s p).2.length ≤ s.2.length + 1 := by
  unfold stp
  split
  · omega
  · exact addP_len join s.2 p
theorem fold_len (last idle : PT → Bool) (join : PT → PT → Option PT) : ∀ (F : List PT) (s : Bool × List PT), (F.foldl (stp last idle join) s).2.length ≤ s.2.length + F.length
  | [], s => by simp
  | p :: F, s => by
    have h1 := fold_len last idle join F (stp last idle join s p)
    have h2 := stp_len last idle join s p
    simp only [List.foldl_cons, List.length_cons]; omega
/-- Texts and numbers are small. -/
def Fine5 (T : PT) : Prop := T.t.size ≤ 65536 ∧ 0 ≤ T.n ∧ T.n ≤ 65536
theorem addP_fine {join : PT → PT → Option PT} (hj : ∀ a b y, Fine5 a → Fine5 b → join a b = some y → Fine5 y) {l : List PT} {p : PT} (hl : ∀ x ∈ l, Fine5 x) (hp : Fine5 p) : ∀ x ∈ addP join l p, Fine5 x := by
  unfold addP
  cases h : l.getLast? with
  | none => intro x hx; rw [List.mem_singleton] at hx; rw [hx]; exact hp
  | some a =>
    dsimp only
    cases hy : join a p with
    | none =>
      intro x hx
      rcases List.mem_append.1 hx with q | q
      · exact hl x q
      · rw [List.mem_singleton] at q; rw [q]; exact hp
    | some y =>
      intro x hx
      rcases List.mem_append.1 hx with q | q
      · exact hl x ((List.dropLast_sublist l).subset q)
      · rw [List.mem_singleton] at q; rw [q]; exact hj a p y (hl a (List.mem_of_getLast? h)) hp hy
theorem stp_fine {last idle : PT → Bool} {join : PT → PT → Option PT} (hj : ∀ a b y, Fine5 a → Fine5 b → join a b = some y → Fine5 y) {s : Bool × List PT} {p : PT} (hl : ∀ x ∈ s.2, Fine5 x) (hp : Fine5 p) : ∀ x ∈ (stp last idle join s p).2, Fine5 x := by
  unfold stp
  split
  · exact hl
  · exact addP_fine hj hl hp
theorem behind_fine (a b y : PT) (ha : Fine5 a) (hb : Fine5 b) (h : behindP a b = some y) : Fine5 y := by
  unfold behindP at h
  split at h
  · cases h
  · split at h
    · rename_i h1
      injection h with h; subst h
      exact ⟨by show (a.t ++ b.t).size ≤ 65536; rw [ByteArray.size_append]; exact h1.2, Int.le_refl 0, by show (0 : Int) ≤ 65536; decide⟩
    · split at h
      · rename_i h2
        injection h with h; subst h
        unfold cntP
        split
        · exact ⟨by show (0 : Nat) ≤ 65536; decide, Int.le_refl 0, by show (0 : Int) ≤ 65536; decide⟩
        · split
          · exact ⟨by show (0 : Nat) ≤ 65536; decide, Int.le_refl 0, by show (0 : Int) ≤ 65536; decide⟩
          · exact ⟨by show (0 : Nat) ≤ 65536; decide, by show 0 ≤ a.n + b.n; have := ha.2.1; have := hb.2.1; omega, h2.2⟩
      · cases h
theorem tx_max (p : Nat → Bool) : ∀ n, (tx p n).length ≤ n
  | 0 => Nat.le_refl _
  | n + 1 => by
    have := tx_max p n
    unfold tx
    rw [List.length_append]
    split <;> simp <;> omega
theorem either_fine (a b y : PT) (_ha : Fine5 a) (_hb : Fine5 b) (h : eitherP a b = some y) : Fine5 y := by
  unfold eitherP at h
  split at h
  · cases h
  · split at h
    · injection h with h; subst h
      have ht : ∀ p, (txt p).size ≤ 65536 := fun p => by
        show (tx p 256).toArray.size ≤ _
        have := tx_max p 256
        simp only [List.size_toArray]; omega
      unfold anyP
      split
      · exact ⟨ht _, Int.le_refl 0, by show (0 : Int) ≤ 65536; decide⟩
      · exact ⟨ht _, Int.le_refl 0, by show (0 : Int) ≤ 65536; decide⟩
    · cases h
theorem flat_le (k : Int) (l : List PT) (n : Nat) : (flatK k (l.take n)).length ≤ (flatK k l).length := by
  conv => rhs; rw [← List.take_append_drop n l]
  unfold flatK
  rw [List.flatMap_append, List.length_append]
  omega
theorem bel_trans3 {a b c d : World} (h : Below a.heap.size a b) (k : Below b.heap.size b c) (m : Below a.heap.size c d) : Below a.heap.size a d := (h.trans (k.mono h.size)).trans m
theorem last_at {l : List PT} (h : 0 < l.length) : ∃ x, l[l.length - 1]? = some x ∧ l.getLast? = some x :=
  ⟨l[l.length - 1], List.getElem?_eq_getElem (by omega), by rw [List.getLast?_eq_getElem?, List.getElem?_eq_getElem (by omega)]⟩
theorem set_lastP (l : List PT) (y : PT) (h : 0 < l.length) : l.set (l.length - 1) y = l.dropLast ++ [y] := by
  obtain ⟨d, z, rfl⟩ : ∃ d z, l = d ++ [z] := ⟨_, _, (List.dropLast_concat_getLast (List.ne_nil_of_length_pos h)).symm⟩
  rw [List.set_append_right _ _ (by simp)]
  simp
end Go.Proofs.YtbmngbpillihaaaDoor
