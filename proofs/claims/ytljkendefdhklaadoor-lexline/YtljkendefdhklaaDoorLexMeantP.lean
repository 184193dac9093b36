/- What a text in quotes means: two quotes are one. -/
import Derived.Test.YtljkendefdhklaaDoorLexWalkB
import Derived.Lib.Replace
namespace Go.Proofs.YtljkendefdhklaaDoor
open Go.RowKit

/-- Each two quotes as one, from the left. -/
def und : List UInt8 → List UInt8
  | [] => []
  | [c] => [c]
  | a :: b :: r => if a = 39 ∧ b = 39 then 39 :: und r else a :: und (b :: r)
theorem und_cons (a : UInt8) (l : List UInt8) (h : ([39, 39] : List UInt8).isPrefixOf (a :: l) = false) : und (a :: l) = a :: und l := by
  cases l with
  | nil => rfl
  | cons b r =>
    rw [und, if_neg]
    rintro ⟨rfl, rfl⟩
    simp [List.isPrefixOf] at h
theorem und_two (r : List UInt8) : und (39 :: 39 :: r) = 39 :: und r := by rw [und, if_pos ⟨rfl, rfl⟩]
theorem und_len : ∀ l : List UInt8, (und l).length ≤ l.length
  | [] => Nat.le_refl _
  | [_] => Nat.le_refl _
  | a :: b :: r => by
    rw [und]
    split
    · have := und_len r; simp; omega
    · have := und_len (b :: r); simp at this ⊢; omega
theorem index_cons (b : UInt8) (l sub : List UInt8) (hp : sub.isPrefixOf (b :: l) = false) : Lib.index (b :: l) sub = if Lib.index l sub = -1 then -1 else Lib.index l sub + 1 := by
  rw [Lib.index, hp]
  by_cases h : Lib.index l sub = -1
  · rw [h]; rfl
  · have : (Lib.index l sub == -1) = false := by rw [beq_eq_false_iff_ne]; exact h
    rw [this, if_neg h]; rfl
theorem rep_two : ∀ (n : Nat) (l : List UInt8), l.length ≤ n → Lib.replaceK [39, 39] [39] (Lib.count l [39, 39]) l = und l
  | _, [], _ => by
    rw [Lib.count_miss rfl]; rfl
  | 0, a :: l, h => by simp at h
  | n + 1, a :: l, h => by
    cases hp : ([39, 39] : List UInt8).isPrefixOf (a :: l) with
    | true =>
      obtain ⟨r, hr⟩ : ∃ r, a :: l = 39 :: 39 :: r := by
        obtain ⟨r, hr⟩ := List.isPrefixOf_iff_prefix.1 hp
        exact ⟨r, hr.symm⟩
      rw [hr]
      have h0 : Lib.index (39 :: 39 :: r) [39, 39] = ((0 : Nat) : Int) := by simp [Lib.index]
      rw [Lib.count_hit (by decide) h0, Nat.add_comm, Lib.replaceK_hit _ _ _ _ 0 h0, und_two]
      show [] ++ [39] ++ Lib.replaceK [39, 39] [39] (Lib.count r [39, 39]) r = _
      rw [rep_two n r (by have := congrArg List.length hr; simp at this h; omega)]; rfl
    | false =>
      have ih := rep_two n l (by simp at h; omega)
      rw [und_cons a l hp]
      have hx := index_cons a l [39, 39] hp
      by_cases hm : Lib.index l [39, 39] = -1
      · rw [if_pos hm] at hx
        rw [Lib.count_miss hx]
        rw [Lib.count_miss hm] at ih
        show a :: l = _
        rw [← ih]; rfl
      · rw [if_neg hm] at hx
        obtain ⟨i, hi⟩ : ∃ i : Nat, Lib.index l [39, 39] = i := ⟨(Lib.index l [39, 39]).toNat, by have := Lib.index_ge l [39, 39]; omega⟩
        rw [hi] at hx
        have hx' : Lib.index (a :: l) [39, 39] = ((i + 1 : Nat) : Int) := hx
        rw [Lib.count_hit (by decide) hi, Nat.add_comm, Lib.replaceK_hit _ _ _ _ i hi] at ih
        rw [Lib.count_hit (by decide) hx', Nat.add_comm, Lib.replaceK_hit _ _ _ _ (i + 1) hx', ← ih]
        have : (a :: l).drop (i + 1 + ([39, 39] : List UInt8).length) = l.drop (i + ([39, 39] : List UInt8).length) := by
          show (a :: l).drop (i + 1 + 2) = l.drop (i + 2)
          rw [show i + 1 + 2 = (i + 2) + 1 by omega, List.drop_succ_cons]
        rw [this, List.take_succ_cons]; rfl
theorem replace_two (l : List UInt8) : Lib.replaceAll l [39, 39] [39] = und l := by
  unfold Lib.replaceAll Lib.replace Lib.replaceNum
  rw [if_neg (by decide), if_pos (.inl (by decide))]
  exact rep_two l.length l (Nat.le_refl _)
/-- The bytes between two places. -/
def sec (s : ByteArray) (i j : Nat) : List UInt8 := (s.data.toList.drop i).take (j - i)
theorem sec_step (s : ByteArray) (i j : Nat) (h : i < j) (hj : j ≤ s.size) : sec s i j = s.data.toList.getD i 0 :: sec s (i + 1) j := by
  unfold sec
  have hl : i < s.data.toList.length := by have : s.data.toList.length = s.size := by simp
                                           omega
  rw [List.drop_eq_getElem_cons hl, show j - i = (j - (i + 1)) + 1 by omega, List.take_succ_cons, List.getD, List.getElem?_eq_getElem hl]; rfl
theorem sec_none (s : ByteArray) (i : Nat) : sec s i i = [] := by unfold sec; rw [Nat.sub_self]; rfl
theorem byte_of {s : ByteArray} {i n : Nat} (h : bat s i = n) (hn : n < 256) : s.data.toList.getD i 0 = UInt8.ofNat n := (u8_nat hn).2 h
theorem ct_und (s : ByteArray) (i : Nat) (hi : i ≤ s.size) (h : cq s i < s.size) : und (sec s i (cq s i)) = ct s i :=
  cq_ind (P := fun i => i ≤ s.size → cq s i < s.size → und (sec s i (cq s i)) = ct s i) (fun i hi _ h => by rw [cq_end hi] at h; omega)
    (fun i hi hb ih _ h => by
      rw [cq_plain hi hb] at h ⊢
      have hle := cq_le s (i + 1) (by omega)
      rw [sec_step s i _ (by omega) (by omega), ct_plain hi hb, und_cons, ih (by omega) h]
      cases hp : ([39, 39] : List UInt8).isPrefixOf (s.data.toList.getD i 0 :: sec s (i + 1) (cq s (i + 1))) with
      | false => rfl
      | true =>
        exfalso
        obtain ⟨r, hr⟩ := List.isPrefixOf_iff_prefix.1 hp
        have : s.data.toList.getD i 0 = 39 := (by injection hr with h1 _; exact h1.symm)
        exact hb (by rw [← getD_bat, this]; rfl))
    (fun i hb hc ih _ h => by
      rw [cq_two hb hc] at h ⊢
      have h1 := bat_in (s := s) (i := i + 1) (by omega)
      have hle := cq_le s (i + 2) (by omega)
      rw [sec_step s i _ (by omega) (by omega), sec_step s (i + 1) _ (by omega) (by omega), byte_of hb (by decide), byte_of hc (by decide)]
      rw [show (UInt8.ofNat 39) = 39 from rfl, und_two, ct_two hb hc, ih (by omega) h])
    (fun i hb hc _ h => by rw [cq_here hb hc, sec_none, ct_here hb hc]; rfl) s.size i (by omega) hi h
theorem sec_data (s : ByteArray) (i j : Nat) : (s.extract i j).data.toList = sec s i j := by
  rw [← ByteArray.toList_eq]; exact extract_list s i j
theorem extract_inner (s : ByteArray) (i e : Nat) (h : i + 1 ≤ e) (he : e ≤ s.size) : (s.extract i e).extract 1 ((s.extract i e).size - 1) = s.extract (i + 1) (e - 1) := by
  rw [ByteArray.extract_extract]
  have : (s.extract i e).size = e - i := by simp; omega
  rw [this]
  congr 1
  omega
end Go.Proofs.YtljkendefdhklaaDoor
