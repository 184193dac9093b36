/- Plain facts on texts cut at a sign and joined by it: lists of bytes alone. -/
import Derived.Lib.SplitLaws
import Derived.Lib.Join
namespace Go.Proofs.YtmplbdapehmciaaDoor
open Go
/-- A piece laid ahead of the first of some pieces. -/
def glue (x : List UInt8) : List (List UInt8) → List (List UInt8)
  | [] => [x]
  | y :: r => (x ++ y) :: r
/-- The pieces of a text between its signs. -/
def pcs (c : UInt8) : List UInt8 → List (List UInt8)
  | [] => [[]]
  | b :: l => if b = c then [] :: pcs c l else glue [b] (pcs c l)
theorem pcs_cons (c b : UInt8) (l : List UInt8) : pcs c (b :: l) = if b = c then [] :: pcs c l else glue [b] (pcs c l) := rfl
theorem one_prefix (c b : UInt8) (l : List UInt8) (h : b ≠ c) : ([c] : List UInt8).isPrefixOf (b :: l) = false := by
  have hcb : (c == b) = false := by rw [beq_eq_false_iff_ne]; exact fun e => h e.symm
  simp only [List.isPrefixOf, hcb, Bool.false_and]
theorem glue_nil (p : List (List UInt8)) (h : p ≠ []) : glue [] p = p := by
  cases p with
  | nil => exact absurd rfl h
  | cons y r => simp [glue]
theorem glue_glue (x y : List UInt8) (p : List (List UInt8)) : glue x (glue y p) = glue (x ++ y) p := by
  cases p <;> simp [glue]
theorem glue_ne (x : List UInt8) (p : List (List UInt8)) : glue x p ≠ [] := by cases p <;> simp [glue]
theorem pcs_ne (c : UInt8) (l : List UInt8) : pcs c l ≠ [] := by
  cases l with
  | nil => simp [pcs]
  | cons b l =>
    rw [pcs_cons]
    split
    · simp
    · exact glue_ne _ _
theorem pcs_free (c : UInt8) : ∀ (x : List UInt8), (∀ b ∈ x, b ≠ c) → pcs c x = [x]
  | [], _ => rfl
  | b :: x, h => by
    have hb : b ≠ c := h b (by simp)
    rw [pcs_cons]
    rw [if_neg hb, pcs_free c x (fun d hd => h d (by simp [hd]))]
    simp [glue]
theorem pcs_append (c : UInt8) : ∀ (x l : List UInt8), (∀ b ∈ x, b ≠ c) → pcs c (x ++ c :: l) = x :: pcs c l
  | [], l, _ => by rw [List.nil_append, pcs_cons, if_pos rfl]
  | b :: x, l, h => by
    have hb : b ≠ c := h b (by simp)
    rw [List.cons_append]
    rw [pcs_cons]
    rw [if_neg hb, pcs_append c x l (fun d hd => h d (by simp [hd]))]
    simp [glue]
theorem pcs_length (c : UInt8) : ∀ l : List UInt8, (pcs c l).length = l.count c + 1
  | [] => by simp [pcs]
  | b :: l => by
    have ih := pcs_length c l
    rw [pcs_cons]
    by_cases hb : b = c
    · subst hb; simp [ih]
    · rw [if_neg hb]
      have hg : (glue [b] (pcs c l)).length = (pcs c l).length := by
        cases hp : pcs c l with
        | nil => exact absurd hp (pcs_ne c l)
        | cons y r => simp [glue]
      rw [hg, ih, List.count_cons_of_ne hb]
theorem join_glue (x : List UInt8) (p : List (List UInt8)) (sep : List UInt8) (h : p ≠ []) : Lib.join (glue x p) sep = x ++ Lib.join p sep := by
  cases p with
  | nil => exact absurd rfl h
  | cons y r => rw [glue, Lib.join_cons, Lib.join_cons, List.append_assoc]
theorem join_empty (p : List (List UInt8)) (sep : List UInt8) (h : p ≠ []) : Lib.join ([] :: p) sep = sep ++ Lib.join p sep := by
  cases p with
  | nil => exact absurd rfl h
  | cons y r => rw [Lib.join_cons, Lib.join_cons]; simp [Lib.joinTail]
theorem join_pcs (c : UInt8) : ∀ l : List UInt8, Lib.join (pcs c l) [c] = l
  | [] => by simp [pcs, Lib.join_one]
  | b :: l => by
    rw [pcs_cons]
    by_cases hb : b = c
    · subst hb
      rw [if_pos rfl, join_empty _ _ (pcs_ne b l), join_pcs b l]; rfl
    · rw [if_neg hb, join_glue _ _ _ (pcs_ne c l), join_pcs c l]; rfl
theorem pcs_join (c : UInt8) : ∀ (ls : List (List UInt8)), ls ≠ [] → (∀ x ∈ ls, ∀ b ∈ x, b ≠ c) → pcs c (Lib.join ls [c]) = ls
  | [], h, _ => absurd rfl h
  | [x], _, h => by rw [Lib.join_one]; exact pcs_free c x (h x (by simp))
  | x :: y :: r, _, h => by
    have ih := pcs_join c (y :: r) (by simp) (fun z hz => h z (by simp [List.mem_cons.1 hz]))
    have e : Lib.join (x :: y :: r) [c] = x ++ c :: Lib.join (y :: r) [c] := by
      rw [Lib.join_cons, Lib.join_cons]; simp [Lib.joinTail]
    rw [e, pcs_append c x _ (h x (by simp)), ih]
theorem pcs_miss (c : UInt8) : ∀ l : List UInt8, Lib.index l [c] = -1 → pcs c l = [l]
  | [], _ => rfl
  | b :: l, h => by
    unfold Lib.index at h
    by_cases hb : b = c
    · subst hb; simp at h
    · have hf := one_prefix c b l hb
      rw [hf] at h
      by_cases hm : Lib.index l [c] = -1
      · have := pcs_miss c l hm
        rw [pcs_cons]
        rw [if_neg hb, this]
        simp [glue]
      · have hge := Lib.index_ge l [c]
        have : (Lib.index l [c] == -1) = false := by rw [beq_eq_false_iff_ne]; exact hm
        rw [this] at h
        simp at h
        omega
theorem pcs_hit (c : UInt8) : ∀ (l : List UInt8) (i : Nat), Lib.index l [c] = (i : Int) → pcs c l = l.take i :: pcs c (l.drop (i + 1))
  | [], i, h => by simp [Lib.index] at h
  | b :: l, i, h => by
    unfold Lib.index at h
    by_cases hb : b = c
    · subst hb
      have e : i = 0 := by simp at h; omega
      subst e
      rw [pcs_cons, if_pos rfl]; simp
    · have hf := one_prefix c b l hb
      rw [hf] at h
      by_cases hm : Lib.index l [c] = -1
      · rw [hm] at h; simp at h
      · have hge := Lib.index_ge l [c]
        have hm2 : (Lib.index l [c] == -1) = false := by rw [beq_eq_false_iff_ne]; exact hm
        rw [hm2] at h
        simp at h
        obtain ⟨j, rfl⟩ : ∃ j, i = j + 1 := ⟨i - 1, by omega⟩
        have := pcs_hit c l j (by omega)
        rw [pcs_cons]
        rw [if_neg hb, this]
        simp [glue]
/-- The pieces, as texts. -/
def pieces (c : UInt8) (t : ByteArray) : List ByteArray := (pcs c t.data.toList).map fun l => ⟨l.toArray⟩
theorem split_eq (c : UInt8) : ∀ (k : Nat) (t : ByteArray), Lib.countB t ⟨#[c]⟩ = k → Lib.splitB ⟨#[c]⟩ 0 k t = pieces c t
  | 0, t, h => by
    have hi : Lib.indexB t ⟨#[c]⟩ = -1 := by
      by_cases hm : Lib.indexB t ⟨#[c]⟩ = -1
      · exact hm
      · have hge := Lib.index_ge t.data.toList [c]
        have hge' : -1 ≤ Lib.indexB t ⟨#[c]⟩ := hge
        have := Lib.countB_hit t ⟨#[c]⟩ (Lib.indexB t ⟨#[c]⟩).toNat (Nat.le_refl 1) (by omega)
        omega
    rw [Lib.splitB_miss _ _ _ _ hi]
    unfold pieces
    rw [pcs_miss c _ hi]
    rfl
  | k + 1, t, h => by
    by_cases hm : Lib.indexB t ⟨#[c]⟩ = -1
    · have := Lib.countB_miss t ⟨#[c]⟩ hm
      omega
    · have hge : -1 ≤ Lib.indexB t ⟨#[c]⟩ := Lib.index_ge t.data.toList [c]
      obtain ⟨i, hi⟩ : ∃ i : Nat, Lib.indexB t ⟨#[c]⟩ = (i : Int) := ⟨(Lib.indexB t ⟨#[c]⟩).toNat, by omega⟩
      have hc := Lib.countB_hit t ⟨#[c]⟩ i (Nat.le_refl 1) hi
      have ih := split_eq c k (t.extract (i + (⟨#[c]⟩ : ByteArray).size) t.size) (by omega)
      unfold Lib.splitB
      rw [hi]
      have hne : ((i : Int) == -1) = false := by rw [beq_eq_false_iff_ne]; omega
      rw [hne, Int.toNat_natCast, ih]
      unfold pieces
      rw [pcs_hit c t.data.toList i hi]
      have e1 : (⟨#[c]⟩ : ByteArray).size = 1 := rfl
      rw [e1]
      have d1 : (t.extract (i + 1) t.size).data.toList = t.data.toList.drop (i + 1) := by
        rw [ByteArray.data_extract, Array.toList_extract, List.extract_eq_take_drop, List.take_of_length_le (by simp)]
      have d2 : t.extract 0 (i + 0) = ⟨(t.data.toList.take i).toArray⟩ := by
        apply ByteArray.ext
        rw [ByteArray.data_extract]
        apply Array.toList_inj.1
        rw [Array.toList_extract, List.extract_eq_take_drop]; simp
      rw [d1, d2]
      simp
end Go.Proofs.YtmplbdapehmciaaDoor
