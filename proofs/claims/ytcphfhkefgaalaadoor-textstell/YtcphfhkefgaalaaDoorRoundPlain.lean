/- Plain facts on texts turned round: a text from a byte on, and behind it what stood ahead of that. -/
import Derived.WalkKit
namespace Go.Proofs.YtcphfhkefgaalaaDoor
/-- Where a text of N bytes is cut, if it is turned round by n. -/
def rotK (N : Nat) (n : Int) : Nat := (n % (N : Int)).toNat
/-- A text turned round by n. -/
def rot (t : ByteArray) (n : Int) : ByteArray := t.extract (rotK t.size n) t.size ++ t.extract 0 (rotK t.size n)
theorem rotK_lt (N : Nat) (n : Int) (h : 0 < N) : rotK N n < N := by
  unfold rotK
  have h1 := Int.emod_lt_of_pos n (show (0 : Int) < (N : Int) by omega)
  have h2 := Int.emod_nonneg n (show (N : Int) ≠ 0 by omega)
  omega
theorem rotK_le (N : Nat) (n : Int) : rotK N n ≤ N ∨ N = 0 := by
  by_cases h : 0 < N
  · exact .inl (Nat.le_of_lt (rotK_lt N n h))
  · exact .inr (by omega)
theorem rotK_cast (N : Nat) (n : Int) (h : 0 < N) : ((rotK N n : Nat) : Int) = n % (N : Int) := by
  unfold rotK
  have h2 := Int.emod_nonneg n (show (N : Int) ≠ 0 by omega)
  omega
theorem rotK_add (N : Nat) (n m : Int) (h : 0 < N) : rotK N (n + m) = (rotK N n + rotK N m) % N := by
  have e1 := rotK_cast N n h
  have e2 := rotK_cast N m h
  have e3 := rotK_cast N (n + m) h
  have e : ((rotK N (n + m) : Nat) : Int) = (((rotK N n + rotK N m) % N : Nat) : Int) := by
    rw [e3, Int.natCast_emod, Int.natCast_add, e1, e2, Int.emod_add_emod, Int.add_emod_emod]
  omega
theorem rot_list (t : ByteArray) (n : Int) (h : 0 < t.size) : (rot t n).data.toList = t.data.toList.drop (rotK t.size n) ++ t.data.toList.take (rotK t.size n) := by
  have hk := rotK_lt t.size n h
  unfold rot
  rw [ByteArray.data_append, ByteArray.data_extract, ByteArray.data_extract]
  have hd : t.data.size = t.size := rfl
  rw [Array.toList_append, Array.toList_extract, Array.toList_extract, List.extract_eq_take_drop, List.extract_eq_take_drop]
  simp
  apply List.take_of_length_le
  simp
theorem rot_size (t : ByteArray) (n : Int) : (rot t n).size = t.size := by
  unfold rot
  rw [ByteArray.size_append, ByteArray.size_extract, ByteArray.size_extract]
  rcases rotK_le t.size n with h | h <;> omega
theorem rot_at (t : ByteArray) (n : Int) (i : Nat) (hi : i < t.size) : (rot t n).data.toList[i]? = t.data.toList[(i + rotK t.size n) % t.size]? := by
  have h : 0 < t.size := by omega
  have hk := rotK_lt t.size n h
  have hl : t.data.toList.length = t.size := by simp
  rw [rot_list t n h]
  by_cases hc : i < t.size - rotK t.size n
  · rw [List.getElem?_append_left (by rw [List.length_drop, hl]; exact hc), List.getElem?_drop, Nat.mod_eq_of_lt (by omega), Nat.add_comm]
  · rw [List.getElem?_append_right (by rw [List.length_drop, hl]; omega), List.length_drop, hl]
    have e : (i + rotK t.size n) % t.size = i - (t.size - rotK t.size n) := by
      rw [Nat.mod_eq_sub_mod (by omega), Nat.mod_eq_of_lt (by omega)]; omega
    rw [e, List.getElem?_take, if_pos (by omega)]
theorem bytes_ext (a b : ByteArray) (h : a.size = b.size) (hg : ∀ i, i < a.size → a.data.toList[i]? = b.data.toList[i]?) : a = b := by
  apply ByteArray.ext
  apply Array.toList_inj.1
  apply List.ext_getElem?
  intro i
  by_cases hi : i < a.size
  · exact hg i hi
  · rw [List.getElem?_eq_none (by simp; omega), List.getElem?_eq_none (by simp; omega)]
theorem rot_rot (t : ByteArray) (n m : Int) : rot (rot t n) m = rot t (n + m) := by
  refine bytes_ext _ _ (by rw [rot_size, rot_size, rot_size]) fun i hi => ?_
  rw [rot_size, rot_size] at hi
  have h : 0 < t.size := by omega
  rw [rot_at _ m i (by rw [rot_size]; exact hi), rot_size, rot_at t n _ (Nat.mod_lt _ h), rot_at t (n + m) i hi, rotK_add t.size n m h]
  congr 1
  rw [Nat.mod_add_mod, Nat.add_mod_mod]
  congr 1
  omega
theorem rot_zero (t : ByteArray) : rot t 0 = t := by
  refine bytes_ext _ _ (rot_size t 0) fun i hi => ?_
  rw [rot_size] at hi
  rw [rot_at t 0 i hi]
  have e : rotK t.size 0 = 0 := by simp [rotK]
  rw [e, Nat.add_zero, Nat.mod_eq_of_lt hi]
theorem rot_whole (t : ByteArray) : rot t (t.size : Int) = t := by
  refine bytes_ext _ _ (rot_size t _) fun i hi => ?_
  rw [rot_size] at hi
  rw [rot_at t _ i hi]
  have e : rotK t.size (t.size : Int) = 0 := by simp [rotK]
  rw [e, Nat.add_zero, Nat.mod_eq_of_lt hi]
theorem rot_back (t : ByteArray) (n : Int) : rot (rot t n) (-n) = t := by
  rw [rot_rot, show n + -n = 0 from by omega, rot_zero]
theorem rot_empty (t : ByteArray) (n : Int) (h : t.size = 0) : rot t n = ⟨#[]⟩ := by
  apply bytes_ext
  · rw [rot_size, h]; rfl
  · intro i hi; rw [rot_size] at hi; omega
theorem tmod_cases (n : Int) (s : Nat) (h : 0 < s) : (0 ≤ n.tmod s → n.tmod s = n % (s : Int)) ∧ (n.tmod s < 0 → n.tmod s = n % (s : Int) - s) := by
  have e := Int.tmod_add_mul_tdiv n (s : Int)
  have h1 := Int.tmod_lt_of_pos n (show (0 : Int) < s by omega)
  have h2 := Int.lt_tmod_of_pos n (show (0 : Int) < s by omega)
  have e2 : n % (s : Int) = n.tmod s % (s : Int) := by
    conv => lhs; rw [← e]
    rw [Int.add_mul_emod_self_left]
  refine ⟨fun h0 => ?_, fun h0 => ?_⟩
  · rw [e2, Int.emod_eq_of_lt h0 h1]
  · have e3 : n.tmod s % (s : Int) = (n.tmod s + s) % (s : Int) := by rw [Int.add_emod_right]
    rw [e2, e3, Int.emod_eq_of_lt (by omega) (by omega)]
    omega
end Go.Proofs.YtcphfhkefgaalaaDoor
