/- Plain facts on texts turned round: lists of bytes and cells, no Go text. -/
import Derived.WalkKit
namespace Go.Proofs.YtmplbdapehmciaaDoor
/-- A text, its last byte first. -/
def rev (t : ByteArray) : ByteArray := ⟨t.data.reverse⟩
theorem rev_size (t : ByteArray) : (rev t).size = t.size := by show t.data.reverse.size = t.data.size; simp
theorem rev_rev (t : ByteArray) : rev (rev t) = t := by simp [rev]
theorem rev_append (a b : ByteArray) : rev (a ++ b) = rev b ++ rev a := by
  apply ByteArray.ext
  simp [rev, ByteArray.data_append]
/-- A byte as a cell. -/
def bc (b : UInt8) : Value := .int .u8 (b.toNat : Int)
/-- The cells after i rounds of turning t. -/
def revCells (t : ByteArray) (i : Nat) : List Value := List.replicate (t.size - i) (.int .u8 0) ++ (t.data.toList.take i).reverse.map bc
theorem revCells_zero (t : ByteArray) : revCells t 0 = List.replicate t.size (.int .u8 0) := by simp [revCells]
theorem set_mid (m : Nat) (z v : Value) (ys : List Value) : (List.replicate (m + 1) z ++ ys).set m v = List.replicate m z ++ v :: ys := by
  induction m with
  | zero => simp
  | succ m ih => simp [List.replicate_succ] at ih ⊢; exact ih
theorem take_snoc (s : ByteArray) (k : Nat) (h : k < s.size) : s.data.toList.take (k + 1) = s.data.toList.take k ++ [s[k]] := by
  rw [List.take_succ_eq_append_getElem (by simpa using h)]; rfl
theorem revCells_step (t : ByteArray) (i : Nat) (h : i < t.size) : (revCells t i).set (t.size - 1 - i) (.int .u8 (t[i].toNat : Int)) = revCells t (i + 1) := by
  unfold revCells
  rw [take_snoc t i h]
  have e : t.size - i = (t.size - 1 - i) + 1 := by omega
  rw [e, set_mid]
  have e2 : t.size - (i + 1) = t.size - 1 - i := by omega
  rw [e2]
  simp [bc]
theorem revCells_at (t : ByteArray) (i : Nat) (h : i < t.size) : (revCells t i)[t.size - 1 - i]? = some (.int .u8 0) := by
  unfold revCells
  rw [List.getElem?_append_left (by simp; omega)]
  rw [List.getElem?_replicate, if_pos (by omega)]
theorem revCells_end (t : ByteArray) : revCells t t.size = (rev t).data.toList.map bc := by
  unfold revCells
  rw [List.take_of_length_le (by simp)]
  simp [rev]
end Go.Proofs.YtmplbdapehmciaaDoor
