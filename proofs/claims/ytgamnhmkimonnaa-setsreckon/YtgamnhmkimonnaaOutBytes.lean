/- Rows of bytes that a call makes by appending; small facts. -/
import Derived.Test.YtgamnhmkimonnaaHas
import Derived.Maps.AppendAt
namespace Go.Proofs.Ytgamnhmkimonnaa
open Go.RowKit

/-- A byte as a cell. -/
def bc (b : UInt8) : Value := .int .u8 (b.toNat : Int)
theorem info_byte : (Try.prog.info? 5).map (fun i => (i.zero, i.size, i.bytes)) = some (some (.int .u8 0), 1, 1) := by kernel_rfl
theorem out_string (v : Value) (l : List UInt8) (B : Nat) (wr : World) (ho : wr.ownsRow B 5 1 v l.length (l.map bc)) :
    (convert 45 9 v).run Try.prog wr = .ok (.string ⟨l.toArray⟩) wr := by
  rcases ho.2 with ⟨rfl, h0⟩ | ⟨g, cap, cur, rfl, _, _, _, _, _, _⟩
  · have : l = [] := List.eq_nil_of_length_eq_zero h0
    subst this
    exact run_convert_bytes_nil (P := Try.prog) wr 45 5 Try.underlying45 Try.underlying5 0 0 9 Try.underlying9
  · exact run_convert_bytes_back (P := Try.prog) wr 45 9 5 ⟨g, 0, none⟩ cap l Try.underlying45 Try.underlying5 Try.underlying9 (fun j hj => ho.cells rfl j _ (by simp only [List.getElem?_map, List.getElem?_eq_getElem hj, Option.map_some, bc]))
theorem own_below {W W' : World} {B e size n : Nat} {v : Value} {xs : List Value} (h : W.ownsRow B e size v n xs) (hb : Below W.heap.size W W') : W'.ownsRow B e size v n xs :=
  h.kept (row := none) ⟨hb.os, hb.tape, hb.output, hb.size, fun k hk _ => hb.block k hk⟩ (Classical.em _)
theorem row_below {W W' : World} {n : Nat} {x : Obj} (h : W.heap[n]? = some x) (hb : Below W.heap.size W W') : W'.heap[n]? = some x :=
  (hb.block n (Array.getElem?_eq_some_iff.1 h).1).trans h
theorem bc_nat (k : Nat) (h : k < 256) : bc (UInt8.ofNat k) = .int .u8 (k : Int) := by
  unfold bc
  rw [UInt8.toNat_ofNat', Nat.mod_eq_of_lt h]
/-- The bytes of a set that are below n, rising. -/
def tx (p : Nat → Bool) : Nat → List UInt8
  | 0 => []
  | k + 1 => tx p k ++ (if p k then [UInt8.ofNat k] else [])
theorem tx_le (p : Nat → Bool) : ∀ k, (tx p k).length ≤ k
  | 0 => Nat.le_refl _
  | k + 1 => by
    have := tx_le p k
    unfold tx
    rw [List.length_append]
    split <;> simp <;> omega
theorem tx_yes (p : Nat → Bool) (k : Nat) (h : k < 256) (hp : p k = true) : (tx p (k + 1)).map bc = (tx p k).map bc ++ [.int .u8 (k : Int)] ∧ (tx p (k + 1)).length = (tx p k).length + 1 := by
  have : tx p (k + 1) = tx p k ++ [UInt8.ofNat k] := by show tx p k ++ _ = _; rw [hp]; rfl
  rw [this, List.map_append, List.length_append]
  exact ⟨by rw [← bc_nat k h]; rfl, rfl⟩
theorem tx_no (p : Nat → Bool) (k : Nat) (hp : p k = false) : tx p (k + 1) = tx p k := by
  show tx p k ++ _ = _
  rw [hp]
  exact List.append_nil _
end Go.Proofs.Ytgamnhmkimonnaa
