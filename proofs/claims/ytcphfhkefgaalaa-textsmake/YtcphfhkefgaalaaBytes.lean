/- Small facts on rows of bytes that a call makes by appending. -/
import Derived.Test.YtcphfhkefgaalaaLong
import Derived.Test.YtcphfhkefgaalaaPlain
namespace Go.Proofs.Ytcphfhkefgaalaa
open Go.RowKit

theorem info_byte : (Try.prog.info? 5).map (fun i => (i.zero, i.size, i.bytes)) = some (some (.int .u8 0), 1, 1) := by kernel_rfl
theorem take_bytes (l : List UInt8) (k : Nat) (h : k < l.length) : (l.take (k + 1)).map bc = (l.take k).map bc ++ [.int .u8 (l[k].toNat : Int)] := by
  rw [List.take_succ_eq_append_getElem h, List.map_append]; rfl
theorem out_string (v : Value) (l : List UInt8) (B : Nat) (wr : World) (ho : wr.ownsRow B 5 1 v l.length (l.map bc)) :
    (convert 34 9 v).run Try.prog wr = .ok (.string ⟨l.toArray⟩) wr := by
  rcases ho.2 with ⟨rfl, h0⟩ | ⟨g, cap, cur, rfl, _, _, _, _, _, _⟩
  · have : l = [] := List.eq_nil_of_length_eq_zero h0
    subst this
    exact run_convert_bytes_nil (P := Try.prog) wr 34 5 Try.underlying34 Try.underlying5 0 0 9 Try.underlying9
  · exact run_convert_bytes_back (P := Try.prog) wr 34 9 5 ⟨g, 0, none⟩ cap l Try.underlying34 Try.underlying5 Try.underlying9 (fun j hj => ho.cells rfl j _ (by simp only [List.getElem?_map, List.getElem?_eq_getElem hj, Option.map_some, bc]))
theorem len_own {w : World} {B : Nat} {v : Value} {n : Nat} {xs : List Value} (h : w.ownsRow B 5 1 v n xs) (W : World) : (Builtin.len_ #[34] 3 #[v]).run Try.prog W = .ok (.int .i64 (n : Int)) W := by
  rcases h.2 with ⟨rfl, h0⟩ | ⟨g, cap, cur, rfl, _, _, _, _, _, _⟩
  · subst h0
    simp [Builtin.len_, run_underlying Try.underlying34]
    rfl
  · simp [Builtin.len_, run_underlying Try.underlying34]
    rfl
end Go.Proofs.Ytcphfhkefgaalaa
