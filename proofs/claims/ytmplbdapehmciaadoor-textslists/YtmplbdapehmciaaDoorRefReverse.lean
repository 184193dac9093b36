/- What the document's own turning of a text answers. -/
import Derived.Test.YtmplbdapehmciaaDoorMuch
import Derived.Test.YtmplbdapehmciaaDoorPlain
namespace Go.Proofs.YtmplbdapehmciaaDoor
open Go.RowKit

theorem info_byte : (Tryd.prog.info? 5).map (fun i => (i.zero, i.size, i.bytes)) = some (some (.int .u8 0), 1, 1) := by kernel_rfl
theorem take_bytes (l : List UInt8) (k : Nat) (h : k < l.length) : (l.take (k + 1)).map bc = (l.take k).map bc ++ [.int .u8 (l[k].toNat : Int)] := by
  rw [List.take_succ_eq_append_getElem h, List.map_append]; rfl
theorem rev_get (t : ByteArray) (k : Nat) (h : k < t.size) : (rev t).data.toList[k]'(by rw [Array.length_toList]; exact (show k < (rev t).size by rw [rev_size]; exact h)) = t[t.size - 1 - k] := by
  simp [rev]
  rfl

theorem out_string (v : Value) (l : List UInt8) (B : Nat) (wr : World) (ho : wr.ownsRow B 5 1 v l.length (l.map bc)) :
    (convert 35 9 v).run Tryd.prog wr = .ok (.string ⟨l.toArray⟩) wr := by
  rcases ho.2 with ⟨rfl, h0⟩ | ⟨g, cap, cur, rfl, _, _, _, _, _, _⟩
  · have : l = [] := List.eq_nil_of_length_eq_zero h0
    subst this
    exact run_convert_bytes_nil (P := Tryd.prog) wr 35 5 Tryd.underlying35 Tryd.underlying5 0 0 9 Tryd.underlying9
  · exact run_convert_bytes_back (P := Tryd.prog) wr 35 9 5 ⟨g, 0, none⟩ cap l Tryd.underlying35 Tryd.underlying5 Tryd.underlying9 (fun j hj => ho.cells rfl j _ (by simp only [List.getElem?_map, List.getElem?_eq_getElem hj, Option.map_some, bc]))

end Go.Proofs.YtmplbdapehmciaaDoor
