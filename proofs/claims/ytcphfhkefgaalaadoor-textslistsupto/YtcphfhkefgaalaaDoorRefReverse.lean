/- What the document's own turning of a text answers. -/
import Derived.Test.YtcphfhkefgaalaaDoorMuch
import Derived.Test.YtcphfhkefgaalaaDoorPlain
namespace Go.Proofs.YtcphfhkefgaalaaDoor
open Go.RowKit

theorem info_byte : (Tryd.prog.info? 5).map (fun i => (i.zero, i.size, i.bytes)) = some (some (.int .u8 0), 1, 1) := by kernel_rfl
theorem take_bytes (l : List UInt8) (k : Nat) (h : k < l.length) : (l.take (k + 1)).map bc = (l.take k).map bc ++ [.int .u8 (l[k].toNat : Int)] := by
  rw [List.take_succ_eq_append_getElem h, List.map_append]; rfl
theorem rev_get (t : ByteArray) (k : Nat) (h : k < t.size) : (rev t).data.toList[k]'(by rw [Array.length_toList]; exact (show k < (rev t).size by rw [rev_size]; exact h)) = t[t.size - 1 - k] := by
  simp [rev]
  rfl

set_option maxHeartbeats 400000 in
theorem refReverse_much (t : ByteArray) (w : World) (hs : t.size ≤ maxLen) (hl : 65536 < t.size) :
    Calls Tryd.prog 8 #[.string t] w fun e w' => e = .returned (.tuple #[.string ⟨#[]⟩, .int .i64 4]) ∧ Below w.heap.size w w' := by
  have HE := hide (show anyLong [t] = true by rw [anyLong_one]; simpa using hl)
  go_enter Tryd.func8, Tryd.ntmps8
  go_wp2_with (go_at_call 23; refine (much_one t _ _ hs (by simp)).mono ?_; rintro e w' ⟨rfl, rfl⟩; rw [unhide HE])
  go_ret2
  exact ⟨rfl, (Below.refl _ _).alloc (Nat.le_refl _) _⟩

theorem out_string (v : Value) (l : List UInt8) (B : Nat) (wr : World) (ho : wr.ownsRow B 5 1 v l.length (l.map bc)) :
    (convert 38 9 v).run Tryd.prog wr = .ok (.string ⟨l.toArray⟩) wr := by
  rcases ho.2 with ⟨rfl, h0⟩ | ⟨g, cap, cur, rfl, _, _, _, _, _, _⟩
  · have : l = [] := List.eq_nil_of_length_eq_zero h0
    subst this
    exact run_convert_bytes_nil (P := Tryd.prog) wr 38 5 Tryd.underlying38 Tryd.underlying5 0 0 9 Tryd.underlying9
  · exact run_convert_bytes_back (P := Tryd.prog) wr 38 9 5 ⟨g, 0, none⟩ cap l Tryd.underlying38 Tryd.underlying5 Tryd.underlying9 (fun j hj => ho.cells rfl j _ (by simp only [List.getElem?_map, List.getElem?_eq_getElem hj, Option.map_some, bc]))

set_option maxHeartbeats 400000 in
theorem refReverse_ok (t : ByteArray) (w : World) (hl : t.size ≤ 65536) :
    Calls Tryd.prog 8 #[.string t] w fun e w' => e = .returned (.tuple #[.string (rev t), .int .i64 0]) ∧ Below w.heap.size w w' := by
  have HE := hide (show anyLong [t] = false by rw [anyLong_one]; simpa using hl)
  obtain ⟨i0, hi, hz0, hz1, hz2⟩ := info_parts info_byte
  have hrl : (rev t).data.toList.length = t.size := by rw [Array.length_toList]; exact rev_size t
  have HR := hide hrl
  clear hrl
  go_enter Tryd.func8, Tryd.ntmps8
  go_wp2_with (go_at_call 23; refine (much_one t _ _ (by unfold maxLen; omega) (by simp)).mono ?_; rintro e w' ⟨rfl, rfl⟩; rw [unhide HE])
  go_loopw [4, 5] (fun v i wr => ∃ k : Nat, k ≤ t.size ∧ i = .int .i64 ((t.size : Int) - 1 - (k : Int)) ∧ wr.ownsRow (w.heap.size + 1) 5 1 v k (((rev t).data.toList.take k).map bc) ∧ Below w.heap.size w wr ∧ w.heap.size + 1 ≤ wr.heap.size) (fun _ i _ => (intOf i + 1).toNat)
  case atStart => exact ⟨0, Nat.zero_le _, by go_num, World.ownsRow_nil _ _ _ _, (Below.refl _ _).alloc (Nat.le_refl _) _, by simp⟩
  case round =>
    obtain ⟨k, hk, rfl, ho, hb, hsz⟩ := hrel
    by_cases hlt : k < t.size
    · have hstep := take_bytes (rev t).data.toList k (by rw [unhide HR]; exact hlt)
      rw [rev_get t k hlt] at hstep
      have HS := hide hstep
      clear hstep
      have hge : 0 ≤ (t.size : Int) - 1 - (k : Int) := by omega
      go_wp2_with (at_builtin; refine wpList_append_own _ rfl _ _ 38 rfl (w.heap.size + 1) 5 i0 (.int .u8 0) 1 1 Tryd.underlying38 hi hz0 hz1 hz2 rfl (by decide) _ _ _ rfl (ho.alloc _) ⟨wr.heap.size, 0, none⟩ 1 1 [.int .u8 (t[t.size - 1 - k].toNat : Int)] rfl rfl (cell_one_new _ _ _) (by intro u hu; simp at hu; subst hu; rfl) (by unfold maxLen; omega) (by omega) (by simp; omega) ?_; intro v' w1 hown' hgrow _)
      have hb1 := (hb.alloc (by omega) (.cells #[.int .u8 (t[t.size - 1 - k].toNat : Int)] 5)).grown hgrow (by simp; omega) (fun g hg => by have := (ho.alloc (.cells #[.int .u8 (t[t.size - 1 - k].toNat : Int)] 5)).lt g hg; omega)
      have hs1 : w.heap.size + 1 ≤ w1.heap.size := by have := hgrow.size; simp at this; omega
      clear hgrow ho hb
      go_roundw
      case rel => exact ⟨k + 1, by omega, by go_num, by rw [unhide HS]; exact hown', hb1, hs1⟩
      case measure => simp [intOf]; omega
    · obtain rfl : k = t.size := by omega
      rw [List.take_of_length_le (by rw [unhide HR]; exact Nat.le_refl _)] at ho
      have ho2 := ho
      rw [← unhide HR] at ho2
      have hcv := out_string _ _ _ _ ho2
      have hcv2 : (convert 38 9 u4).run Tryd.prog wr = .ok (.string (rev t)) wr := by simpa using hcv
      clear ho ho2 hcv
      go_wp2
      go_ret2
      exact ⟨rfl, hb⟩
end Go.Proofs.YtcphfhkefgaalaaDoor
