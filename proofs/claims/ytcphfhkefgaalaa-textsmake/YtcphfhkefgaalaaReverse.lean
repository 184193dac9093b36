/- What texts.Reverse does, for every text. -/
import Derived.Test.YtcphfhkefgaalaaLong
import Derived.Test.YtcphfhkefgaalaaPlain
namespace Go.Proofs.Ytcphfhkefgaalaa
open Go.RowKit

theorem info5 : (Try.prog.info? 5).map (fun i => (i.zero, i.size, i.bytes)) = some (some (.int .u8 0), 1, 1) := by kernel_rfl

set_option maxHeartbeats 400000 in
theorem reverse_much (t : ByteArray) (w : World) (hs : t.size ≤ maxLen) (hl : 65536 < t.size) :
    Calls Try.prog 17 #[.string t] w fun e w' => e = .returned (.tuple #[.string ⟨#[]⟩, .int .i64 4]) ∧ Below w.heap.size w w' := by
  have e1 : anyLong [t] = true := by rw [anyLong_one]; simpa using hl
  have HE : Hid (anyLong [t] = true) := e1
  clear e1
  go_enter Try.func17, Try.ntmps17
  go_wp2_with (go_at_call 18; refine (tooLong_one t _ _ hs (by simp)).mono ?_; rintro e w' ⟨rfl, rfl⟩; rw [HE.out])
  go_ret2
  exact ⟨rfl, (Below.refl _ _).alloc (Nat.le_refl _) _⟩

set_option maxHeartbeats 400000 in
theorem reverse_ok (t : ByteArray) (w : World) (hl : t.size ≤ 65536) :
    Calls Try.prog 17 #[.string t] w fun e w' => e = .returned (.tuple #[.string (rev t), .int .i64 0]) ∧ Below w.heap.size w w' := by
  have e1 : anyLong [t] = false := by rw [anyLong_one]; simpa using hl
  have HE : Hid (anyLong [t] = false) := e1
  clear e1
  obtain ⟨i0, hi, hz0, hz1, hz2⟩ := info_parts info5
  go_enter Try.func17, Try.ntmps17
  go_wp2_with (first
    | (go_at_call 18; refine (tooLong_one t _ _ (by unfold maxLen; omega) (by simp)).mono ?_; rintro e w' ⟨rfl, rfl⟩; rw [HE.out])
    | (at_make; refine wpList_make_full _ rfl _ _ 34 rfl (w.heap.size + 1) 5 i0 (.int .u8 0) 1 Try.underlying34 hi hz0 hz1 .i64 .i64 _ _ t.size rfl rfl (by omega) (by omega) (by rw [hz2]; omega) (by unfold maxLen; omega) (by simp) ?_; intro w1 hown hgrow))
  simp only [Nat.mul_one, Value.cells] at hown
  rw [toList_madeCells_one, ← revCells_zero] at hown
  have hb0 : Below w.heap.size w w1 := ((Below.refl _ _).alloc (Nat.le_refl _) _).grown hgrow (by simp) (fun k hk => by cases hk)
  simp only [World.size_alloc] at hown
  clear hgrow
  go_loopw [14] (fun i wr => ∃ k : Nat, k ≤ t.size ∧ i = .int .i64 k ∧ wr.ownsRow (w.heap.size + 1) 5 1 (.slice (some ⟨w.heap.size + 1, 0, none⟩) t.size t.size) t.size (revCells t k) ∧ Below w.heap.size w wr) (fun i _ => t.size - (intOf i).toNat)
  case atStart => exact ⟨0, Nat.zero_le _, rfl, hown, hb0⟩
  case round =>
    obtain ⟨k, hk, rfl, ho, hbl⟩ := hrel
    by_cases hlt : k < t.size
    · have hcell : wr.cell? ⟨w.heap.size + 1, t.size - 1 - k, none⟩ = some (.int .u8 0) := (ho.cellAt _ (by omega)).trans (revCells_at t k hlt)
      have hfr := ho.frozenAt (t.size - 1 - k)
      have hst := ho.stored (t.size - 1 - k) (.int .u8 (t[k].toNat : Int))
      rw [revCells_step t k hlt] at hst
      have HS := hst.1
      have HB : Below w.heap.size w (wr.setCell ⟨w.heap.size + 1, t.size - 1 - k, none⟩ (.int .u8 (t[k].toNat : Int))) := hbl.setCell (by simp) _
      clear hst ho hown hb0
      go_wp2
      go_roundw
      case rel => exact ⟨k + 1, by omega, by go_num, HS, HB⟩
      case measure => simp [intOf]; omega
    · obtain rfl : k = t.size := by omega
      rw [revCells_end] at ho
      have hcv : (convert 34 9 (.slice (some ⟨w.heap.size + 1, 0, none⟩) t.size t.size)).run Try.prog wr = .ok (.string (rev t)) wr := by
        have h := run_convert_bytes_back (P := Try.prog) wr 34 9 5 ⟨w.heap.size + 1, 0, none⟩ t.size (rev t).data.toList Try.underlying34 Try.underlying5 Try.underlying9 (fun j hj => ho.cells rfl j _ (by simp only [List.getElem?_map, List.getElem?_eq_getElem hj, Option.map_some, bc]))
        have e : (rev t).data.toList.length = t.size := by rw [← rev_size t]; simp
        rw [e] at h
        simpa using h
      clear ho hown hb0
      go_wp2
      go_ret2
      exact ⟨rfl, hbl⟩

end Go.Proofs.Ytcphfhkefgaalaa
