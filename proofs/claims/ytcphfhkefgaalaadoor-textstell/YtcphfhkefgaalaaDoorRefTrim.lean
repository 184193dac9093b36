/- What texts.Trim and the document's own trimming answer. -/
import Derived.Test.YtcphfhkefgaalaaDoorMuch
import Derived.Test.YtcphfhkefgaalaaDoorClone
import Derived.Test.YtcphfhkefgaalaaDoorTrimLib
import Derived.Shelf.Strings.SlTrimAscii
namespace Go.Proofs.YtcphfhkefgaalaaDoor
open Go.RowKit

/-- A text without the blanks and tabs at its end. -/
def trimT (t : ByteArray) : ByteArray := ⟨(Lib.trimRightS t.data.toList [32, 9]).toArray⟩
theorem trimT_le (t : ByteArray) : (trimT t).size ≤ t.size := by
  show (Lib.trimRightS t.data.toList [32, 9]).toArray.size ≤ t.data.size
  rw [List.size_toArray]
  unfold Lib.trimRightS
  rw [List.length_reverse]
  refine Nat.le_trans (List.dropWhile_sublist _).length_le ?_
  simp
theorem init_data (t : ByteArray) (h : 0 < t.size) : t.data.toList = (t.extract 0 (t.size - 1)).data.toList ++ [t[t.size - 1]] := by
  rw [ByteArray.data_extract, Array.toList_extract, List.extract_eq_take_drop, List.drop_zero, Nat.sub_zero]
  have := take_snoc t (t.size - 1) (by omega)
  rw [show t.size - 1 + 1 = t.size from by omega, List.take_of_length_le (by simp)] at this
  exact this
theorem trimT_cut (t : ByteArray) (h : 0 < t.size) (hb : t[t.size - 1] = 32 ∨ t[t.size - 1] = 9) : trimT (t.extract 0 (t.size - 1)) = trimT t := by
  unfold trimT
  rw [init_data t h]
  unfold Lib.trimRightS
  rw [List.reverse_append]
  rcases hb with e | e <;> simp [e]
theorem trimT_stop (t : ByteArray) (h : 0 < t.size) (hb : ¬ t[t.size - 1] = 32) (hc : ¬ t[t.size - 1] = 9) : trimT t = t := by
  apply ByteArray.ext
  unfold trimT
  apply Array.toList_inj.1
  have e := init_data t h
  rw [List.toList_toArray]
  conv => lhs; rw [e]
  conv => rhs; rw [e]
  unfold Lib.trimRightS
  rw [List.reverse_append]
  simp [hb, hc]
theorem trimT_empty (t : ByteArray) (h : t.size = 0) : trimT t = t := by
  have e : t.data.toList = [] := List.eq_nil_of_length_eq_zero (by simpa using h)
  apply ByteArray.ext
  unfold trimT
  apply Array.toList_inj.1
  rw [List.toList_toArray, e]
  rfl

set_option maxHeartbeats 400000 in
theorem trim_much (t : ByteArray) (w : World) (hs : t.size ≤ maxLen) (hl : 65536 < t.size) :
    Calls Tryd.prog 5 #[.string t] w fun e w' => e = .returned (.tuple #[.string ⟨#[]⟩, .int .i64 4]) ∧ Below w.heap.size w w' := by
  have HE := hide (show anyLong [t] = true by rw [anyLong_one]; simpa using hl)
  go_enter Tryd.func5, Tryd.ntmps5
  go_wp2_with (go_at_call 20; refine (tooLong_one t _ _ hs (by simp)).mono ?_; rintro e w' ⟨rfl, rfl⟩; rw [unhide HE])
  go_ret2
  exact ⟨rfl, (Below.refl _ _).alloc (Nat.le_refl _) _⟩

theorem info_set : (Tryd.prog.info? (Tryd.lays162_ren.t 116)).map (fun i => (i.zero, i.size)) = some (some (.agg (Array.replicate 256 (.bool false))), 256) := by kernel_rfl
theorem trimRight_any (t : ByteArray) (w : World) (hl : t.size ≤ 65536) :
    Calls Tryd.prog 22 #[.string t, .string ⟨#[32, 9]⟩] w fun e w' => e = .returned (.string (trimT t)) ∧ Below w.heap.size w w' :=
  Any.strings_TrimRight_laid Tryd.lays162 info_set t ⟨#[32, 9]⟩ w (by omega) (by decide) (ascii_of_all (by decide))

set_option maxHeartbeats 400000 in
theorem trim_ok (t : ByteArray) (w : World) (hl : t.size ≤ 65536) :
    Calls Tryd.prog 5 #[.string t] w fun e w' => e = .returned (.tuple #[.string (trimT t), .int .i64 0]) ∧ Below w.heap.size w w' := by
  have HE := hide (show anyLong [t] = false by rw [anyLong_one]; simpa using hl)
  have hle := trimT_le t
  go_enter Tryd.func5, Tryd.ntmps5
  go_wp2_with (first | (go_at_call 20; refine (tooLong_one t _ _ (by unfold maxLen; omega) (by simp)).mono ?_; rintro e w' ⟨rfl, rfl⟩; rw [unhide HE]) | (go_at_call 22; refine (trimRight_any t _ hl).mono ?_; rintro e w1 ⟨rfl, hb1⟩) | (go_at_call 21; refine (clone_any (trimT t) _ (by omega)).mono ?_; rintro e w2 ⟨rfl, hb2⟩))
  go_ret2
  exact ⟨rfl, bnext (bnext ((Below.refl _ _).alloc (Nat.le_refl _) _) hb1) hb2⟩

set_option maxHeartbeats 400000 in
theorem refTrim_much (t : ByteArray) (w : World) (hs : t.size ≤ maxLen) (hl : 65536 < t.size) :
    Calls Tryd.prog 6 #[.string t] w fun e w' => e = .returned (.tuple #[.string ⟨#[]⟩, .int .i64 4]) ∧ Below w.heap.size w w' := by
  have HE := hide (show anyLong [t] = true by rw [anyLong_one]; simpa using hl)
  go_enter Tryd.func6, Tryd.ntmps6
  go_wp2_with (go_at_call 23; refine (much_one t _ _ hs (by simp)).mono ?_; rintro e w' ⟨rfl, rfl⟩; rw [unhide HE])
  go_ret2
  exact ⟨rfl, (Below.refl _ _).alloc (Nat.le_refl _) _⟩

set_option maxHeartbeats 400000 in
theorem refTrim_ok (t : ByteArray) (w : World) (hl : t.size ≤ 65536) :
    Calls Tryd.prog 6 #[.string t] w fun e w' => e = .returned (.tuple #[.string (trimT t), .int .i64 0]) ∧ Below w.heap.size w w' := by
  have HE := hide (show anyLong [t] = false by rw [anyLong_one]; simpa using hl)
  go_enter Tryd.func6, Tryd.ntmps6
  go_wp2_with (go_at_call 23; refine (much_one t _ _ (by unfold maxLen; omega) (by simp)).mono ?_; rintro e w' ⟨rfl, rfl⟩; rw [unhide HE])
  go_loop [0] (fun v => ∃ s : ByteArray, s.size ≤ 65536 ∧ v = .string s ∧ Hid (trimT s = trimT t)) (fun v => match v with | .string s => s.size | _ => 0)
  case atStart => exact ⟨t, hl, rfl, rfl⟩
  case round =>
    obtain ⟨s, hs, rfl, ht⟩ := hrel
    by_cases h0 : 0 < s.size
    · by_cases h32 : s[s.size - 1] = 32
      · have e1 := trimT_cut s h0 (.inl h32)
        have HQ := hide (e1.trans ht.out)
        have b1 : (((s[s.size - 1]).toNat : Int) == 32) = true := by rw [h32]; rfl
        clear e1 h32
        go_wp2
        exact ⟨⟨s.extract 0 (s.size - 1), by rw [ByteArray.size_extract]; omega, rfl, HQ⟩, by simp only [ByteArray.size_extract]; omega⟩
      · have b1 : (((s[s.size - 1]).toNat : Int) == 32) = false := by
          rw [beq_eq_false_iff_ne]
          intro e
          apply h32
          apply UInt8.toNat_inj.1
          exact Int.ofNat.inj e
        by_cases h9 : s[s.size - 1] = 9
        · have e1 := trimT_cut s h0 (.inr h9)
          have HQ := hide (e1.trans ht.out)
          have b2 : (((s[s.size - 1]).toNat : Int) == 9) = true := by rw [h9]; rfl
          clear e1 h32 h9
          go_wp2
          exact ⟨⟨s.extract 0 (s.size - 1), by rw [ByteArray.size_extract]; omega, rfl, HQ⟩, by simp only [ByteArray.size_extract]; omega⟩
        · have b2 : (((s[s.size - 1]).toNat : Int) == 9) = false := by
            rw [beq_eq_false_iff_ne]
            intro e
            apply h9
            apply UInt8.toNat_inj.1
            exact Int.ofNat.inj e
          have e1 := trimT_stop s h0 h32 h9
          have HQ := hide (e1.symm.trans ht.out)
          clear e1 h32 h9
          go_wp2
          go_ret2
          exact ⟨by rw [← unhide HQ]; rfl, (Below.refl _ _).alloc (Nat.le_refl _) _⟩
    · have e1 := trimT_empty s (by omega)
      have HQ := hide (e1.symm.trans ht.out)
      clear e1
      go_wp2
      go_ret2
      exact ⟨by rw [← unhide HQ]; rfl, (Below.refl _ _).alloc (Nat.le_refl _) _⟩
end Go.Proofs.YtcphfhkefgaalaaDoor
