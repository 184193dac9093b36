/- What Substr and the document's own Substr answer. -/
import Derived.Test.YtcphfhkefgaalaaSubstr
import Derived.Test.YtcphfhkefgaalaaMuch
import Derived.Test.YtcphfhkefgaalaaBytes
namespace Go.Proofs.Ytcphfhkefgaalaa
open Go.RowKit

/-- What is wrong with a piece, and what it is. -/
def subE (t : ByteArray) (a n : Int) : Int := if 65536 < t.size then 4 else if a < 1 ∨ n < 0 ∨ (t.size : Int) < a - 1 ∨ (t.size : Int) - (a - 1) < n then 6 else 0
def subV (t : ByteArray) (a n : Int) : ByteArray := if subE t a n = 0 then sub t a.toNat n.toNat else ⟨#[]⟩
theorem substr_any (t : ByteArray) (a n : Int) (w : World) (hs : t.size ≤ maxLen) (ha : -9223372036854775808 ≤ a) (ha2 : a ≤ 9223372036854775807) :
    Calls Try.prog 11 #[.string t, .int .i64 a, .int .i64 n] w fun e w' => e = .returned (.tuple #[.string (subV t a n), .int .i64 (subE t a n)]) ∧ Below w.heap.size w w' := by
  by_cases h1 : 65536 < t.size
  · have e : subE t a n = 4 := by simp [subE, h1]
    have v : subV t a n = ⟨#[]⟩ := by simp [subV, e]
    rw [v, e]; exact substr_much t a n w hs h1
  · by_cases h2 : a < 1 ∨ n < 0 ∨ (t.size : Int) < a - 1 ∨ (t.size : Int) - (a - 1) < n
    · have e : subE t a n = 6 := by unfold subE; rw [if_neg h1, if_pos h2]
      have v : subV t a n = ⟨#[]⟩ := by simp [subV, e]
      rw [v, e]; exact substr_none t a n w (by omega) h2 ha ha2
    · have e : subE t a n = 0 := by unfold subE; rw [if_neg h1, if_neg h2]
      have v : subV t a n = sub t a.toNat n.toNat := by simp [subV, e]
      rw [v, e]; exact substr_ok t a n w (by omega) (by omega) (by omega) (by omega)

set_option maxHeartbeats 400000 in
theorem refSubstr_wrong (t : ByteArray) (a n : Int) (w : World) (hs : t.size ≤ maxLen) (ha : -9223372036854775808 ≤ a) (ha2 : a ≤ 9223372036854775807) (h : 65536 < t.size ∨ a < 1 ∨ n < 0 ∨ (t.size : Int) < a - 1 ∨ (t.size : Int) - (a - 1) < n) :
    Calls Try.prog 12 #[.string t, .int .i64 a, .int .i64 n] w fun e w' => e = .returned (.tuple #[.string (subV t a n), .int .i64 (subE t a n)]) ∧ Below w.heap.size w w' := by
  by_cases h1 : 65536 < t.size
  · have e : subE t a n = 4 := by simp [subE, h1]
    have v : subV t a n = ⟨#[]⟩ := by simp [subV, e]
    rw [v, e]
    have HE := hide (show anyLong [t] = true by rw [anyLong_one]; simpa using h1)
    clear e v h
    go_enter Try.func12, Try.ntmps12
    go_wp2_with (go_at_call 21; refine (much_one t _ _ hs (by simp)).mono ?_; rintro e w' ⟨rfl, rfl⟩; rw [unhide HE])
    go_ret2
    exact ⟨rfl, (Below.refl _ _).alloc (Nat.le_refl _) _⟩
  · have h2 : a < 1 ∨ n < 0 ∨ (t.size : Int) < a - 1 ∨ (t.size : Int) - (a - 1) < n := by omega
    have e : subE t a n = 6 := by unfold subE; rw [if_neg h1, if_pos h2]
    have v : subV t a n = ⟨#[]⟩ := by simp [subV, e]
    rw [v, e]
    have HE := hide (show anyLong [t] = false by rw [anyLong_one]; simpa using h1)
    clear e v h
    have hcases : decide (a < 1) = true ∨ (decide (a < 1) = false ∧ 1 ≤ a ∧ decide ((t.size : Int) < a - 1) = true) ∨ (decide (a < 1) = false ∧ 1 ≤ a ∧ decide ((t.size : Int) < a - 1) = false ∧ decide (n < 0) = true) ∨ (decide (a < 1) = false ∧ 1 ≤ a ∧ decide ((t.size : Int) < a - 1) = false ∧ a - 1 ≤ (t.size : Int) ∧ decide (n < 0) = false ∧ decide ((t.size : Int) - (a - 1) < n) = true) := by
      simp only [decide_eq_true_eq, decide_eq_false_iff_not]
      omega
    clear h2
    rcases hcases with d1 | ⟨d1, x1, d2⟩ | ⟨d1, x1, d2, d3⟩ | ⟨d1, x1, d2, x2, d3, d4⟩
    all_goals
      go_enter Try.func12, Try.ntmps12
      go_wp2_with (go_at_call 21; refine (much_one t _ _ hs (by simp)).mono ?_; rintro e w' ⟨rfl, rfl⟩; rw [unhide HE])
      go_ret2
      exact ⟨rfl, (Below.refl _ _).alloc (Nat.le_refl _) _⟩

theorem sub_get (t : ByteArray) (a n k : Nat) (h : a - 1 + n ≤ t.size) (hk : k < n) (hb : k < (sub t a n).data.toList.length) : (sub t a n).data.toList[k] = t[a - 1 + k]'(by omega) := by
  simp [sub]
  rfl

set_option maxHeartbeats 1000000 in
theorem refSubstr_ok (t : ByteArray) (a n : Int) (w : World) (hl : t.size ≤ 65536) (h1 : 1 ≤ a) (h2 : 0 ≤ n) (h3 : a - 1 + n ≤ t.size) :
    Calls Try.prog 12 #[.string t, .int .i64 a, .int .i64 n] w fun e w' => e = .returned (.tuple #[.string (sub t a.toNat n.toNat), .int .i64 0]) ∧ Below w.heap.size w w' := by
  have HE := hide (show anyLong [t] = false by rw [anyLong_one]; simpa using hl)
  obtain ⟨i0, hi, hz0, hz1, hz2⟩ := info_parts info_byte
  obtain ⟨A, rfl⟩ : ∃ A : Nat, a = (A : Int) + 1 := ⟨(a - 1).toNat, by omega⟩
  obtain ⟨m, rfl⟩ : ∃ m : Nat, n = (m : Int) := ⟨n.toNat, by omega⟩
  have hA : ((A : Int) + 1).toNat = A + 1 := by omega
  rw [hA, Int.toNat_natCast]
  have hAm : A + m ≤ t.size := by omega
  have hidx : ∀ k, k < m → A + k < t.size := fun k hk => by omega
  have hsl : (sub t (A + 1) m).data.toList.length = m := by rw [Array.length_toList]; exact sub_size t (A + 1) m (by omega)
  have hget : ∀ k (_ : k < m), ((sub t (A + 1) m).data.toList.take (k + 1)).map bc = ((sub t (A + 1) m).data.toList.take k).map bc ++ [.int .u8 ((t[A + k]'(hidx k ‹_›)).toNat : Int)] := fun k hk => by
    rw [take_bytes _ k (by rw [hsl]; exact hk), sub_get t (A + 1) m k (by omega) hk (by rw [hsl]; exact hk)]
    rfl
  generalize sub t (A + 1) m = s at *
  have HS := hide hsl
  have HG := hide hget
  clear hA hsl hget h1 h2 h3
  have d1 : decide ((A : Int) + 1 < 1) = false := decide_eq_false (by omega)
  have d2 : decide ((t.size : Int) < (A : Int)) = false := decide_eq_false (by omega)
  have d2' : ¬ t.size < A := by omega
  have d3 : decide ((m : Int) < 0) = false := decide_eq_false (by omega)
  have d4 : decide ((t.size : Int) - (A : Int) < (m : Int)) = false := decide_eq_false (by omega)
  go_enter Try.func12, Try.ntmps12
  go_wp2_with (go_at_call 21; refine (much_one t _ _ (by unfold maxLen; omega) (by simp)).mono ?_; rintro e w' ⟨rfl, rfl⟩; rw [unhide HE])
  clear d1 d2 d3 d4
  go_loopw [8, 9] (fun v i wr => ∃ k : Nat, k ≤ m ∧ i = .int .i64 ((A : Int) + (k : Int)) ∧ wr.ownsRow (w.heap.size + 1) 5 1 v k ((s.data.toList.take k).map bc) ∧ Below w.heap.size w wr ∧ w.heap.size + 1 ≤ wr.heap.size) (fun _ i _ => (A + m) - (intOf i).toNat)
  case atStart => exact ⟨0, Nat.zero_le _, by go_num, World.ownsRow_nil _ _ _ _, (Below.refl _ _).alloc (Nat.le_refl _) _, by simp⟩
  case round =>
    obtain ⟨k, hk, rfl, ho, hb, hsz⟩ := hrel
    by_cases hlt : k < m
    · have HT := hide (unhide HG k hlt)
      have hAk : A + k < t.size := by omega
      have hAk2 : (A : Int) + (k : Int) < (t.size : Int) := by omega
      go_wp2_with (at_builtin; refine wpList_append_own _ rfl _ _ 34 rfl (w.heap.size + 1) 5 i0 (.int .u8 0) 1 1 Try.underlying34 hi hz0 hz1 hz2 rfl (by decide) _ _ _ rfl (ho.alloc _) ⟨wr.heap.size, 0, none⟩ 1 1 [.int .u8 (t[A + k].toNat : Int)] rfl rfl (cell_one_new _ _ _) (by intro u hu; simp at hu; subst hu; rfl) (by unfold maxLen; omega) (by omega) (by simp; omega) ?_; intro v' w1 hown' hgrow _)
      have hb1 := (hb.alloc (by omega) (.cells #[.int .u8 (t[A + k].toNat : Int)] 5)).grown hgrow (by simp; omega) (fun g hg => by have := (ho.alloc (.cells #[.int .u8 (t[A + k].toNat : Int)] 5)).lt g hg; omega)
      have hs1 : w.heap.size + 1 ≤ w1.heap.size := by have := hgrow.size; simp at this; omega
      clear hgrow ho hb
      go_roundw
      case rel => exact ⟨k + 1, by omega, by go_num, by rw [unhide HT]; exact hown', hb1, hs1⟩
      case measure => simp [intOf]; omega
    · obtain rfl : k = m := by omega
      rw [List.take_of_length_le (by rw [unhide HS]; exact Nat.le_refl _)] at ho
      have ho2 := ho
      rw [← unhide HS] at ho2
      have hcv := out_string _ _ _ _ ho2
      have hcv2 : (convert 34 9 u8).run Try.prog wr = .ok (.string s) wr := by simpa using hcv
      clear ho ho2 hcv
      go_wp2
      go_ret2
      exact ⟨rfl, hb⟩

theorem refSubstr_any (t : ByteArray) (a n : Int) (w : World) (hs : t.size ≤ maxLen) (ha : -9223372036854775808 ≤ a) (ha2 : a ≤ 9223372036854775807) :
    Calls Try.prog 12 #[.string t, .int .i64 a, .int .i64 n] w fun e w' => e = .returned (.tuple #[.string (subV t a n), .int .i64 (subE t a n)]) ∧ Below w.heap.size w w' := by
  by_cases h : 65536 < t.size ∨ a < 1 ∨ n < 0 ∨ (t.size : Int) < a - 1 ∨ (t.size : Int) - (a - 1) < n
  · exact refSubstr_wrong t a n w hs ha ha2 h
  · have e : subE t a n = 0 := by unfold subE; rw [if_neg (by omega), if_neg (by omega)]
    have v : subV t a n = sub t a.toNat n.toNat := by simp [subV, e]
    rw [v, e]
    exact refSubstr_ok t a n w (by omega) (by omega) (by omega) (by omega)
end Go.Proofs.Ytcphfhkefgaalaa
