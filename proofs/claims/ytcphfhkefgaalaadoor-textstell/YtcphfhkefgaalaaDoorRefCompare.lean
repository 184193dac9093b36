/- What the document's own comparing of two texts answers. -/
import Derived.Test.YtcphfhkefgaalaaDoorMuch
import Derived.Test.YtcphfhkefgaalaaDoorCompare
import Derived.Deep.QuietTactic
import Derived.BigQuiet
namespace Go.Proofs.YtcphfhkefgaalaaDoor
open Go.RowKit

theorem drop_bytes (a : ByteArray) (k : Nat) (h : k < a.size) : a.data.toList.drop k = a[k] :: a.data.toList.drop (k + 1) := by
  rw [List.drop_eq_getElem_cons (by simpa using h)]; rfl
theorem cb_step (a b : ByteArray) (k : Nat) (ha : k < a.size) (hb : k < b.size) :
    Lib.compareBytes (a.data.toList.drop k) (b.data.toList.drop k) = if a[k] < b[k] then -1 else if b[k] < a[k] then 1 else Lib.compareBytes (a.data.toList.drop (k + 1)) (b.data.toList.drop (k + 1)) := by
  rw [drop_bytes a k ha, drop_bytes b k hb]
  simp only [Lib.compareBytes]
theorem cb_end (a b : ByteArray) (k : Nat) (ha : k ≤ a.size) (hb : k ≤ b.size) (h : ¬ (k < a.size ∧ k < b.size)) :
    Lib.compareBytes (a.data.toList.drop k) (b.data.toList.drop k) = if a.size < b.size then -1 else if b.size < a.size then 1 else 0 := by
  by_cases h1 : k < a.size
  · rw [drop_bytes a k h1, List.drop_of_length_le (l := b.data.toList) (by simp; omega)]
    have e1 : ¬ a.size < b.size := by omega
    have e2 : b.size < a.size := by omega
    simp [Lib.compareBytes, e1, e2]
  · rw [List.drop_of_length_le (l := a.data.toList) (by simp; omega)]
    by_cases h2 : k < b.size
    · rw [drop_bytes b k h2]
      have e1 : a.size < b.size := by omega
      simp [Lib.compareBytes, e1]
    · rw [List.drop_of_length_le (l := b.data.toList) (by simp; omega)]
      have e1 : ¬ a.size < b.size := by omega
      have e2 : ¬ b.size < a.size := by omega
      simp [Lib.compareBytes, e1, e2]

set_option maxHeartbeats 1000000 in
theorem refCompare_any (a b : ByteArray) (w : World) (ha : a.size ≤ maxLen) (hb : b.size ≤ maxLen) :
    Calls Tryd.prog 12 #[.string a, .string b] w fun e w' => e = .returned (.tuple #[.int .i64 (cmpV a b), .int .i64 (cmpE a b)]) ∧ Below w.heap.size w w' := by
  by_cases hl : anyLong [a, b] = true
  · have ev : cmpV a b = 0 := by simp [cmpV, hl]
    have ee : cmpE a b = 4 := by simp [cmpE, hl]
    rw [ev, ee]
    have HE := hide hl
    clear hl ev ee
    go_enter Tryd.func12, Tryd.ntmps12
    go_wp2_with (go_at_call 23; refine (much_two a b _ _ ha hb (by simp) (by simp)).mono ?_; rintro e w' ⟨rfl, rfl⟩; rw [unhide HE])
    go_ret2
    exact ⟨rfl, (Below.refl _ _).alloc (Nat.le_refl _) _⟩
  · have hl : anyLong [a, b] = false := Bool.eq_false_iff.2 hl
    have ev : cmpV a b = Lib.compareBytes a.data.toList b.data.toList := by simp [cmpV, hl]
    have ee : cmpE a b = 0 := by simp [cmpE, hl]
    rw [ev, ee]
    have HE := hide hl
    have hl2 := hl
    rw [anyLong_two] at hl2
    simp at hl2
    obtain ⟨la, lb⟩ := hl2
    have hstep := cb_step a b
    have hend := cb_end a b
    have HS := hide hstep
    have HN := hide hend
    obtain ⟨R, hR⟩ : ∃ R, R = Lib.compareBytes a.data.toList b.data.toList := ⟨_, rfl⟩
    rw [← hR]
    have HR := hide hR
    clear hl ev ee hstep hend hR
    go_enter Tryd.func12, Tryd.ntmps12
    go_wp2_with (go_at_call 23; refine (much_two a b _ _ ha hb (by simp) (by simp)).mono ?_; rintro e w' ⟨rfl, rfl⟩; rw [unhide HE])
    go_loopw [6] (fun i wr => ∃ k : Nat, k ≤ a.size ∧ k ≤ b.size ∧ i = .int .i64 (k : Int) ∧ Hid (Lib.compareBytes (a.data.toList.drop k) (b.data.toList.drop k) = R) ∧ Below w.heap.size w wr) (fun i _ => a.size - (intOf i).toNat)
    case atStart => exact ⟨0, Nat.zero_le _, Nat.zero_le _, rfl, by rw [List.drop_zero, List.drop_zero]; exact (unhide HR).symm, (Below.refl _ _).alloc (Nat.le_refl _) _⟩
    case round =>
      obtain ⟨k, hka, hkb, rfl, hq, hbl⟩ := hrel
      by_cases h1 : k < a.size
      · by_cases h2 : k < b.size
        · have e := unhide HS k h1 h2
          rw [hq.out] at e
          have g1 : (k : Int) < (a.size : Int) := by omega
          have g2 : (k : Int) < (b.size : Int) := by omega
          by_cases c1 : a[k] < b[k]
          · rw [if_pos c1] at e
            have HE1 := hide e
            have c1' : ((a[k].toNat : Int) < (b[k].toNat : Int)) := by have := UInt8.lt_iff_toNat_lt.1 c1; omega
            clear e c1
            go_wp2
            go_quiet (fail)
            go_wp2
            go_ret2
            exact ⟨by rw [unhide HE1]; rfl, below_drewN hbl _⟩
          · rw [if_neg c1] at e
            have c1' : ¬ ((a[k].toNat : Int) < (b[k].toNat : Int)) := by
              intro h; apply c1; apply UInt8.lt_iff_toNat_lt.2; omega
            by_cases c2 : b[k] < a[k]
            · rw [if_pos c2] at e
              have HE1 := hide e
              have c2' : ((b[k].toNat : Int) < (a[k].toNat : Int)) := by have := UInt8.lt_iff_toNat_lt.1 c2; omega
              clear e c1 c2
              go_wp2
              go_quiet (fail)
              go_wp2
              go_quiet (fail)
              go_wp2
              go_ret2
              exact ⟨by rw [unhide HE1]; rfl, below_drewN (below_drewN hbl _) _⟩
            · rw [if_neg c2] at e
              have HE1 := hide e
              have c2' : ¬ ((b[k].toNat : Int) < (a[k].toNat : Int)) := by
                intro h; apply c2; apply UInt8.lt_iff_toNat_lt.2; omega
              clear e c1 c2
              go_wp2
              go_quiet (fail)
              go_wp2
              go_quiet (fail)
              go_wp2
              go_roundw
              case rel => exact ⟨k + 1, by omega, by omega, by go_num, (unhide HE1).symm, below_drewN hbl _⟩
              case measure => simp [intOf]; omega
        · have e := unhide HN k hka hkb (by omega)
          rw [hq.out] at e
          have hgt : ¬ a.size < b.size := by omega
          have hgt2 : b.size < a.size := by omega
          rw [if_neg hgt, if_pos hgt2] at e
          have HE1 := hide e
          clear e
          go_wp2
          go_ret2
          exact ⟨by rw [unhide HE1]; rfl, hbl⟩
      · have e := unhide HN k hka hkb (by omega)
        rw [hq.out] at e
        by_cases hgt : a.size < b.size
        · rw [if_pos hgt] at e
          have HE1 := hide e
          clear e
          go_wp2
          go_ret2
          exact ⟨by rw [unhide HE1]; rfl, hbl⟩
        · have hgt2 : ¬ b.size < a.size := by omega
          rw [if_neg hgt, if_neg hgt2] at e
          have HE1 := hide e
          clear e
          go_wp2
          go_ret2
          exact ⟨by rw [unhide HE1]; rfl, hbl⟩
end Go.Proofs.YtcphfhkefgaalaaDoor
