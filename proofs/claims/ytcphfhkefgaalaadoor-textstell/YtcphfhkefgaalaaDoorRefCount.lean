/- What the document's own counting of a text in another one answers. -/
import Derived.Test.YtcphfhkefgaalaaDoorMuch
import Derived.Test.YtcphfhkefgaalaaDoorCount
namespace Go.Proofs.YtcphfhkefgaalaaDoor
open Go.RowKit

theorem ext_prefix (t p : ByteArray) (j : Nat) : ((t.extract j (j + p.size)).toList == p.toList) = p.data.toList.isPrefixOf (t.data.toList.drop j) := by
  rw [ByteArray.toList_eq, ByteArray.toList_eq, ByteArray.data_extract, Array.toList_extract, List.extract_eq_take_drop]
  rw [show j + p.size - j = p.data.toList.length from by simp]
  rw [Bool.eq_iff_iff, beq_iff_eq, List.isPrefixOf_iff_prefix, List.prefix_iff_eq_take]
  exact eq_comm
theorem drop_cons (t : ByteArray) (j : Nat) (h : j < t.size) : t.data.toList.drop j = t[j] :: t.data.toList.drop (j + 1) := by
  rw [List.drop_eq_getElem_cons (by simpa using h)]; rfl

set_option maxHeartbeats 1000000 in
theorem refCount_any (t p : ByteArray) (w : World) (ht : t.size ≤ maxLen) (hp : p.size ≤ maxLen) :
    Calls Tryd.prog 14 #[.string t, .string p] w fun e w' => e = .returned (.tuple #[.int .i64 (countV t p), .int .i64 (countE t p)]) ∧ Below w.heap.size w w' := by
  by_cases hl : anyLong [t, p] = true
  · have e : countE t p = 4 := by simp [countE, hl]
    have v : countV t p = 0 := by simp [countV, e]
    rw [v, e]
    have HE := hide hl
    clear hl e v
    go_enter Tryd.func14, Tryd.ntmps14
    go_wp2_with (go_at_call 23; refine (much_two t p _ _ ht hp (by simp) (by simp)).mono ?_; rintro e w' ⟨rfl, rfl⟩; rw [unhide HE])
    go_ret2
    exact ⟨rfl, (Below.refl _ _).alloc (Nat.le_refl _) _⟩
  · have hl : anyLong [t, p] = false := Bool.eq_false_iff.2 hl
    by_cases h0 : p.size = 0
    · have e : countE t p = 8 := by simp [countE, hl, h0]
      have v : countV t p = 0 := by simp [countV, e]
      rw [v, e]
      have HE := hide hl
      have hemp : ((p.size : Int) == 0) = true := by rw [beq_iff_eq]; omega
      clear hl e v h0
      go_enter Tryd.func14, Tryd.ntmps14
      go_wp2_with (go_at_call 23; refine (much_two t p _ _ ht hp (by simp) (by simp)).mono ?_; rintro e w' ⟨rfl, rfl⟩; rw [unhide HE])
      go_ret2
      exact ⟨rfl, (Below.refl _ _).alloc (Nat.le_refl _) _⟩
    · have e : countE t p = 0 := by simp [countE, hl, h0]
      have v : countV t p = ((Lib.count t.data.toList p.data.toList : Nat) : Int) := by simp [countV, e]
      have hz := countE_zero t p e
      have hpl : p.data.toList.length = p.size := by simp
      have hne : p.data.toList ≠ [] := by
        intro e2
        rw [e2, List.length_nil] at hpl
        omega
      rw [v, e]
      have HE := hide hl
      have hemp : ((p.size : Int) == 0) = false := by rw [beq_eq_false_iff_ne]; omega
      obtain ⟨R, hR⟩ : ∃ R, R = Lib.count t.data.toList p.data.toList := ⟨_, rfl⟩
      rw [← hR]
      have HR := hide hR
      have hRb : R ≤ 65536 + 1 := by
        have := Lib.count_le t.data.toList p.data.toList
        rw [hR]
        have h2 : t.data.toList.length = t.size := by simp
        omega
      have h1 := hz.1
      have h2 := hz.2.1
      have h3 := hz.2.2
      clear hl e v hz hR
      go_enter Tryd.func14, Tryd.ntmps14
      go_wp2_with (go_at_call 23; refine (much_two t p _ _ ht hp (by simp) (by simp)).mono ?_; rintro e w' ⟨rfl, rfl⟩; rw [unhide HE])
      go_loop [6, 7] (fun c i => ∃ k j : Nat, j ≤ t.size ∧ k ≤ R ∧ c = .int .i64 (k : Int) ∧ i = .int .i64 (j : Int) ∧ Hid (k + Lib.count (t.data.toList.drop j) p.data.toList = R)) (fun _ i => t.size - (intOf i).toNat)
      case atStart => exact ⟨0, 0, Nat.zero_le _, Nat.zero_le _, rfl, rfl, by rw [List.drop_zero, Nat.zero_add]; exact (unhide HR).symm⟩
      case round =>
        obtain ⟨k, j, hj, hk, rfl, rfl, hq⟩ := hrel
        by_cases hfit : j + p.size ≤ t.size
        · have hpre := ext_prefix t p j
          cases hb : p.data.toList.isPrefixOf (t.data.toList.drop j) with
          | true =>
            have hc := cnt_hit _ _ hne hb
            rw [List.drop_drop, hpl] at hc
            have hq2 := hq.out
            rw [hc] at hq2
            have HQ := hide (show k + 1 + Lib.count (t.data.toList.drop (j + p.size)) p.data.toList = R by omega)
            have hk2 : k + 1 ≤ R := by omega
            rw [hb] at hpre
            clear hc hq2 hb hq
            go_wp2
            go_round
            case rel => exact ⟨k + 1, j + p.size, hfit, hk2, by go_num, by go_num, HQ⟩
            case measure => simp [intOf]; omega
          | false =>
            have hjt : j < t.size := by omega
            have hc := hb
            rw [drop_cons t j hjt] at hc
            have hc2 := cnt_miss _ _ _ hne hc
            rw [← drop_cons t j hjt] at hc2
            have HQ := hide (show k + Lib.count (t.data.toList.drop (j + 1)) p.data.toList = R by rw [← hc2]; exact hq.out)
            rw [hb] at hpre
            clear hc hc2 hb hq
            go_wp2
            go_round
            case rel => exact ⟨k, j + 1, hjt, hk, rfl, by go_num, HQ⟩
            case measure => simp [intOf]; omega
        · have hc := cnt_short p.data.toList (t.data.toList.drop j) hne (by rw [List.length_drop, hpl]; simp; omega)
          have hq2 := hq.out
          rw [hc, Nat.add_zero] at hq2
          have HQ := hide hq2
          clear hc hq2
          go_wp2
          go_ret2
          exact ⟨by rw [← unhide HQ]; rfl, (Below.refl _ _).alloc (Nat.le_refl _) _⟩
end Go.Proofs.YtcphfhkefgaalaaDoor
