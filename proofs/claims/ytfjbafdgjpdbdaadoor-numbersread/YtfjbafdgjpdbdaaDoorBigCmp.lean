/- What cmp and twin do: numbers of any size compared, and copied. -/
import Derived.Test.YtfjbafdgjpdbdaaDoorBigWords
namespace Go.Proofs.YtfjbafdgjpdbdaaDoor
open Go.RowKit

theorem wordsOf_len_lt (m n : Nat) (h : (wordsOf m).length < (wordsOf n).length) : m < n := by
  by_cases hh : m < n
  · exact hh
  · have := wordsOf_length_le n (wordsOf m).length (Nat.lt_of_le_of_lt (by omega) (lt_wordsOf m))
    omega
/-- How two numbers stand. -/
def ordOf (m n : Nat) : Int := if m < n then -1 else if m = n then 0 else 1
theorem ordOf_lt {m n : Nat} (h : m < n) : ordOf m n = -1 := by unfold ordOf; rw [if_pos h]
theorem ordOf_gt {m n : Nat} (h : n < m) : ordOf m n = 1 := by unfold ordOf; rw [if_neg (by omega), if_neg (by omega)]
theorem ordOf_eq {m n : Nat} (h : m = n) : ordOf m n = 0 := by unfold ordOf; rw [if_neg (by omega), if_pos h]
theorem div_step (m k : Nat) : m / 4294967296 ^ k = 4294967296 * (m / 4294967296 ^ (k + 1)) + m / 4294967296 ^ k % 4294967296 := by
  rw [Nat.pow_succ, ← Nat.div_div_eq_div_mul]; omega
theorem div_high (m k : Nat) (h : (wordsOf m).length ≤ k) : m / 4294967296 ^ k = 0 := by
  apply Nat.div_eq_of_lt
  exact Nat.lt_of_lt_of_le (lt_wordsOf m) (Nat.pow_le_pow_right (by omega) h)
theorem ret_int {x y : Int} (h : x = y) : Ending.returned (.int .i64 x) = .returned (.int .i64 y) := by rw [h]

set_option maxHeartbeats 400000 in
theorem cmp_any (m n : Nat) (u v : Value) (w : World) (hu : NumAt w u m) (hv : NumAt w v n) (lm : (wordsOf m).length ≤ 1000000000) (ln : (wordsOf n).length ≤ 1000000000) :
    Calls Tryd.prog 67 #[u, v] w fun e w' => e = .returned (.int .i64 (ordOf m n)) ∧ Below w.heap.size w w' := by
  obtain ⟨a, ca, rfl, hca, Ha⟩ := hu.slice
  obtain ⟨b, cb, rfl, hcb, Hb⟩ := hv.slice
  have HA := hide Ha
  have HB := hide Hb
  clear Ha Hb hu hv
  obtain ⟨p, hp⟩ : ∃ p, p = (wordsOf m).length := ⟨_, rfl⟩
  obtain ⟨q, hq⟩ : ∃ q, q = (wordsOf n).length := ⟨_, rfl⟩
  rw [← hp] at hca lm HA
  rw [← hq] at hcb ln HB
  rw [← hp, ← hq]
  have HP := hide hp
  have HQ := hide hq
  clear hp hq
  by_cases h1 : p < q
  · have H := hide (ordOf_lt (wordsOf_len_lt m n (by rw [← unhide HP, ← unhide HQ]; exact h1)))
    go_enter Tryd.func67, Tryd.ntmps67
    go_wp2
    go_ret
    exact ⟨ret_int (unhide H).symm, Below.refl _ _⟩
  · by_cases h2 : q < p
    · have H := hide (ordOf_gt (wordsOf_len_lt n m (by rw [← unhide HP, ← unhide HQ]; exact h2)))
      go_enter Tryd.func67, Tryd.ntmps67
      go_wp2
      go_ret
      exact ⟨ret_int (unhide H).symm, Below.refl _ _⟩
    · obtain rfl : q = p := by omega
      go_enter Tryd.func67, Tryd.ntmps67
      go_wp2
      go_loopw [5] (fun i wr => ∃ k : Nat, k ≤ q ∧ i = .int .i64 ((k : Int) - 1) ∧ Hid (m / 4294967296 ^ k = n / 4294967296 ^ k) ∧ Below w.heap.size w wr) (fun i _ => (intOf i + 1).toNat)
      case atStart => exact ⟨q, Nat.le_refl _, rfl, hide (by rw [div_high m q (by rw [← unhide HP]; omega), div_high n q (by rw [← unhide HQ]; omega)]), Below.refl _ _⟩
      case round =>
        obtain ⟨k, hk, hi, hz, hb⟩ := hrel
        by_cases h0 : k = 0
        · subst h0
          obtain rfl := hi
          have H := hide (ordOf_eq (show m = n by have := unhide hz; simpa using this))
          go_wp2
          go_ret
          exact ⟨ret_int (unhide H).symm, hb⟩
        · obtain ⟨l, rfl⟩ : ∃ l, k = l + 1 := ⟨k - 1, by omega⟩
          rw [show ((l + 1 : Nat) : Int) - 1 = (l : Int) by omega] at hi
          obtain rfl := hi
          obtain ⟨b1, rfl, c1⟩ := unhide HA l (by omega)
          obtain ⟨b2, rfl, c2⟩ := unhide HB l (by omega)
          rw [wordsOf_at] at c1 c2
          rw [← hb.cell (lt_of_cell c1)] at c1
          rw [← hb.cell (lt_of_cell c2)] at c2
          have d1 := div_step m l
          have d2 := div_step n l
          rw [unhide hz] at d1
          obtain ⟨x, hx⟩ : ∃ x, x = m / 4294967296 ^ l % 4294967296 := ⟨_, rfl⟩
          obtain ⟨y, hy⟩ : ∃ y, y = n / 4294967296 ^ l % 4294967296 := ⟨_, rfl⟩
          rw [← hx] at c1 d1
          rw [← hy] at c2 d2
          clear hx hy
          by_cases e1 : x < y
          · have H := hide (ordOf_lt (show m < n by
              by_cases hh : m < n
              · exact hh
              · have := Nat.div_le_div_right (c := 4294967296 ^ l) (show n ≤ m by omega)
                omega))
            clear d1 d2
            go_wp2
            go_region
            go_wp2
            go_region
            go_wp2
            go_ret
            exact ⟨ret_int (unhide H).symm, hb.drew.drew⟩
          · by_cases e2 : y < x
            · have H := hide (ordOf_gt (show n < m by
                by_cases hh : n < m
                · exact hh
                · have := Nat.div_le_div_right (c := 4294967296 ^ l) (show m ≤ n by omega)
                  omega))
              clear d1 d2
              go_wp2
              go_region
              go_wp2
              go_region
              go_wp2
              go_ret
              exact ⟨ret_int (unhide H).symm, hb.drew.drew⟩
            · obtain rfl : x = y := by omega
              have H := hide (d1.trans d2.symm)
              clear d1 d2
              go_wp2
              go_region
              go_wp2
              go_roundw
              case rel => exact ⟨l, by omega, rfl, H, hb.drew⟩
              case measure => simp [intOf]
end Go.Proofs.YtfjbafdgjpdbdaaDoor
