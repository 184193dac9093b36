/- What numbers.digit and numbers.digits do, for every text of at most 65536 bytes and every base from 2 to 36. -/
import Derived.Test.YtfjbafdgjpdbdaaDoorDigPlain
import Derived.OpenShut
namespace Go.Proofs.YtfjbafdgjpdbdaaDoor
open Go.RowKit

set_option maxHeartbeats 400000 in
theorem digit_any (b : UInt8) (w : World) :
    Calls Tryd.prog 43 #[.int .u8 (b.toNat : Int)] w fun e w' => e = .returned (.int .i64 (digVal b : Int)) ∧ w' = w := by
  have hb := UInt8.toNat_lt b
  unfold digVal
  generalize b.toNat = n at *
  by_cases h1 : 48 ≤ n ∧ n ≤ 57
  · have H := hide (show ((if 48 ≤ n ∧ n ≤ 57 then n - 48 else if 97 ≤ n ∧ n ≤ 122 then n - 87 else 36 : Nat) : Int) = (n : Int) - 48 by rw [if_pos h1]; omega)
    rw [unhide H]
    have h2 := h1.1
    have h3 := h1.2
    go_enter Tryd.func43, Tryd.ntmps43
    go_wp2
    go_ret
    exact ⟨rfl, rfl⟩
  · by_cases h4 : 97 ≤ n ∧ n ≤ 122
    · have H := hide (show ((if 48 ≤ n ∧ n ≤ 57 then n - 48 else if 97 ≤ n ∧ n ≤ 122 then n - 87 else 36 : Nat) : Int) = (n : Int) - 97 + 10 by rw [if_neg h1, if_pos h4]; omega)
      rw [unhide H]
      have h2 := h4.1
      have h3 := h4.2
      have h5 : ¬ n ≤ 57 := by omega
      clear h1
      go_enter Tryd.func43, Tryd.ntmps43
      go_wp2
      go_ret
      exact ⟨rfl, rfl⟩
    · have H := hide (show ((if 48 ≤ n ∧ n ≤ 57 then n - 48 else if 97 ≤ n ∧ n ≤ 122 then n - 87 else 36 : Nat) : Int) = 36 by rw [if_neg h1, if_neg h4]; rfl)
      rw [unhide H]
      have hc : n < 48 ∨ (57 < n ∧ n < 97) ∨ 122 < n := by omega
      clear h1 h4
      rcases hc with h | ⟨h, h'⟩ | h
      · go_enter Tryd.func43, Tryd.ntmps43
        go_wp2
        go_ret
        exact ⟨rfl, rfl⟩
      · have h2 : 48 ≤ n := by omega
        go_enter Tryd.func43, Tryd.ntmps43
        go_wp2
        go_ret
        exact ⟨rfl, rfl⟩
      · have h2 : 48 ≤ n := by omega
        have h3 : 57 < n := by omega
        have h5 : 97 ≤ n := by omega
        go_enter Tryd.func43, Tryd.ntmps43
        go_wp2
        go_ret
        exact ⟨rfl, rfl⟩

theorem isEmpty_true (t : ByteArray) (h : t.size = 0) : t.toList.isEmpty = true := by
  rw [ByteArray.toList_eq, List.isEmpty_iff]; apply List.eq_nil_of_length_eq_zero; simpa using h
theorem isEmpty_false (t : ByteArray) (h : t.size ≠ 0) : t.toList.isEmpty = false := by
  rw [ByteArray.toList_eq]
  apply Bool.eq_false_iff.2
  intro e
  rw [List.isEmpty_iff] at e
  apply h
  have := congrArg List.length e
  simpa using this
theorem take_snoc (s : ByteArray) (k : Nat) (h : k < s.size) : s.data.toList.take (k + 1) = s.data.toList.take k ++ [s[k]] := by
  rw [List.take_succ_eq_append_getElem (by simpa using h)]; rfl

theorem wrap_madd (sum base d : Nat) : IntKind.u64.wrap (IntKind.u64.wrap ((sum : Int) * (base : Int)) + (d : Int)) = (((sum * base + d) % 18446744073709551616 : Nat) : Int) := by
  rw [IntKind.wrap_u64, IntKind.wrap_u64, ← Int.natCast_mul]
  omega

set_option maxHeartbeats 1000000 in
theorem digits_any (t : ByteArray) (base : Nat) (s : Bool) (w : World) (ht : t.size ≤ 65536) (h1 : 2 ≤ base) (h2 : base ≤ 36) :
    Calls Tryd.prog 21 #[.string t, .int .i64 base, .bool s] w fun e w' => e = .returned (pairOf (digitsSaid base t.data.toList s)) ∧ w' = w := by
  obtain ⟨p, hp⟩ : ∃ p, p = digitsSaid base t.data.toList s := ⟨_, rfl⟩
  rw [← hp]
  have HP := hide hp
  clear hp
  by_cases h0 : t.size = 0
  · have he := isEmpty_true t h0
    have H := hide (show p = (0, 2) by
      rw [unhide HP]
      have : t.data.toList = [] := List.eq_nil_of_length_eq_zero (by simpa using h0)
      simp [digitsSaid, this])
    go_enter Tryd.func21, Tryd.ntmps21
    go_wp2
    go_ret2
    exact ⟨ret_pair (unhide H), rfl⟩
  · have he := isEmpty_false t h0
    have hne : t.data.toList ≠ [] := by
      intro e
      apply h0
      have := congrArg List.length e
      simpa using this
    have HNE := hide hne
    clear hne
    go_enter Tryd.func21, Tryd.ntmps21
    go_wp2
    go_loop [8, 9, 16] (fun vs vg vi => ∃ (k sum : Nat) (g : Bool), k ≤ t.size ∧ vi = .int .i64 k ∧ vs = .int .u64 sum ∧ vg = .bool g ∧ sum < 18446744073709551616 ∧ Hid (allIn base (t.data.toList.take k) = true) ∧ Hid (g = false → sum = worthIn base (t.data.toList.take k)) ∧ Hid (g = true → 18446744073709551616 ≤ worthIn base (t.data.toList.take k))) (fun vs vg vi => t.size - (intOf vi).toNat)
    case atStart => exact ⟨0, 0, false, Nat.zero_le _, rfl, rfl, rfl, by omega, hide rfl, hide (fun _ => rfl), hide (fun h => by cases h)⟩
    case round =>
      obtain ⟨k, sum, g, hk, rfl, rfl, rfl, hsum, G1, G2, G3⟩ := hrel
      by_cases hlt : k < t.size
      · have C := hide (digit_any t[k] w)
        have hdl := digVal_le t[k]
        have hsn := take_snoc t k hlt
        have htk := List.take_append_drop (k + 1) t.data.toList
        obtain ⟨d, hd⟩ : ∃ d, d = digVal t[k] := ⟨_, rfl⟩
        have HA := allIn_snoc base (t.data.toList.take k) t[k]
        have HW := worthIn_snoc base (t.data.toList.take k) t[k]
        rw [← hsn, ← hd] at HA HW
        rw [← hd] at C hdl
        by_cases hdb : d < base
        · have HA2 := hide (show allIn base (t.data.toList.take (k + 1)) = true by rw [HA, unhide G1, decide_eq_true hdb]; rfl)
          have hov := over_test sum d base (by omega) (by omega)
          have hdv : ((18446744073709551615 : Int) - d) / base = (((18446744073709551615 - d) / base : Nat) : Int) := by
            rw [Int.natCast_ediv]; congr 1; omega
          have hq : (18446744073709551615 - d) / base ≤ 18446744073709551615 := Nat.le_trans (Nat.div_le_self _ _) (by omega)
          obtain ⟨q, hqq⟩ : ∃ q, q = (18446744073709551615 - d) / base := ⟨_, rfl⟩
          rw [← hqq] at hov hdv hq
          have HWH := hide HW
          clear HA HW hd hsn htk hqq
          by_cases hg : q < sum
          · have hgr := hov.1 hg
            have HG := hide (show 18446744073709551616 ≤ worthIn base (t.data.toList.take (k + 1)) by
              rw [unhide HWH]
              cases g with
              | false => rw [← unhide G2 rfl]; exact hgr
              | true =>
                have h5 := unhide G3 rfl
                have := Nat.mul_le_mul h5 (show 1 ≤ base by omega)
                omega)
            clear hov hgr
            go_wp2_with fail
            refine (unhide C).mono ?_
            rintro e w ⟨rfl, rfl⟩
            go_wp2
            go_round
            case rel => exact ⟨k + 1, (sum * base + d) % 18446744073709551616, true, by omega, by go_num, by rw [wrap_madd], rfl, by omega, HA2, hide (fun h => by cases h), hide (fun _ => unhide HG)⟩
            case measure => simp [intOf]; omega
          · have hsm : sum * base + d < 18446744073709551616 := by
              by_cases hh : sum * base + d < 18446744073709551616
              · exact hh
              · exact absurd (hov.2 (by omega)) hg
            have HS := hide hsm
            clear hov hsm
            go_wp2_with fail
            refine (unhide C).mono ?_
            rintro e w ⟨rfl, rfl⟩
            go_wp2
            go_round
            case rel =>
              refine ⟨k + 1, (sum * base + d) % 18446744073709551616, g, by omega, by go_num, by rw [wrap_madd], rfl, by omega, HA2, hide (fun h => ?_), hide (fun h => ?_)⟩
              · rw [unhide HWH, ← unhide G2 h, Nat.mod_eq_of_lt (unhide HS)]
              · rw [unhide HWH]
                have h5 := unhide G3 h
                have := Nat.mul_le_mul h5 (show 1 ≤ base by omega)
                omega
            case measure => simp [intOf]; omega
        · have H := hide (show p = (0, 2) by
            rw [unhide HP]
            apply digitsSaid_bad
            rw [Bool.eq_false_iff]
            intro hall
            rw [← htk] at hall
            have := allIn_head base _ _ hall
            rw [HA, decide_eq_false hdb, Bool.and_false] at this
            cases this)
          clear HA HW hd hsn htk
          go_wp2_with fail
          refine (unhide C).mono ?_
          rintro e w ⟨rfl, rfl⟩
          go_wp2
          go_ret2
          exact ⟨ret_pair (unhide H), rfl⟩
      · obtain rfl : k = t.size := by omega
        have htk : t.data.toList.take t.size = t.data.toList := List.take_of_length_le (by simp)
        rw [htk] at G1 G2 G3
        cases g with
        | true =>
          have H := hide (show p = (0, 3) by rw [unhide HP]; exact digitsSaid_great base _ s (unhide HNE) (unhide G1) (unhide G3 rfl))
          clear htk
          go_wp2
          go_ret2
          exact ⟨ret_pair (unhide H), rfl⟩
        | false =>
          have H := hide (show within (if s then -(sum : Int) else (sum : Int)) = p by rw [unhide HP, digitsSaid_ok base _ s (unhide HNE) (unhide G1), unhide G2 rfl])
          have C := hide (signed_any sum s w hsum)
          rw [unhide H] at C
          clear htk
          go_wp2_with fail
          refine (unhide C).mono ?_
          rintro e w ⟨rfl, rfl⟩
          go_wp2
          go_ret2
          exact ⟨rfl, rfl⟩
end Go.Proofs.YtfjbafdgjpdbdaaDoor
