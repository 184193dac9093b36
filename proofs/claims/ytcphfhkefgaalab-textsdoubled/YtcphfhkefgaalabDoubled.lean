/- What the law TextsDoubled answers, for every text and two numbers: true. -/
import Derived.Test.YtcphfhkefgaalabDupl
namespace Go.Proofs.Ytcphfhkefgaalab
open Go.RowKit

/-- What Dupl answers, and what is wrong. -/
def duplE (t : ByteArray) (n : Int) : Int := if 65536 < t.size then 4 else if n < 0 then 3 else if 65536 < n * (t.size : Int) then 4 else 0
def duplV (t : ByteArray) (n : Int) : ByteArray := if duplE t n = 0 then rep t n.toNat else ⟨#[]⟩
theorem dupl_any (t : ByteArray) (n : Int) (w : World) (hs : t.size ≤ maxLen) (hn2 : n ≤ 9223372036854775807) :
    Calls Try.prog 12 #[.string t, .int .i64 n] w fun e w' => e = .returned (.tuple #[.string (duplV t n), .int .i64 (duplE t n)]) ∧ Below w.heap.size w w' := by
  by_cases h1 : 65536 < t.size
  · have e : duplE t n = 4 := by simp [duplE, h1]
    have v : duplV t n = ⟨#[]⟩ := by simp [duplV, e]
    rw [v, e]; exact dupl_much t n w hs h1
  · by_cases h2 : n < 0
    · have e : duplE t n = 3 := by simp [duplE, h1, h2]
      have v : duplV t n = ⟨#[]⟩ := by simp [duplV, e]
      rw [v, e]; exact dupl_range t n w (by omega) h2
    · by_cases h3 : 65536 < n * (t.size : Int)
      · have e : duplE t n = 4 := by simp [duplE, h1, h2, h3]
        have v : duplV t n = ⟨#[]⟩ := by simp [duplV, e]
        rw [v, e]; exact dupl_over t n w (by omega) (by omega) h3
      · have e : duplE t n = 0 := by simp [duplE, h1, h2, h3]
        have v : duplV t n = rep t n.toNat := by simp [duplV, e]
        rw [v, e]; exact dupl_ok t n w (by omega) (by omega) hn2 (by omega)
theorem duplE_zero (t : ByteArray) (n : Int) (h : duplE t n = 0) : t.size ≤ 65536 ∧ 0 ≤ n ∧ n * (t.size : Int) ≤ 65536 := by
  unfold duplE at h
  split at h
  · simp at h
  · split at h
    · simp at h
    · split at h
      · simp at h
      · exact ⟨by omega, by omega, by omega⟩
theorem rep_piece (t : ByteArray) (n k : Nat) (h : k < n) : (rep t n).extract (k * t.size) (k * t.size + t.size) = t := by
  obtain ⟨d, rfl⟩ : ∃ d, n = k + (1 + d) := ⟨n - k - 1, by omega⟩
  apply ByteArray.ext
  rw [ByteArray.data_extract, rep_add, rep_add, ByteArray.data_append, ByteArray.data_append]
  have hs : (rep t k).data.size = k * t.size := rep_size t k
  have e1 : (rep t 1).data = t.data := by unfold rep; rw [Lib.repeatL_one]
  rw [e1]
  apply Array.toList_inj.1
  rw [Array.toList_extract, List.extract_eq_take_drop, Array.toList_append, Array.toList_append]
  rw [List.drop_append_of_le_length (by rw [Array.length_toList]; omega), List.drop_of_length_le (by rw [Array.length_toList]; omega), List.nil_append]
  rw [show k * t.size + t.size - k * t.size = t.data.toList.length from by rw [Array.length_toList]; show _ = t.size; omega, List.take_left]

set_option maxHeartbeats 1000000 in
theorem textsDoubled_walk (a0 : ByteArray) (a1 : Int) (a2 : Int) (w0 : a0.size ≤ maxLen) (w1 : (Lit.int .i64 a1).wf = true) (w2 : (Lit.int .i64 a2).wf = true) (w : World) :
    Calls Try.prog 5 #[.string a0, .int .i64 a1, .int .i64 a2] w fun e w' => e = .returned (.bool true) ∧ Below w.heap.size w w' := by
  have b1 := bounds_i64 w1
  have b2 := bounds_i64 w2
  clear w1 w2
  have c1 := fun W => dupl_any a0 a1 W w0 b1.2
  have c2 := fun W => dupl_any a0 a2 W w0 b2.2
  by_cases h1 : duplE a0 a1 = 0
  · by_cases h2 : duplE a0 a2 = 0
    · obtain ⟨hl, hn, hnm⟩ := duplE_zero a0 a1 h1
      obtain ⟨_, hm, hmm⟩ := duplE_zero a0 a2 h2
      have v1 : duplV a0 a1 = rep a0 a1.toNat := by simp [duplV, h1]
      have v2 : duplV a0 a2 = rep a0 a2.toNat := by simp [duplV, h2]
      rw [v1, h1] at c1
      rw [v2, h2] at c2
      clear v1 v2 h1 h2
      obtain ⟨c, rfl⟩ := Int.eq_ofNat_of_zero_le hn
      obtain ⟨d, rfl⟩ := Int.eq_ofNat_of_zero_le hm
      rw [Int.toNat_natCast] at c1 c2
      have s1 := rep_size a0 c
      have s2 := rep_size a0 d
      have s3 := rep_add a0 c d
      have s4 := rep_piece a0 c
      have m1 : ((c * a0.size : Nat) : Int) = (c : Int) * (a0.size : Int) := Int.natCast_mul _ _
      have m2 : ((d * a0.size : Nat) : Int) = (d : Int) * (a0.size : Int) := Int.natCast_mul _ _
      have c3 := fun W => dupl_ok a0 ((c : Int) + (d : Int)) W hl (by omega)
      rw [show ((c : Int) + (d : Int)).toNat = c + d from by omega, s3, Int.add_mul] at c3
      generalize ea : rep a0 c = a at *
      generalize eb : rep a0 d = b at *
      have C1 := hide c1
      have C2 := hide c2
      have C3 := hide c3
      have HP := hide s4
      have ha : a.size ≤ 65536 := by omega
      have hb : b.size ≤ 65536 := by omega
      have hfin : ((a.size : Int) == (c : Int) * (a0.size : Int)) = true := by rw [beq_iff_eq]; omega
      have hmb : 0 ≤ (c : Int) * (a0.size : Int) ∧ (c : Int) * (a0.size : Int) ≤ 65536 := by omega
      have HS1 := hide s1
      have HB3 := hide (show (a.size : Int) + b.size = (c : Int) * (a0.size : Int) + (d : Int) * (a0.size : Int) by omega)
      clear c1 c2 c3 s1 s2 s3 s4 m1 m2 ea eb hnm hmm
      have hcases : 65536 < (c : Int) ∨ ((c : Int) ≤ 65536 ∧ 65536 < (d : Int)) ∨ ((c : Int) ≤ 65536 ∧ (d : Int) ≤ 65536 ∧ 65536 < (a.size : Int) + (b.size : Int)) ∨ ((c : Int) ≤ 65536 ∧ (d : Int) ≤ 65536 ∧ (a.size : Int) + (b.size : Int) ≤ 65536) := by omega
      rcases hcases with h | ⟨h, h'⟩ | ⟨h, h', h''⟩ | ⟨h, h', h''⟩
      case inr.inr.inr =>
        go_enter Try.func5, Try.ntmps5
        go_wp2_with fail
        refine (alive_any _).mono ?_
        rintro e w3 ⟨rfl, hb3⟩
        go_wp2_with fail
        refine (unhide C1 _).mono ?_
        rintro e w4 ⟨rfl, hb4⟩
        go_wp2_with fail
        refine (unhide C2 _).mono ?_
        rintro e w5 ⟨rfl, hb5⟩
        go_wp2_with fail
        refine (unhide C3 _ (by omega) (by rw [← unhide HB3]; omega)).mono ?_
        rintro e w6 ⟨rfl, hb6⟩
        go_wp2
        have hend := bnext (bnext (bnext hb3 hb4) hb5) hb6
        clear hb3 hb4 hb5 hb6
        go_loop [12] (fun i => ∃ j : Nat, j ≤ a.size ∧ i = .int .i64 j ∧ Hid (∃ k, k ≤ c ∧ j = k * a0.size)) (fun i => a.size - (intOf i).toNat)
        case atStart => exact ⟨0, Nat.zero_le _, rfl, 0, Nat.zero_le _, by simp⟩
        case round =>
          obtain ⟨j, hj, rfl, hk⟩ := hrel
          by_cases hlt : j < a.size
          · obtain ⟨k, hkc, hjk⟩ := hk.out
            have hz : 0 < a0.size := by
              apply Nat.pos_of_ne_zero
              intro e
              rw [unhide HS1, e, Nat.mul_zero] at hlt
              omega
            have hkl : k < c := by
              rw [unhide HS1, hjk] at hlt
              exact Nat.lt_of_mul_lt_mul_right hlt
            have hpc := unhide HP k hkl
            rw [← hjk] at hpc
            have hroom : j + a0.size ≤ a.size := by
              rw [unhide HS1, hjk, ← Nat.succ_mul]
              exact Nat.mul_le_mul_right _ hkl
            have heq : ((a.extract j (j + a0.size)).toList == a0.toList) = true := by rw [hpc]; simp
            have HJ : Hid (j + a0.size = (k + 1) * a0.size) := by rw [hjk, Nat.succ_mul]; rfl
            clear hpc hjk
            go_wp2
            go_round
            case rel => exact ⟨j + a0.size, hroom, by go_num, k + 1, hkl, HJ.out⟩
            case measure => simp [intOf]; omega
          · go_wp2
            go_ret
            exact ⟨rfl, hend⟩
      all_goals
        go_enter Try.func5, Try.ntmps5
        go_wp2_with fail
        refine (alive_any _).mono ?_
        rintro e w3 ⟨rfl, hb3⟩
        go_wp2_with fail
        refine (unhide C1 _).mono ?_
        rintro e w4 ⟨rfl, hb4⟩
        go_wp2_with fail
        refine (unhide C2 _).mono ?_
        rintro e w5 ⟨rfl, hb5⟩
        go_wp2
        go_ret
        exact ⟨rfl, bnext (bnext hb3 hb4) hb5⟩
    · have hne : (duplE a0 a2 != 0) = true := by rw [bne_iff_ne]; exact h2
      rw [h1] at c1
      generalize duplV a0 a1 = x at *
      generalize duplV a0 a2 = y at *
      generalize duplE a0 a2 = q at *
      have C1 := hide c1
      have C2 := hide c2
      clear c1 c2 h1 h2
      go_enter Try.func5, Try.ntmps5
      go_wp2_with fail
      refine (alive_any _).mono ?_
      rintro e w3 ⟨rfl, hb3⟩
      go_wp2_with fail
      refine (unhide C1 _).mono ?_
      rintro e w4 ⟨rfl, hb4⟩
      go_wp2_with fail
      refine (unhide C2 _).mono ?_
      rintro e w5 ⟨rfl, hb5⟩
      go_wp2
      go_ret
      exact ⟨rfl, bnext (bnext hb3 hb4) hb5⟩
  · have hne : (duplE a0 a1 != 0) = true := by rw [bne_iff_ne]; exact h1
    generalize duplV a0 a1 = x at *
    generalize duplE a0 a1 = p at *
    generalize duplV a0 a2 = y at *
    generalize duplE a0 a2 = q at *
    have C1 := hide c1
    have C2 := hide c2
    clear c1 c2 h1
    go_enter Try.func5, Try.ntmps5
    go_wp2_with fail
    refine (alive_any _).mono ?_
    rintro e w3 ⟨rfl, hb3⟩
    go_wp2_with fail
    refine (unhide C1 _).mono ?_
    rintro e w4 ⟨rfl, hb4⟩
    go_wp2_with fail
    refine (unhide C2 _).mono ?_
    rintro e w5 ⟨rfl, hb5⟩
    go_wp2
    go_ret
    exact ⟨rfl, bnext (bnext hb3 hb4) hb5⟩
end Go.Proofs.Ytcphfhkefgaalab
