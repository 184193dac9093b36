/- What the law TextsPadded answers, for every text, number and sign: true. -/
import Derived.Test.YtcphfhkefgaalabPadding
namespace Go.Proofs.Ytcphfhkefgaalab
open Go.RowKit

theorem extract_left (a b : ByteArray) (i j : Nat) (h : j ≤ a.size) : (a ++ b).extract i j = a.extract i j := by
  apply ByteArray.ext
  rw [ByteArray.data_extract, ByteArray.data_extract, ByteArray.data_append]
  apply Array.toList_inj.1
  have hd : a.data.toList.length = a.size := by simp
  rw [Array.toList_extract, Array.toList_extract, List.extract_eq_take_drop, List.extract_eq_take_drop, Array.toList_append]
  by_cases hi : i ≤ a.size
  · rw [List.drop_append_of_le_length (by omega), List.take_append_of_le_length (by rw [List.length_drop]; omega)]
  · rw [show j - i = 0 from by omega]; simp
theorem extract_right (a b : ByteArray) (i j : Nat) : (a ++ b).extract (a.size + i) (a.size + j) = b.extract i j := by
  apply ByteArray.ext
  rw [ByteArray.data_extract, ByteArray.data_extract, ByteArray.data_append]
  apply Array.toList_inj.1
  have hd : a.data.toList.length = a.size := by simp
  rw [Array.toList_extract, Array.toList_extract, List.extract_eq_take_drop, List.extract_eq_take_drop, Array.toList_append]
  rw [show a.size + i = a.data.toList.length + i from by omega, List.drop_append, show a.size + j - (a.data.toList.length + i) = j - i from by omega, List.drop_of_length_le (by omega), List.nil_append, show a.data.toList.length + i - a.data.toList.length = i from by omega]
theorem extract_all (a : ByteArray) : a.extract 0 a.size = a := by
  apply ByteArray.ext
  rw [ByteArray.data_extract]
  show a.data.extract 0 a.data.size = a.data
  simp
theorem rep_sign (f : ByteArray) (k j : Nat) (hf : f.size = 1) (h : j < k) : (rep f k).extract j (j + 1) = f := by
  have hp : ∀ k j : Nat, j < k → (rep f k).extract (j * f.size) (j * f.size + f.size) = f := by
    intro n k h
    obtain ⟨d, rfl⟩ : ∃ d, n = k + (1 + d) := ⟨n - k - 1, by omega⟩
    rw [rep_add, rep_add]
    have hs := rep_size f k
    have e1 : rep f 1 = f := by unfold rep; rw [Lib.repeatL_one]
    have := extract_right (rep f k) (rep f 1 ++ rep f d) 0 f.size
    rw [hs, Nat.add_zero] at this
    rw [this, e1, extract_left _ _ _ _ (Nat.le_refl _), extract_all]
  have := hp k j h
  rw [hf, Nat.mul_one] at this
  exact this

set_option maxHeartbeats 1000000 in
theorem textsPadded_walk (a0 : ByteArray) (a1 : Int) (a2 : ByteArray) (w0 : a0.size ≤ maxLen) (w1 : (Lit.int .i64 a1).wf = true) (w2 : a2.size ≤ maxLen) (w : World) :
    Calls Try.prog 3 #[.string a0, .int .i64 a1, .string a2] w fun e w' => e = .returned (.bool true) ∧ Below w.heap.size w w' := by
  have b1 := bounds_i64 w1
  clear w1
  have c1 := fun W => lpad_any a0 a1 a2 W w0 w2 b1.1 b1.2
  have c2 := fun W => rpad_any a0 a1 a2 W w0 w2 b1.1 b1.2
  by_cases h : padE a0 a1 a2 = 0
  · obtain ⟨hl, hf, hn⟩ := padE_zero a0 a1 a2 h
    have e1 : lpadV a0 a1 a2 = padV a0 a1 a2 ++ a0 := by simp [lpadV, h]
    have e2 : rpadV a0 a1 a2 = a0 ++ padV a0 a1 a2 := by simp [rpadV, h]
    have hv := padV_size a0 a1 a2 h
    have hrep : padV a0 a1 a2 = rep a2 (a1 - (a0.size : Int)).toNat := by simp [padV, h]
    rw [e1, h] at c1
    rw [e2, h] at c2
    obtain ⟨k, hk⟩ : ∃ k, k = (a1 - (a0.size : Int)).toNat := ⟨_, rfl⟩
    rw [← hk] at hv hrep
    have p1 : ∀ j, j < k → (padV a0 a1 a2 ++ a0).extract j (j + 1) = a2 := fun j hj => by
      rw [extract_left _ _ _ _ (by omega), hrep, rep_sign a2 k j hf hj]
    have p2 : ∀ j, j < k → (a0 ++ padV a0 a1 a2).extract (a0.size + j) (a0.size + j + 1) = a2 := fun j hj => by
      rw [Nat.add_assoc, extract_right, hrep, rep_sign a2 k j hf hj]
    have p3 : (padV a0 a1 a2 ++ a0).extract k (padV a0 a1 a2 ++ a0).size = a0 := by
      have := extract_right (padV a0 a1 a2) a0 0 a0.size
      rw [hv, Nat.add_zero, extract_all] at this
      rw [ByteArray.size_append, hv]
      exact this
    have p4 : (a0 ++ padV a0 a1 a2).extract 0 a0.size = a0 := by rw [extract_left _ _ _ _ (Nat.le_refl _), extract_all]
    have s1 : (padV a0 a1 a2 ++ a0).size = k + a0.size := by rw [ByteArray.size_append, hv]
    have s2 : (a0 ++ padV a0 a1 a2).size = a0.size + k := by rw [ByteArray.size_append, hv]
    generalize padV a0 a1 a2 ++ a0 = a at *
    generalize a0 ++ padV a0 a1 a2 = b at *
    have C1 := hide c1
    have C2 := hide c2
    have P1 := hide p1
    have P2 := hide p2
    have ha : a.size ≤ 65536 := by omega
    have hb : b.size ≤ 65536 := by omega
    have hab : ((a.size : Int) != (b.size : Int)) = false := by rw [bne_eq_false_iff_eq]; omega
    have hlt : (a0.size : Int) ≤ (a.size : Int) := by omega
    have hln : a1 ≤ (a.size : Int) := by omega
    have hka : (k : Int) + (a0.size : Int) = (a.size : Int) := by omega
    have hkb : (k : Int) + (a0.size : Int) = (b.size : Int) := by omega
    have hk2 : a.size - a0.size = k := by omega
    have hlb : a0.size ≤ b.size := by omega
    rw [← hk2] at p3
    have q3 : ((a.extract (a.size - a0.size) a.size).toList == a0.toList) = true := by rw [p3]; simp
    have q4 : ((b.extract 0 a0.size).toList == a0.toList) = true := by rw [p4]; simp
    have HK := hide hk2
    have HA := hide hka
    have HB := hide hkb
    clear c1 c2 p1 p2 p3 p4 s1 s2 e1 e2 h hv hrep hf hka hkb hk2
    have hcases : (a.size : Int) ≤ (a0.size : Int) ∨ ((a0.size : Int) < (a.size : Int) ∧ ((a.size : Int) != a1) = false) := by
      by_cases hc : (a.size : Int) ≤ (a0.size : Int)
      · exact .inl hc
      · refine .inr ⟨by omega, ?_⟩
        have := unhide HA
        rw [bne_eq_false_iff_eq]; omega
    clear hk
    rcases hcases with hc | ⟨hc, hcn⟩
    all_goals
      go_enter Try.func3, Try.ntmps3
      go_wp2_with fail
      refine (alive_any _).mono ?_
      rintro e w3 ⟨rfl, hb3⟩
      go_wp2_with fail
      refine (unhide C1 _).mono ?_
      rintro e w4 ⟨rfl, hb4⟩
      go_wp2_with fail
      refine (unhide C2 _).mono ?_
      rintro e w5 ⟨rfl, hb5⟩
      go_wp2
      have hend := bnext (bnext hb3 hb4) hb5
      clear hb3 hb4 hb5
      go_loop [12] (fun i => ∃ j : Nat, (j : Int) ≤ (a.size : Int) - (a0.size : Int) ∧ i = .int .i64 j) (fun i => a.size - (intOf i).toNat)
      case atStart => exact ⟨0, by omega, rfl⟩
      case round =>
        obtain ⟨j, hj, rfl⟩ := hrel
        by_cases hjk : (j : Int) < (a.size : Int) - (a0.size : Int)
        · have hjk' : j < k := by have := unhide HK; omega
          have r1 : ((a.extract j (j + 1)).toList == a2.toList) = true := by rw [unhide P1 j hjk']; simp
          have r2 : ((b.extract (a0.size + j) (a0.size + j + 1)).toList == a2.toList) = true := by rw [unhide P2 j hjk']; simp
          have r3 : j + 1 ≤ a.size := by omega
          have r4 : a0.size + j + 1 ≤ b.size := by have := unhide HB; omega
          go_wp2
          go_round
          case rel => exact ⟨j + 1, by omega, by go_num⟩
          case measure => simp [intOf]; omega
        · go_wp2
          go_ret
          exact ⟨rfl, hend⟩
  · have e1 : lpadV a0 a1 a2 = ⟨#[]⟩ := by simp [lpadV, h]
    have e2 : rpadV a0 a1 a2 = ⟨#[]⟩ := by simp [rpadV, h]
    have hne : (padE a0 a1 a2 != 0) = true := by rw [bne_iff_ne]; exact h
    rw [e1] at c1
    rw [e2] at c2
    generalize padE a0 a1 a2 = q at *
    have C1 := hide c1
    have C2 := hide c2
    clear c1 c2 e1 e2 h
    go_enter Try.func3, Try.ntmps3
    go_wp2_with fail
    refine (alive_any _).mono ?_
    rintro e w3 ⟨rfl, hb3⟩
    go_wp2_with fail
    refine (unhide C1 _).mono ?_
    rintro e w4 ⟨rfl, hb4⟩
    go_wp2_with fail
    refine (unhide C2 _).mono ?_
    rintro e w5 ⟨rfl, hb5⟩
    go_wp2
    go_ret
    exact ⟨rfl, bnext (bnext hb3 hb4) hb5⟩
end Go.Proofs.Ytcphfhkefgaalab
