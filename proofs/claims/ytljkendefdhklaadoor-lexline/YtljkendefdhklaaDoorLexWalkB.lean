/- Where quotes and patterns are closed. -/
import Derived.Test.YtljkendefdhklaaDoorLexWalkA
namespace Go.Proofs.YtljkendefdhklaaDoor
open Go.RowKit

theorem getD_bat (s : ByteArray) (i : Nat) : (s.data.toList.getD i 0).toNat = bat s i := rfl
theorem extract_list (s : ByteArray) (i j : Nat) : (s.extract i j).toList = (s.data.toList.drop i).take (j - i) := by
  rw [ByteArray.toList_eq, ByteArray.data_extract, Array.toList_extract, List.extract_eq_take_drop]
theorem take_one (l : List UInt8) (i : Nat) (h : i < l.length) : (l.drop i).take 1 = [l.getD i 0] := by
  rw [List.drop_eq_getElem_cons h, List.getD, List.getElem?_eq_getElem h]; rfl
theorem take_two (l : List UInt8) (i : Nat) (h : i + 1 < l.length) : (l.drop i).take 2 = [l.getD i 0, l.getD (i + 1) 0] := by
  rw [List.drop_eq_getElem_cons (by omega), List.drop_eq_getElem_cons h, List.getD, List.getD, List.getElem?_eq_getElem (by omega), List.getElem?_eq_getElem h]; rfl
theorem u8_nat {x : UInt8} {n : Nat} (h : n < 256) : x = UInt8.ofNat n ↔ x.toNat = n := by
  constructor
  · rintro rfl; rw [UInt8.toNat_ofNat']; omega
  · intro e; apply UInt8.toNat_inj.1; rw [UInt8.toNat_ofNat', e]; omega
theorem tail_size (s : ByteArray) (i : Nat) : (s.extract i s.size).size = s.size - i := by simp
theorem pre_one (s : ByteArray) (i : Nat) (h : i < s.size) : (((s.extract i s.size).extract 0 1).toList == [39]) = decide (bat s i = 39) := by
  have hl : i < s.data.toList.length := by simpa using h
  have e : ((s.extract i s.size).extract 0 1).toList = [s.data.toList.getD i 0] := by
    rw [extract_list, ← ByteArray.toList_eq, extract_list]
    have : (s.data.toList.drop i).take (s.size - i) = s.data.toList.drop i := List.take_of_length_le (by simp)
    rw [this, List.drop_zero]
    exact take_one _ _ hl
  rw [e, ← getD_bat]
  generalize s.data.toList.getD i 0 = x
  rw [Bool.eq_iff_iff]
  simp only [beq_iff_eq, List.cons.injEq, and_true, decide_eq_true_eq]
  exact u8_nat (n := 39) (by decide)
theorem pre_two (s : ByteArray) (i : Nat) (h : i + 1 < s.size) : (((s.extract i s.size).extract 0 2).toList == [58, 61]) = decide (bat s i = 58 ∧ bat s (i + 1) = 61) := by
  have hl : i + 1 < s.data.toList.length := by simpa using h
  have e : ((s.extract i s.size).extract 0 2).toList = [s.data.toList.getD i 0, s.data.toList.getD (i + 1) 0] := by
    rw [extract_list, ← ByteArray.toList_eq, extract_list]
    have : (s.data.toList.drop i).take (s.size - i) = s.data.toList.drop i := List.take_of_length_le (by simp)
    rw [this, List.drop_zero]
    exact take_two _ _ hl
  rw [e, ← getD_bat, ← getD_bat]
  generalize s.data.toList.getD i 0 = x
  generalize s.data.toList.getD (i + 1) 0 = y
  rw [Bool.eq_iff_iff]
  simp only [beq_iff_eq, List.cons.injEq, and_true, decide_eq_true_eq]
  exact and_congr (u8_nat (n := 58) (by decide)) (u8_nat (n := 61) (by decide))

set_option maxHeartbeats 400000 in
theorem hasQuote_lite (s : ByteArray) (i : Nat) (w : World) (_hs : s.size ≤ 2000) (hi : i ≤ s.size) :
    Calls Tryd.prog 29 #[.string (s.extract i s.size), .string ⟨#[39]⟩] w fun e w' => e = .returned (.bool (decide (bat s i = 39))) ∧ w' = w := by
  have hz := tail_size s i
  have HP := hide (pre_one s i)
  have HE := hide (bat_end s i)
  generalize s.extract i s.size = t at *
  by_cases h0 : i = s.size
  · have h1 : (t.size : Int) < 1 := by omega
    have HE2 := hide (unhide HE (by omega))
    clear h0 hz
    go_enter Tryd.func29, Tryd.ntmps29
    go_wp2
    go_ret
    exact ⟨by rw [unhide HE2]; rfl, rfl⟩
  · have h1 : (1 : Int) ≤ (t.size : Int) := by omega
    have HP2 := hide (unhide HP (by omega))
    clear h0 hz
    go_enter Tryd.func29, Tryd.ntmps29
    go_wp2
    go_ret
    exact ⟨ret_bool (unhide HP2), rfl⟩

set_option maxHeartbeats 400000 in
theorem hasQuote_any (s : ByteArray) (i : Nat) (w : World) (hs : s.size ≤ 2000) (hi : i ≤ s.size) :
    Calls Tryd.prog 25 #[.string (s.extract i s.size), .string ⟨#[39]⟩] w fun e w' => e = .returned (.bool (decide (bat s i = 39))) ∧ w' = w := by
  have C := hide (hasQuote_lite s i w hs hi)
  generalize s.extract i s.size = t at *
  go_enter Tryd.func25, Tryd.ntmps25
  go_wp2_with fail
  refine (unhide C).mono ?_
  rintro e w ⟨rfl, rfl⟩
  go_wp2
  go_ret
  exact ⟨rfl, rfl⟩

set_option maxHeartbeats 400000 in
theorem hasGives_lite (s : ByteArray) (i : Nat) (w : World) (_hs : s.size ≤ 2000) (_hi : i ≤ s.size) :
    Calls Tryd.prog 29 #[.string (s.extract i s.size), .string ⟨#[58, 61]⟩] w fun e w' => e = .returned (.bool (decide (bat s i = 58 ∧ bat s (i + 1) = 61))) ∧ w' = w := by
  have hz := tail_size s i
  have HP := hide (pre_two s i)
  have HE := hide (show s.size ≤ i + 1 → decide (bat s i = 58 ∧ bat s (i + 1) = 61) = false from fun h => decide_eq_false (fun k => by have := bat_end s (i + 1) h; omega))
  generalize decide (bat s i = 58 ∧ bat s (i + 1) = 61) = q at *
  generalize s.extract i s.size = t at *
  by_cases h0 : s.size ≤ i + 1
  · have h1 : (t.size : Int) < 2 := by omega
    have HE2 := hide (unhide HE h0)
    clear h0 hz
    go_enter Tryd.func29, Tryd.ntmps29
    go_wp2
    go_ret
    exact ⟨by rw [unhide HE2]; rfl, rfl⟩
  · have h1 : (2 : Int) ≤ (t.size : Int) := by omega
    have HP2 := hide (unhide HP (by omega))
    clear h0 hz
    go_enter Tryd.func29, Tryd.ntmps29
    go_wp2
    go_ret
    exact ⟨ret_bool (unhide HP2), rfl⟩

set_option maxHeartbeats 400000 in
theorem hasGives_any (s : ByteArray) (i : Nat) (w : World) (hs : s.size ≤ 2000) (hi : i ≤ s.size) :
    Calls Tryd.prog 25 #[.string (s.extract i s.size), .string ⟨#[58, 61]⟩] w fun e w' => e = .returned (.bool (decide (bat s i = 58 ∧ bat s (i + 1) = 61))) ∧ w' = w := by
  have C := hide (hasGives_lite s i w hs hi)
  generalize s.extract i s.size = t at *
  generalize decide (bat s i = 58 ∧ bat s (i + 1) = 61) = q at *
  go_enter Tryd.func25, Tryd.ntmps25
  go_wp2_with fail
  refine (unhide C).mono ?_
  rintro e w ⟨rfl, rfl⟩
  go_wp2
  go_ret
  exact ⟨rfl, rfl⟩

set_option maxHeartbeats 400000 in
theorem closingQuote_any (s : ByteArray) (i : Nat) (hs : s.size ≤ 2000) (hi : i < s.size) (w : World) :
    Calls Tryd.prog 23 #[.string s, .int .i64 (i : Int)] w fun e w' => e = .returned (.int .i64 (cq s (i + 1) : Int)) ∧ w' = w := by
  go_enter Tryd.func23, Tryd.ntmps23
  go_wp2_with fail
  go_loop [5] (fun v => ∃ k : Nat, k ≤ s.size ∧ v = .int .i64 (k : Int) ∧ Hid (cq s (i + 1) = cq s k)) (fun v => s.size - (intOf v).toNat)
  case atStart => exact ⟨i + 1, by omega, rfl, rfl⟩
  case round =>
    obtain ⟨k, hk, rfl, HU⟩ := hrel
    rcases Nat.lt_or_ge k s.size with hkt | hkt
    · have bk := bat_at s k hkt
      have hx : ((s[k]).toNat : Int) = (bat s k : Int) := by rw [bk]
      have HP := hide (hasQuote_any s (k + 1) w hs (by omega))
      have H1 := hide (@cq_plain s k hkt)
      have H2 := hide (@cq_two s k)
      have H3 := hide (@cq_here s k)
      have H4 := hide (@bat_in s (k + 1))
      generalize hb : bat s k = b at *
      clear bk hb
      by_cases h39 : b = 39
      · subst h39
        have hq : (((39 : Nat) : Int) != 39) = false := by decide
        by_cases hc : bat s (k + 1) = 39
        · have hk2 := unhide H4 (by omega)
          rw [decide_eq_true hc] at HP
          have HF := hide (unhide H2 rfl hc)
          clear hc
          go_wp2_with (refine (unhide HP).mono ?_; rintro e w ⟨rfl, rfl⟩)
          exact ⟨⟨k + 2, by omega, congrArg (Value.int .i64) (by omega), by rw [unhide HU]; exact unhide HF⟩, by simp [intOf]; omega⟩
        · rw [decide_eq_false hc] at HP
          have HF := hide (unhide H3 rfl hc)
          clear hc
          go_wp2_with (refine (unhide HP).mono ?_; rintro e w ⟨rfl, rfl⟩)
          go_ret
          exact ⟨by rw [unhide HU, unhide HF]; rfl, rfl⟩
      · have hq : ((b : Int) != 39) = true := by rw [bne_iff_ne]; omega
        have HF := hide (unhide H1 h39)
        clear h39
        go_wp2_with fail
        exact ⟨⟨k + 1, by omega, rfl, by rw [unhide HU]; exact unhide HF⟩, by simp [intOf]; omega⟩
    · have hk' : k = s.size := by omega
      subst hk'
      have HT := hide (@cq_end s s.size (Nat.le_refl _))
      go_wp2_with fail
      go_ret
      exact ⟨by rw [unhide HU, unhide HT]; rfl, rfl⟩

set_option maxHeartbeats 400000 in
theorem closingBracket_any (s : ByteArray) (i : Nat) (hs : s.size ≤ 2000) (hi : i < s.size) (w : World) :
    Calls Tryd.prog 24 #[.string s, .int .i64 (i : Int)] w fun e w' => e = .returned (.int .i64 (cb s (i + 1) : Int)) ∧ w' = w := by
  go_enter Tryd.func24, Tryd.ntmps24
  go_wp2_with fail
  go_loop [5] (fun v => ∃ k : Nat, k ≤ s.size + 1 ∧ v = .int .i64 (k : Int) ∧ Hid (cb s (i + 1) = cb s k)) (fun v => s.size + 1 - (intOf v).toNat)
  case atStart => exact ⟨i + 1, by omega, rfl, rfl⟩
  case round =>
    obtain ⟨k, hk, rfl, HU⟩ := hrel
    rcases Nat.lt_or_ge k s.size with hkt | hkt
    · have bk := bat_at s k hkt
      have hx : ((s[k]).toNat : Int) = (bat s k : Int) := by rw [bk]
      have HP := hide (closingQuote_any s k hs hkt w)
      have H1 := hide (@cb_plain s k hkt)
      have H2 := hide (@cb_quote s k)
      have H3 := hide (@cb_here s k)
      have hle := cq_le s (k + 1) (by omega)
      generalize cq s (k + 1) = c at *
      generalize hb : bat s k = b at *
      clear bk hb
      by_cases h93 : b = 93
      · subst h93
        have HF := hide (unhide H3 rfl)
        go_wp2_with fail
        go_ret
        exact ⟨by rw [unhide HU, unhide HF]; rfl, rfl⟩
      · have hq : ((b : Int) == 93) = false := by rw [beq_eq_false_iff_ne]; omega
        by_cases h39 : b = 39
        · subst h39
          have HF := hide (unhide H2 rfl)
          clear h93
          go_wp2_with (refine (unhide HP).mono ?_; rintro e w ⟨rfl, rfl⟩)
          exact ⟨⟨c + 1, by omega, rfl, by rw [unhide HU]; exact unhide HF⟩, by simp [intOf]; omega⟩
        · have hq2 : ((b : Int) == 39) = false := by rw [beq_eq_false_iff_ne]; omega
          have HF := hide (unhide H1 h39 h93)
          clear h39 h93
          go_wp2_with fail
          exact ⟨⟨k + 1, by omega, rfl, by rw [unhide HU]; exact unhide HF⟩, by simp [intOf]; omega⟩
    · have HT := hide (@cb_end s k hkt)
      have h2 : ¬ k < s.size := by omega
      go_wp2_with fail
      go_ret
      exact ⟨by rw [unhide HU, unhide HT]; rfl, rfl⟩
end Go.Proofs.YtljkendefdhklaaDoor
