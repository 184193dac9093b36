/- Where quotes and patterns are closed. What strings.Clone answers, laid from the library. What strings.IndexByte answers, laid from the library. -/
import Derived.Test.YtpkmamgleofimaaGreatDoorLxWalkAM
import Derived.Shelf.LaysM
import Derived.Below
import Derived.Shelf.Strconv.Clone
import Derived.Test.YtpkmamgleofimaaGreatDoorProg
import Derived.Shelf.Small.Strs
namespace Go.Proofs.YtpkmamgleofimaaGreatDoor
open Go.RowKit

theorem getD_bat (s : ByteArray) (i : Nat) : (s.data.toList.getD i 0).toNat = bat s i := rfl
theorem extract_list (s : ByteArray) (i j : Nat) : (s.extract i j).toList = (s.data.toList.drop i).take (j - i) := by
  rw [ByteArray.toList_eq, ByteArray.data_extract, Array.toList_extract, List.extract_eq_take_drop]
theorem take_one (l : List UInt8) (i : Nat) (h : i < l.length) : (l.drop i).take 1 = [l.getD i 0] := by
  rw [List.drop_eq_getElem_cons h, List.getD, List.getElem?_eq_getElem h]; rfl
theorem take_two (l : List UInt8) (i : Nat) (h : i + 1 < l.length) : (l.drop i).take 2 = [l.getD i 0, l.getD (i + 1) 0] := by
  rw [List.drop_eq_getElem_cons (by omega), List.drop_eq_getElem_cons h, List.getD, List.getD, List.getElem?_eq_getElem (by omega), List.getElem?_eq_getElem h]; rfl
theorem u8_nat {x : UInt8} {n : Nat} (h : n < 256) : x = UInt8.ofNat n ↔ x.toNat = n := by
  constructor
  · rintro rfl; rw [UInt8.toNat_ofNat']; omega
  · intro e; apply UInt8.toNat_inj.1; rw [UInt8.toNat_ofNat', e]; omega
theorem tail_size (s : ByteArray) (i : Nat) : (s.extract i s.size).size = s.size - i := by simp
theorem pre_one (s : ByteArray) (i : Nat) (h : i < s.size) : (((s.extract i s.size).extract 0 1).toList == [39]) = decide (bat s i = 39) := by
  have hl : i < s.data.toList.length := by simpa using h
  have e : ((s.extract i s.size).extract 0 1).toList = [s.data.toList.getD i 0] := by
    rw [extract_list, ← ByteArray.toList_eq, extract_list]
    have : (s.data.toList.drop i).take (s.size - i) = s.data.toList.drop i := List.take_of_length_le (by simp)
    rw [this, List.drop_zero]
    exact take_one _ _ hl
  rw [e, ← getD_bat]
  generalize s.data.toList.getD i 0 = x
  rw [Bool.eq_iff_iff]
  simp only [beq_iff_eq, List.cons.injEq, and_true, decide_eq_true_eq]
  exact u8_nat (n := 39) (by decide)
theorem pre_two (s : ByteArray) (i : Nat) (h : i + 1 < s.size) : (((s.extract i s.size).extract 0 2).toList == [58, 61]) = decide (bat s i = 58 ∧ bat s (i + 1) = 61) := by
  have hl : i + 1 < s.data.toList.length := by simpa using h
  have e : ((s.extract i s.size).extract 0 2).toList = [s.data.toList.getD i 0, s.data.toList.getD (i + 1) 0] := by
    rw [extract_list, ← ByteArray.toList_eq, extract_list]
    have : (s.data.toList.drop i).take (s.size - i) = s.data.toList.drop i := List.take_of_length_le (by simp)
    rw [this, List.drop_zero]
    exact take_two _ _ hl
  rw [e, ← getD_bat, ← getD_bat]
  generalize s.data.toList.getD i 0 = x
  generalize s.data.toList.getD (i + 1) 0 = y
  rw [Bool.eq_iff_iff]
  simp only [beq_iff_eq, List.cons.injEq, and_true, decide_eq_true_eq]
  exact and_congr (u8_nat (n := 58) (by decide)) (u8_nat (n := 61) (by decide))
set_option maxHeartbeats 400000 in
theorem hasQuote_lite (s : ByteArray) (i : Nat) (w : World) (_hs : s.size ≤ 2000) (hi : i ≤ s.size) :
    Calls Tryz.prog 28 #[.string (s.extract i s.size), .string ⟨#[39]⟩] w fun e w' => e = .returned (.bool (decide (bat s i = 39))) ∧ w' = w := by
  have hz := tail_size s i
  have HP := hide (pre_one s i)
  have HE := hide (bat_end s i)
  generalize s.extract i s.size = t at *
  by_cases h0 : i = s.size
  · have h1 : (t.size : Int) < 1 := by omega
    have HE2 := hide (unhide HE (by omega))
    clear h0 hz
    go_enter Tryz.func28, Tryz.ntmps28
    go_wp2
    go_ret
    exact ⟨by rw [unhide HE2]; rfl, rfl⟩
  · have h1 : (1 : Int) ≤ (t.size : Int) := by omega
    have HP2 := hide (unhide HP (by omega))
    clear h0 hz
    go_enter Tryz.func28, Tryz.ntmps28
    go_wp2
    go_ret
    exact ⟨ret_bool (unhide HP2), rfl⟩
set_option maxHeartbeats 400000 in
theorem hasQuote_any (s : ByteArray) (i : Nat) (w : World) (hs : s.size ≤ 2000) (hi : i ≤ s.size) :
    Calls Tryz.prog 17 #[.string (s.extract i s.size), .string ⟨#[39]⟩] w fun e w' => e = .returned (.bool (decide (bat s i = 39))) ∧ w' = w := by
  have C := hide (hasQuote_lite s i w hs hi)
  generalize s.extract i s.size = t at *
  go_enter Tryz.func17, Tryz.ntmps17
  go_wp2_with fail
  refine (unhide C).mono ?_
  rintro e w ⟨rfl, rfl⟩
  go_wp2
  go_ret
  exact ⟨rfl, rfl⟩
set_option maxHeartbeats 400000 in
theorem hasGives_lite (s : ByteArray) (i : Nat) (w : World) (_hs : s.size ≤ 2000) (_hi : i ≤ s.size) :
    Calls Tryz.prog 28 #[.string (s.extract i s.size), .string ⟨#[58, 61]⟩] w fun e w' => e = .returned (.bool (decide (bat s i = 58 ∧ bat s (i + 1) = 61))) ∧ w' = w := by
  have hz := tail_size s i
  have HP := hide (pre_two s i)
  have HE : Hid (s.size ≤ i + 1 → decide (bat s i = 58 ∧ bat s (i + 1) = 61) = false) := hide (fun h => decide_eq_false (fun k => by have := bat_end s (i + 1) h; omega))
  generalize decide (bat s i = 58 ∧ bat s (i + 1) = 61) = q at *
  generalize s.extract i s.size = t at *
  by_cases h0 : s.size ≤ i + 1
  · have h1 : (t.size : Int) < 2 := by omega
    have HE2 := hide (unhide HE h0)
    clear h0 hz
    go_enter Tryz.func28, Tryz.ntmps28
    go_wp2
    go_ret
    exact ⟨by rw [unhide HE2]; rfl, rfl⟩
  · have h1 : (2 : Int) ≤ (t.size : Int) := by omega
    have HP2 := hide (unhide HP (by omega))
    clear h0 hz
    go_enter Tryz.func28, Tryz.ntmps28
    go_wp2
    go_ret
    exact ⟨ret_bool (unhide HP2), rfl⟩
set_option maxHeartbeats 400000 in
theorem hasGives_any (s : ByteArray) (i : Nat) (w : World) (hs : s.size ≤ 2000) (hi : i ≤ s.size) :
    Calls Tryz.prog 17 #[.string (s.extract i s.size), .string ⟨#[58, 61]⟩] w fun e w' => e = .returned (.bool (decide (bat s i = 58 ∧ bat s (i + 1) = 61))) ∧ w' = w := by
  have C := hide (hasGives_lite s i w hs hi)
  generalize s.extract i s.size = t at *
  generalize decide (bat s i = 58 ∧ bat s (i + 1) = 61) = q at *
  go_enter Tryz.func17, Tryz.ntmps17
  go_wp2_with fail
  refine (unhide C).mono ?_
  rintro e w ⟨rfl, rfl⟩
  go_wp2
  go_ret
  exact ⟨rfl, rfl⟩
set_option maxHeartbeats 400000 in
theorem closingQuote_any (s : ByteArray) (i : Nat) (hs : s.size ≤ 2000) (hi : i < s.size) (w : World) :
    Calls Tryz.prog 58 #[.string s, .int .i64 (i : Int)] w fun e w' => e = .returned (.int .i64 (cq s (i + 1) : Int)) ∧ w' = w := by
  go_enter Tryz.func58, Tryz.ntmps58
  go_wp2_with fail
  go_loop [5] (fun v => ∃ k : Nat, k ≤ s.size ∧ v = .int .i64 (k : Int) ∧ Hid (cq s (i + 1) = cq s k)) (fun v => s.size - (intOf v).toNat)
  case atStart => exact ⟨i + 1, by omega, rfl, rfl⟩
  case round =>
    obtain ⟨k, hk, rfl, HU⟩ := hrel
    rcases Nat.lt_or_ge k s.size with hkt | hkt
    · have bk := bat_at s k hkt
      have hx : ((s[k]).toNat : Int) = (bat s k : Int) := by rw [bk]
      have HP := hide (hasQuote_any s (k + 1) w hs (by omega))
      have H1 := hide (@cq_plain s k hkt)
      have H2 := hide (@cq_two s k)
      have H3 := hide (@cq_here s k)
      have H4 := hide (@bat_in s (k + 1))
      generalize hb : bat s k = b at *
      clear bk hb
      by_cases h39 : b = 39
      · subst h39
        have hq : (((39 : Nat) : Int) != 39) = false := by decide
        by_cases hc : bat s (k + 1) = 39
        · have hk2 := unhide H4 (by omega)
          rw [decide_eq_true hc] at HP
          have HF := hide (unhide H2 rfl hc)
          clear hc
          go_wp2_with (refine (unhide HP).mono ?_; rintro e w ⟨rfl, rfl⟩)
          exact ⟨⟨k + 2, by omega, congrArg (Value.int .i64) (by omega), by rw [unhide HU]; exact unhide HF⟩, by simp [intOf]; omega⟩
        · rw [decide_eq_false hc] at HP
          have HF := hide (unhide H3 rfl hc)
          clear hc
          go_wp2_with (refine (unhide HP).mono ?_; rintro e w ⟨rfl, rfl⟩)
          go_ret
          exact ⟨by rw [unhide HU, unhide HF]; rfl, rfl⟩
      · have hq : ((b : Int) != 39) = true := by rw [bne_iff_ne]; omega
        have HF := hide (unhide H1 h39)
        clear h39
        go_wp2_with fail
        exact ⟨⟨k + 1, by omega, rfl, by rw [unhide HU]; exact unhide HF⟩, by simp [intOf]; omega⟩
    · have hk' : k = s.size := by omega
      subst hk'
      have HT := hide (@cq_end s s.size (Nat.le_refl _))
      go_wp2_with fail
      go_ret
      exact ⟨by rw [unhide HU, unhide HT]; rfl, rfl⟩
set_option maxHeartbeats 400000 in
theorem closingBracket_any (s : ByteArray) (i : Nat) (hs : s.size ≤ 2000) (hi : i < s.size) (w : World) :
    Calls Tryz.prog 59 #[.string s, .int .i64 (i : Int)] w fun e w' => e = .returned (.int .i64 (cb s (i + 1) : Int)) ∧ w' = w := by
  go_enter Tryz.func59, Tryz.ntmps59
  go_wp2_with fail
  go_loop [5] (fun v => ∃ k : Nat, k ≤ s.size + 1 ∧ v = .int .i64 (k : Int) ∧ Hid (cb s (i + 1) = cb s k)) (fun v => s.size + 1 - (intOf v).toNat)
  case atStart => exact ⟨i + 1, by omega, rfl, rfl⟩
  case round =>
    obtain ⟨k, hk, rfl, HU⟩ := hrel
    rcases Nat.lt_or_ge k s.size with hkt | hkt
    · have bk := bat_at s k hkt
      have hx : ((s[k]).toNat : Int) = (bat s k : Int) := by rw [bk]
      have HP := hide (closingQuote_any s k hs hkt w)
      have H1 := hide (@cb_plain s k hkt)
      have H2 := hide (@cb_quote s k)
      have H3 := hide (@cb_here s k)
      have hle := cq_le s (k + 1) (by omega)
      generalize cq s (k + 1) = c at *
      generalize hb : bat s k = b at *
      clear bk hb
      by_cases h93 : b = 93
      · subst h93
        have HF := hide (unhide H3 rfl)
        go_wp2_with fail
        go_ret
        exact ⟨by rw [unhide HU, unhide HF]; rfl, rfl⟩
      · have hq : ((b : Int) == 93) = false := bn
        by_cases h39 : b = 39
        · subst h39
          have HF := hide (unhide H2 rfl)
          clear h93
          go_wp2_with (refine (unhide HP).mono ?_; rintro e w ⟨rfl, rfl⟩)
          exact ⟨⟨c + 1, by omega, rfl, by rw [unhide HU]; exact unhide HF⟩, by simp [intOf]; omega⟩
        · have hq2 : ((b : Int) == 39) = false := bn
          have HF := hide (unhide H1 h39 h93)
          clear h39 h93
          go_wp2_with fail
          exact ⟨⟨k + 1, by omega, rfl, by rw [unhide HU]; exact unhide HF⟩, by simp [intOf]; omega⟩
    · have HT := hide (@cb_end s k hkt)
      have h2 : ¬ k < s.size := by omega
      go_wp2_with fail
      go_ret
      exact ⟨by rw [unhide HU, unhide HT]; rfl, rfl⟩
end Go.Proofs.YtpkmamgleofimaaGreatDoor

namespace Go.Proofs
open Go.Shelf Go.RowKit Go.Lib
def Tryz.laysM316_ren : Go.Shelf.Ren := ⟨fun | 316 => 90 | n => n, fun | 9 => 9 | 3 => 3 | 4 => 4 | 37 => 135 | 0 => 0 | 127 => 143 | 5 => 5 | n => n, fun | n => n⟩
theorem Tryz.laysM316 : Go.Proofs.LaysM.n316 Tryz.prog Tryz.laysM316_ren := {
  mixed := by kernel_rfl
  f316 := Tryz.func90.trans (congrArg some (by kernel_rfl))
  t0 := Tryz.underlying0
  a0 := Tryz.isAgg0
  z0 := Tryz.sizeOf0
  v0 := Tryz.zeroValue0
  t3 := Tryz.underlying3
  a3 := Tryz.isAgg3
  z3 := Tryz.sizeOf3
  v3 := Tryz.zeroValue3
  t4 := Tryz.underlying4
  a4 := Tryz.isAgg4
  z4 := Tryz.sizeOf4
  v4 := Tryz.zeroValue4
  t9 := Tryz.underlying9
  a9 := Tryz.isAgg9
  z9 := Tryz.sizeOf9
  v9 := Tryz.zeroValue9
  t37 := Tryz.underlying135
  a37 := Tryz.isAgg135
  z37 := Tryz.sizeOf135
  v37 := Tryz.zeroValue135
  t127 := Tryz.underlying143
  a127 := Tryz.isAgg143
  z127 := Tryz.sizeOf143
  v127 := Tryz.zeroValue143
  t5 := Tryz.underlying5
  a5 := Tryz.isAgg5
  z5 := Tryz.sizeOf5
  v5 := Tryz.zeroValue5
  i0 := by kernel_rfl
  i3 := by kernel_rfl
  i4 := by kernel_rfl
  i5 := by kernel_rfl
  i9 := by kernel_rfl
  i37 := by kernel_rfl
  i127 := by kernel_rfl }
theorem Tryz.stringslite_Clone (s : ByteArray) (w : World) (hlim : s.size ≤ 281474976710656) :
    Calls Tryz.prog 90 #[.string s] w fun e w' => e = .returned (.string s) ∧ Below w.heap.size w w' := Any.stringslite_Clone Tryz.laysM316 s w hlim
end Go.Proofs

namespace Go.Proofs
open Go.Shelf Go.RowKit Go.Lib
def Tryz.lays137_ren : Go.Shelf.Ren := ⟨fun | 137 => 60 | 217 => 88 | 266 => 106 | n => n, fun | 9 => 9 | 5 => 5 | 3 => 3 | n => n, fun | n => n⟩
theorem Tryz.lays137 : Go.Proofs.Lays.n137 Tryz.prog Tryz.lays137_ren := {
  mixed := by kernel_rfl
  f137 := Tryz.func60.trans (congrArg some (by kernel_rfl))
  f217 := Tryz.func88.trans (congrArg some (by kernel_rfl))
  f266 := Tryz.func106.trans (congrArg some (by kernel_rfl))
  t3 := Tryz.underlying3
  a3 := Tryz.isAgg3
  z3 := Tryz.sizeOf3
  v3 := Tryz.zeroValue3
  t5 := Tryz.underlying5
  a5 := Tryz.isAgg5
  z5 := Tryz.sizeOf5
  v5 := Tryz.zeroValue5
  t9 := Tryz.underlying9
  a9 := Tryz.isAgg9
  z9 := Tryz.sizeOf9
  v9 := Tryz.zeroValue9 }
theorem Tryz.strings_IndexByte (s : ByteArray) (c : Int) (w : World) :
    Calls Tryz.prog 60 #[.string s, .int .u8 c] w fun e w' => e = .returned (.int .i64 (Lib.indexByte s.data.toList c.toNat.toUInt8)) ∧ w' = w := Any.strings_IndexByte Tryz.lays137 s c w
end Go.Proofs
