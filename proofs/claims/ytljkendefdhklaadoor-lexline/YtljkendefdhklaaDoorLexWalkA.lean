/- The small functions of lex. -/
import Derived.Test.YtljkendefdhklaaDoorLexPlain
namespace Go.Proofs.YtljkendefdhklaaDoor
open Go.RowKit

set_option maxHeartbeats 400000 in
theorem lexBlank_any (b : Nat) (_hb : b < 256) (w : World) :
    Calls Tryd.prog 12 #[.int .u8 (b : Int)] w fun e w' => e = .returned (.bool (blankN b)) ∧ w' = w := by
  go_enter Tryd.func12, Tryd.ntmps12
  go_wp2
  go_ret
  exact ⟨ret_bool (by unfold blankN; rw [Bool.eq_iff_iff]; simp; omega), rfl⟩

set_option maxHeartbeats 400000 in
theorem lexLetter_any (b : Nat) (hb : b < 256) (w : World) :
    Calls Tryd.prog 19 #[.int .u8 (b : Int)] w fun e w' => e = .returned (.bool (letterN b)) ∧ w' = w := by
  have hc : (65 ≤ b ∧ b ≤ 90) ∨ b < 65 ∨ (65 ≤ b ∧ 90 < b) := by omega
  rcases hc with ⟨h1, h2⟩ | h | ⟨h1, h2⟩
  · rw [show letterN b = true from decide_eq_true (by omega)]
    go_enter Tryd.func19, Tryd.ntmps19
    go_wp2
    go_ret
    exact ⟨ret_bool (by simp; omega), rfl⟩
  · rw [show letterN b = false from decide_eq_false (by omega)]
    go_enter Tryd.func19, Tryd.ntmps19
    go_wp2
    go_ret
    exact ⟨rfl, rfl⟩
  · rw [show letterN b = false from decide_eq_false (by omega)]
    go_enter Tryd.func19, Tryd.ntmps19
    go_wp2
    go_ret
    exact ⟨ret_bool (by simp; omega), rfl⟩

set_option maxHeartbeats 400000 in
theorem lexDigit_any (b : Nat) (hb : b < 256) (w : World) :
    Calls Tryd.prog 21 #[.int .u8 (b : Int)] w fun e w' => e = .returned (.bool (digitN b)) ∧ w' = w := by
  have hc : (48 ≤ b ∧ b ≤ 57) ∨ b < 48 ∨ (48 ≤ b ∧ 57 < b) := by omega
  rcases hc with ⟨h1, h2⟩ | h | ⟨h1, h2⟩
  · rw [show digitN b = true from decide_eq_true (by omega)]
    go_enter Tryd.func21, Tryd.ntmps21
    go_wp2
    go_ret
    exact ⟨ret_bool (by simp; omega), rfl⟩
  · rw [show digitN b = false from decide_eq_false (by omega)]
    go_enter Tryd.func21, Tryd.ntmps21
    go_wp2
    go_ret
    exact ⟨rfl, rfl⟩
  · rw [show digitN b = false from decide_eq_false (by omega)]
    go_enter Tryd.func21, Tryd.ntmps21
    go_wp2
    go_ret
    exact ⟨ret_bool (by simp; omega), rfl⟩

set_option maxHeartbeats 400000 in
theorem lexWord_any (b : Nat) (hb : b < 256) (w : World) :
    Calls Tryd.prog 20 #[.int .u8 (b : Int)] w fun e w' => e = .returned (.bool (wordN b)) ∧ w' = w := by
  have H1 := hide (lexLetter_any b hb w)
  have H2 := hide (lexDigit_any b hb w)
  unfold wordN
  generalize letterN b = x at *
  generalize digitN b = y at *
  cases x
  · go_enter Tryd.func20, Tryd.ntmps20
    go_wp2_with (first | (go_at_call 19; refine (unhide H1).mono ?_; rintro e w ⟨rfl, rfl⟩) | (go_at_call 21; refine (unhide H2).mono ?_; rintro e w ⟨rfl, rfl⟩))
    go_ret
    exact ⟨rfl, rfl⟩
  · go_enter Tryd.func20, Tryd.ntmps20
    go_wp2_with (first | (go_at_call 19; refine (unhide H1).mono ?_; rintro e w ⟨rfl, rfl⟩))
    go_ret
    exact ⟨rfl, rfl⟩

set_option maxHeartbeats 400000 in
theorem passBlank_any (s : ByteArray) (i : Nat) (hs : s.size ≤ 2000) (hi : i ≤ s.size) (w : World) :
    Calls Tryd.prog 11 #[.string s, .int .i64 (i : Int), .func (.func 12) #[] #[]] w fun e w' => e = .returned (.int .i64 (pas s blankN i : Int)) ∧ w' = w := by
  go_enter Tryd.func11, Tryd.ntmps11
  go_wp2_with fail
  go_loop [1] (fun v => ∃ k : Nat, k ≤ s.size ∧ v = .int .i64 (k : Int) ∧ Hid (pas s blankN i = pas s blankN k)) (fun v => s.size - (intOf v).toNat)
  case atStart => exact ⟨i, hi, rfl, rfl⟩
  case round =>
    obtain ⟨k, hk, rfl, HU⟩ := hrel
    rcases Nat.lt_or_ge k s.size with hkt | hkt
    · have bk := bat_at s k hkt
      have Hk := hide bk
      clear bk
      have HS := hide (fun h => @pas_step s blankN k hkt h)
      have HT := hide (fun h => @pas_stop s blankN k h)
      have HC := hide (lexBlank_any (bat s k) (bat_lt _ _))
      generalize hq : blankN (bat s k) = q at *
      clear hq
      cases q
      · have HT2 := hide (unhide HT fun _ => rfl)
        clear HT HS
        go_wp2_with (rw [unhide Hk]; refine (unhide HC _).mono ?_; rintro e w ⟨rfl, rfl⟩)
        go_ret
        exact ⟨by rw [unhide HU, unhide HT2]; rfl, rfl⟩
      · have HS2 := hide (unhide HS rfl)
        clear HT HS
        go_wp2_with (rw [unhide Hk]; refine (unhide HC _).mono ?_; rintro e w ⟨rfl, rfl⟩)
        exact ⟨⟨k + 1, by omega, rfl, by rw [unhide HU]; exact unhide HS2⟩, by simp [intOf]; omega⟩
    · have hk' : k = s.size := by omega
      subst hk'
      have HT := hide (@pas_stop s blankN s.size (fun h => by omega))
      go_wp2_with fail
      go_ret
      exact ⟨by rw [unhide HU, unhide HT]; rfl, rfl⟩

set_option maxHeartbeats 400000 in
theorem passOfWord_any (s : ByteArray) (i : Nat) (hs : s.size ≤ 2000) (hi : i ≤ s.size) (w : World) :
    Calls Tryd.prog 11 #[.string s, .int .i64 (i : Int), .func (.func 20) #[] #[]] w fun e w' => e = .returned (.int .i64 (pas s wordN i : Int)) ∧ w' = w := by
  go_enter Tryd.func11, Tryd.ntmps11
  go_wp2_with fail
  go_loop [1] (fun v => ∃ k : Nat, k ≤ s.size ∧ v = .int .i64 (k : Int) ∧ Hid (pas s wordN i = pas s wordN k)) (fun v => s.size - (intOf v).toNat)
  case atStart => exact ⟨i, hi, rfl, rfl⟩
  case round =>
    obtain ⟨k, hk, rfl, HU⟩ := hrel
    rcases Nat.lt_or_ge k s.size with hkt | hkt
    · have bk := bat_at s k hkt
      have Hk := hide bk
      clear bk
      have HS := hide (fun h => @pas_step s wordN k hkt h)
      have HT := hide (fun h => @pas_stop s wordN k h)
      have HC := hide (lexWord_any (bat s k) (bat_lt _ _))
      generalize hq : wordN (bat s k) = q at *
      clear hq
      cases q
      · have HT2 := hide (unhide HT fun _ => rfl)
        clear HT HS
        go_wp2_with (rw [unhide Hk]; refine (unhide HC _).mono ?_; rintro e w ⟨rfl, rfl⟩)
        go_ret
        exact ⟨by rw [unhide HU, unhide HT2]; rfl, rfl⟩
      · have HS2 := hide (unhide HS rfl)
        clear HT HS
        go_wp2_with (rw [unhide Hk]; refine (unhide HC _).mono ?_; rintro e w ⟨rfl, rfl⟩)
        exact ⟨⟨k + 1, by omega, rfl, by rw [unhide HU]; exact unhide HS2⟩, by simp [intOf]; omega⟩
    · have hk' : k = s.size := by omega
      subst hk'
      have HT := hide (@pas_stop s wordN s.size (fun h => by omega))
      go_wp2_with fail
      go_ret
      exact ⟨by rw [unhide HU, unhide HT]; rfl, rfl⟩

set_option maxHeartbeats 400000 in
theorem passDigit_any (s : ByteArray) (i : Nat) (hs : s.size ≤ 2000) (hi : i ≤ s.size) (w : World) :
    Calls Tryd.prog 11 #[.string s, .int .i64 (i : Int), .func (.func 21) #[] #[]] w fun e w' => e = .returned (.int .i64 (pas s digitN i : Int)) ∧ w' = w := by
  go_enter Tryd.func11, Tryd.ntmps11
  go_wp2_with fail
  go_loop [1] (fun v => ∃ k : Nat, k ≤ s.size ∧ v = .int .i64 (k : Int) ∧ Hid (pas s digitN i = pas s digitN k)) (fun v => s.size - (intOf v).toNat)
  case atStart => exact ⟨i, hi, rfl, rfl⟩
  case round =>
    obtain ⟨k, hk, rfl, HU⟩ := hrel
    rcases Nat.lt_or_ge k s.size with hkt | hkt
    · have bk := bat_at s k hkt
      have Hk := hide bk
      clear bk
      have HS := hide (fun h => @pas_step s digitN k hkt h)
      have HT := hide (fun h => @pas_stop s digitN k h)
      have HC := hide (lexDigit_any (bat s k) (bat_lt _ _))
      generalize hq : digitN (bat s k) = q at *
      clear hq
      cases q
      · have HT2 := hide (unhide HT fun _ => rfl)
        clear HT HS
        go_wp2_with (rw [unhide Hk]; refine (unhide HC _).mono ?_; rintro e w ⟨rfl, rfl⟩)
        go_ret
        exact ⟨by rw [unhide HU, unhide HT2]; rfl, rfl⟩
      · have HS2 := hide (unhide HS rfl)
        clear HT HS
        go_wp2_with (rw [unhide Hk]; refine (unhide HC _).mono ?_; rintro e w ⟨rfl, rfl⟩)
        exact ⟨⟨k + 1, by omega, rfl, by rw [unhide HU]; exact unhide HS2⟩, by simp [intOf]; omega⟩
    · have hk' : k = s.size := by omega
      subst hk'
      have HT := hide (@pas_stop s digitN s.size (fun h => by omega))
      go_wp2_with fail
      go_ret
      exact ⟨by rw [unhide HU, unhide HT]; rfl, rfl⟩

set_option maxHeartbeats 400000 in
theorem closed_any (s : ByteArray) (k c : Nat) (hs : s.size ≤ 2000) (hc : c ≤ s.size) (w : World) :
    Calls Tryd.prog 22 #[.string s, .int .i64 (k : Int), .int .i64 (c : Int)] w fun e w' => e = .returned (.tuple #[.int .i64 ((if c = s.size then 0 else k : Nat) : Int), .int .i64 ((if c = s.size then s.size else c + 1 : Nat) : Int)]) ∧ w' = w := by
  by_cases h : c = s.size
  · subst h
    rw [if_pos rfl, if_pos rfl]
    go_enter Tryd.func22, Tryd.ntmps22
    go_wp2
    go_ret2
    exact ⟨rfl, rfl⟩
  · rw [if_neg h, if_neg h]
    have h1 : ((c : Int) == (s.size : Int)) = false := by rw [beq_eq_false_iff_ne]; omega
    go_enter Tryd.func22, Tryd.ntmps22
    go_wp2
    go_ret2
    exact ⟨rfl, rfl⟩
end Go.Proofs.YtljkendefdhklaaDoor
