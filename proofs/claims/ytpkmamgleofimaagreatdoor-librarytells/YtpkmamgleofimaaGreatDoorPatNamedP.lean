/- What pats.Named and the document's Named answer, for every text of at most a million bytes. -/
import Derived.Test.YtpkmamgleofimaaGreatDoorPatBaseM
import Derived.Laws.IdiomStrings
namespace Go.Proofs.YtpkmamgleofimaaGreatDoor
open Go.RowKit

theorem isEmpty_true (t : ByteArray) (h : t.size = 0) : t.toList.isEmpty = true := by
  rw [ByteArray.toList_eq, List.isEmpty_iff]; apply List.eq_nil_of_length_eq_zero; simpa using h
theorem isEmpty_false (t : ByteArray) (h : t.size ≠ 0) : t.toList.isEmpty = false := by
  rw [ByteArray.toList_eq]
  apply Bool.eq_false_iff.2
  intro e
  rw [List.isEmpty_iff] at e
  apply h
  have := congrArg List.length e
  simpa using this
theorem wordUp_step (s : ByteArray) (i : Nat) : wordUp s (i + 1) = (wordUp s i && (letterN (bat s i) || digitN (bat s i))) := rfl
theorem wordUp_stays (s : ByteArray) {i n : Nat} (h : i ≤ n) (hf : wordUp s i = false) : wordUp s n = false := by
  induction n with
  | zero => rw [← hf]; congr 1; omega
  | succ n ih =>
    rcases Nat.lt_or_ge i (n + 1) with h1 | h1
    · rw [wordUp_step, ih (by omega)]; rfl
    · rw [← hf]; congr 1; omega
set_option maxHeartbeats 400000 in
theorem named_any (s : ByteArray) (w : World) (hs : s.size ≤ maxLen) :
    Calls Tryz.prog 64 #[.string s] w fun e w' => e = .returned (.bool (named s)) ∧ w' = w := by
  unfold maxLen at hs
  have HN := hide (named_eq s)
  by_cases h0 : s.size = 0
  · have he := isEmpty_true s h0
    have HF : Hid (named s = false) := hide (by rw [unhide HN]; simp [h0])
    rw [unhide HF]
    go_enter Tryz.func64, Tryz.ntmps64
    go_wp2_with fail
    go_ret
    exact ⟨rfl, rfl⟩
  · have he := isEmpty_false s h0
    have hp : 0 < s.size := by omega
    by_cases h1 : 16 < s.size
    · have HF : Hid (named s = false) := hide (by rw [unhide HN]; simp; omega)
      rw [unhide HF]
      go_enter Tryz.func64, Tryz.ntmps64
      go_wp2_with fail
      go_ret
      exact ⟨rfl, rfl⟩
    · have h2 : s.size ≤ 16 := by omega
      have b0 := bat_at s 0 hp
      cases hl : letterN (bat s 0)
      · have HF : Hid (named s = false) := hide (by rw [unhide HN, hl]; simp)
        rw [unhide HF]
        have H0 := hide b0
        have HL := hide hl
        clear b0 hl
        go_enter Tryz.func64, Tryz.ntmps64
        go_wp2_with (go_at_call 91; rw [unhide H0]; refine (isLetter_any _ (bat_lt _ _) _).mono ?_; rintro e w ⟨rfl, rfl⟩; rw [unhide HL])
        go_ret
        exact ⟨rfl, rfl⟩
      · have HF : Hid (named s = wordUp s s.size) := hide (by rw [unhide HN, hl, decide_eq_true (show 1 ≤ s.size by omega), decide_eq_true h2]; rfl)
        rw [unhide HF]
        have H0 := hide b0
        have HL := hide hl
        clear b0 hl
        go_enter Tryz.func64, Tryz.ntmps64
        go_wp2_with (go_at_call 91; rw [unhide H0]; refine (isLetter_any _ (bat_lt _ _) _).mono ?_; rintro e w ⟨rfl, rfl⟩; rw [unhide HL])
        go_loop [19] (fun i => ∃ k : Nat, k ≤ s.size ∧ i = .int .i64 (k : Int) ∧ wordUp s k = true) (fun i => s.size - (intOf i).toNat)
        case atStart => exact ⟨0, by omega, rfl, rfl⟩
        case round =>
          obtain ⟨k, hk, rfl, hu⟩ := hrel
          have HU := hide hu
          clear hu
          rcases Nat.lt_or_ge k s.size with hkt | hkt
          · have bk := bat_at s k hkt
            have Hk := hide bk
            clear bk
            have HS := hide (wordUp_step s k)
            cases hl : letterN (bat s k)
            · cases hd : digitN (bat s k)
              · have HW : Hid (wordUp s s.size = false) := hide (wordUp_stays s (show k + 1 ≤ s.size by omega) (by rw [unhide HS, hl, hd]; simp))
                have HL := hide hl
                have HD := hide hd
                clear hl hd
                go_wp2_with (first | (go_at_call 91; rw [unhide Hk]; refine (isLetter_any _ (bat_lt _ _) _).mono ?_; rintro e w ⟨rfl, rfl⟩; rw [unhide HL]) | (go_at_call 92; rw [unhide Hk]; refine (isDigit_any _ (bat_lt _ _) _).mono ?_; rintro e w ⟨rfl, rfl⟩; rw [unhide HD]))
                go_ret
                exact ⟨by rw [unhide HW]; rfl, rfl⟩
              · have HW : Hid (wordUp s (k + 1) = true) := hide (by rw [unhide HS, unhide HU, hl, hd]; rfl)
                have HL := hide hl
                have HD := hide hd
                clear hl hd
                go_wp2_with (first | (go_at_call 91; rw [unhide Hk]; refine (isLetter_any _ (bat_lt _ _) _).mono ?_; rintro e w ⟨rfl, rfl⟩; rw [unhide HL]) | (go_at_call 92; rw [unhide Hk]; refine (isDigit_any _ (bat_lt _ _) _).mono ?_; rintro e w ⟨rfl, rfl⟩; rw [unhide HD]))
                exact ⟨⟨k + 1, by omega, rfl, unhide HW⟩, by simp [intOf]; omega⟩
            · have HW : Hid (wordUp s (k + 1) = true) := hide (by rw [unhide HS, unhide HU, hl]; rfl)
              have HL := hide hl
              clear hl
              go_wp2_with (first | (go_at_call 91; rw [unhide Hk]; refine (isLetter_any _ (bat_lt _ _) _).mono ?_; rintro e w ⟨rfl, rfl⟩; rw [unhide HL]))
              exact ⟨⟨k + 1, by omega, rfl, unhide HW⟩, by simp [intOf]; omega⟩
          · have hk' : k = s.size := by omega
            subst hk'
            go_wp2_with fail
            go_ret
            exact ⟨by rw [unhide HU]; rfl, rfl⟩
end Go.Proofs.YtpkmamgleofimaaGreatDoor
