/- What pats.Named and the document's Named answer, for every text of at most a million bytes. -/
import Derived.Test.YtpphjddljngkmaaDoorPatBaseP
import Derived.Laws.IdiomStrings
namespace Go.Proofs.YtpphjddljngkmaaDoor
open Go.RowKit

theorem isEmpty_true (t : ByteArray) (h : t.size = 0) : t.toList.isEmpty = true := by
  rw [ByteArray.toList_eq, List.isEmpty_iff]; apply List.eq_nil_of_length_eq_zero; simpa using h
theorem isEmpty_false (t : ByteArray) (h : t.size ≠ 0) : t.toList.isEmpty = false := by
  rw [ByteArray.toList_eq]
  apply Bool.eq_false_iff.2
  intro e
  rw [List.isEmpty_iff] at e
  apply h
  have := congrArg List.length e
  simpa using this
theorem wordUp_step (s : ByteArray) (i : Nat) : wordUp s (i + 1) = (wordUp s i && (letterN (bat s i) || digitN (bat s i))) := rfl
theorem wordUp_stays (s : ByteArray) {i n : Nat} (h : i ≤ n) (hf : wordUp s i = false) : wordUp s n = false := by
  induction n with
  | zero => rw [← hf]; congr 1; omega
  | succ n ih =>
    rcases Nat.lt_or_ge i (n + 1) with h1 | h1
    · rw [wordUp_step, ih (by omega)]; rfl
    · rw [← hf]; congr 1; omega
set_option maxHeartbeats 400000 in
theorem named_any (s : ByteArray) (w : World) (hs : s.size ≤ maxLen) :
    Calls Tryd.prog 49 #[.string s] w fun e w' => e = .returned (.bool (named s)) ∧ w' = w := by
  unfold maxLen at hs
  have HN := hide (named_eq s)
  by_cases h0 : s.size = 0
  · have he := isEmpty_true s h0
    have HF : Hid (named s = false) := hide (by rw [unhide HN]; simp [h0])
    rw [unhide HF]
    go_enter Tryd.func49, Tryd.ntmps49
    go_wp2_with fail
    go_ret
    exact ⟨rfl, rfl⟩
  · have he := isEmpty_false s h0
    have hp : 0 < s.size := by omega
    by_cases h1 : 16 < s.size
    · have HF : Hid (named s = false) := hide (by rw [unhide HN]; simp; omega)
      rw [unhide HF]
      go_enter Tryd.func49, Tryd.ntmps49
      go_wp2_with fail
      go_ret
      exact ⟨rfl, rfl⟩
    · have h2 : s.size ≤ 16 := by omega
      have b0 := bat_at s 0 hp
      cases hl : letterN (bat s 0)
      · have HF : Hid (named s = false) := hide (by rw [unhide HN, hl]; simp)
        rw [unhide HF]
        have H0 := hide b0
        have HL := hide hl
        clear b0 hl
        go_enter Tryd.func49, Tryd.ntmps49
        go_wp2_with (go_at_call 61; rw [unhide H0]; refine (isLetter_any _ (bat_lt _ _) _).mono ?_; rintro e w ⟨rfl, rfl⟩; rw [unhide HL])
        go_ret
        exact ⟨rfl, rfl⟩
      · have HF : Hid (named s = wordUp s s.size) := hide (by rw [unhide HN, hl, decide_eq_true (show 1 ≤ s.size by omega), decide_eq_true h2]; rfl)
        rw [unhide HF]
        have H0 := hide b0
        have HL := hide hl
        clear b0 hl
        go_enter Tryd.func49, Tryd.ntmps49
        go_wp2_with (go_at_call 61; rw [unhide H0]; refine (isLetter_any _ (bat_lt _ _) _).mono ?_; rintro e w ⟨rfl, rfl⟩; rw [unhide HL])
        go_loop [19] (fun i => ∃ k : Nat, k ≤ s.size ∧ i = .int .i64 (k : Int) ∧ wordUp s k = true) (fun i => s.size - (intOf i).toNat)
        case atStart => exact ⟨0, by omega, rfl, rfl⟩
        case round =>
          obtain ⟨k, hk, rfl, hu⟩ := hrel
          have HU := hide hu
          clear hu
          rcases Nat.lt_or_ge k s.size with hkt | hkt
          · have bk := bat_at s k hkt
            have Hk := hide bk
            clear bk
            have HS := hide (wordUp_step s k)
            cases hl : letterN (bat s k)
            · cases hd : digitN (bat s k)
              · have HW : Hid (wordUp s s.size = false) := hide (wordUp_stays s (show k + 1 ≤ s.size by omega) (by rw [unhide HS, hl, hd]; simp))
                have HL := hide hl
                have HD := hide hd
                clear hl hd
                go_wp2_with (first | (go_at_call 61; rw [unhide Hk]; refine (isLetter_any _ (bat_lt _ _) _).mono ?_; rintro e w ⟨rfl, rfl⟩; rw [unhide HL]) | (go_at_call 62; rw [unhide Hk]; refine (isDigit_any _ (bat_lt _ _) _).mono ?_; rintro e w ⟨rfl, rfl⟩; rw [unhide HD]))
                go_ret
                exact ⟨by rw [unhide HW]; rfl, rfl⟩
              · have HW : Hid (wordUp s (k + 1) = true) := hide (by rw [unhide HS, unhide HU, hl, hd]; rfl)
                have HL := hide hl
                have HD := hide hd
                clear hl hd
                go_wp2_with (first | (go_at_call 61; rw [unhide Hk]; refine (isLetter_any _ (bat_lt _ _) _).mono ?_; rintro e w ⟨rfl, rfl⟩; rw [unhide HL]) | (go_at_call 62; rw [unhide Hk]; refine (isDigit_any _ (bat_lt _ _) _).mono ?_; rintro e w ⟨rfl, rfl⟩; rw [unhide HD]))
                exact ⟨⟨k + 1, by omega, rfl, unhide HW⟩, by simp [intOf]; omega⟩
            · have HW : Hid (wordUp s (k + 1) = true) := hide (by rw [unhide HS, unhide HU, hl]; rfl)
              have HL := hide hl
              clear hl
              go_wp2_with (first | (go_at_call 61; rw [unhide Hk]; refine (isLetter_any _ (bat_lt _ _) _).mono ?_; rintro e w ⟨rfl, rfl⟩; rw [unhide HL]))
              exact ⟨⟨k + 1, by omega, rfl, unhide HW⟩, by simp [intOf]; omega⟩
          · have hk' : k = s.size := by omega
            subst hk'
            go_wp2_with fail
            go_ret
            exact ⟨by rw [unhide HU]; rfl, rfl⟩
theorem named_loop (s : ByteArray) (h : s.size ≤ 16) (h1 : 1 ≤ s.size) (hw : letterN (bat s 0) = true) (hu : wordUp s s.size = true) : named s = true := by
  rw [named_eq, hw, hu]; simp [h, h1]
theorem named_not (s : ByteArray) (k : Nat) (hk : k < s.size) (hl : letterN (bat s k) = false) (hd : k = 0 ∨ digitN (bat s k) = false) : named s = false := by
  rw [named_eq]
  rcases hd with rfl | hd
  · rw [hl]; simp
  · rw [wordUp_stays s (show k + 1 ≤ s.size by omega) (by rw [wordUp_step, hl, hd]; simp)]; simp
set_option maxHeartbeats 400000 in
theorem refNamed_any (s : ByteArray) (w : World) (hs : s.size ≤ maxLen) :
    Calls Tryd.prog 25 #[.string s] w fun e w' => e = .returned (.bool (named s)) ∧ Below w.heap.size w w' := by
  unfold maxLen at hs
  have hcv := fun W => run_bytes_of_string (P := Tryd.prog) W 9 74 5 s Tryd.underlying9 Tryd.underlying74 Tryd.underlying5
  go_enter Tryd.func25, Tryd.ntmps25
  go_wp2
  generalize grownCap w s.size 0 5 = G
  obtain ⟨W0, hW0⟩ : ∃ W0, W0 = (w.alloc (.cells (bytesRow s G) 5 ((bytesRow s G).size, (bytesRow s G).size + 1))).drew := ⟨_, rfl⟩
  rw [← hW0]
  have q2 : W0.heap[w.heap.size]? = some (.cells (bytesRow s G) 5 ((bytesRow s G).size, (bytesRow s G).size + 1)) := by rw [hW0, heap_drew]; exact at_new rfl
  have QB : Hid (Below w.heap.size w W0) := hide (by rw [hW0]; exact (ba _).drew)
  have HB := hide (bytesRow_at s G)
  clear hW0 hcv
  generalize bytesRow s G = R at *
  have Q2 := hide q2
  clear q2
  go_loop [10] (fun i => ∃ k : Nat, k ≤ s.size ∧ i = .int .i64 (k : Int) ∧ wordUp s k = true ∧ (0 < k → letterN (bat s 0) = true)) (fun i => s.size - (intOf i).toNat)
  case atStart => exact ⟨0, by omega, rfl, rfl, fun h => by omega⟩
  case round =>
    obtain ⟨k, hk, rfl, hu, hf⟩ := hrel
    have HU := hide hu
    have HF := hide hf
    clear hu hf
    rcases Nat.lt_or_ge k s.size with hlt | hge
    · have c2 : W0.cell? ⟨w.heap.size, k, none⟩ = some (.int .u8 (bat s k : Int)) := by rw [cell_of_row W0 _ _ _ _ _ (unhide Q2), unhide HB k hlt, ← bat_at s k hlt]; rfl
      have hb := bat_lt s k
      have HNot := hide (named_not s k hlt)
      have HS := hide (wordUp_step s k)
      have HL : Hid (letterN (bat s k) = decide (65 ≤ bat s k ∧ bat s k ≤ 90)) := hide (rfl)
      have HD : Hid (digitN (bat s k) = decide (48 ≤ bat s k ∧ bat s k ≤ 57)) := hide (rfl)
      have H0 : Hid (∀ x, bat s k = x → k = 0 → bat s 0 = x) := hide (fun x h e => by rw [← h, e])
      generalize hbk : bat s k = b at *
      have HBK := hide hbk
      clear hbk
      have hc : (65 ≤ b ∧ b ≤ 90) ∨ (48 ≤ b ∧ b ≤ 57 ∧ 0 < k) ∨ (48 ≤ b ∧ b ≤ 57 ∧ k = 0) ∨ b < 48 ∨ (57 < b ∧ b < 65) ∨ 90 < b := by omega
      rcases hc with ⟨h1, h2⟩ | ⟨h1, h2, h3⟩ | ⟨h1, h2, h3⟩ | h | ⟨h1, h2⟩ | h
      · have HW : Hid (wordUp s (k + 1) = true) := hide (by rw [unhide HS, unhide HU, unhide HL, decide_eq_true ⟨h1, h2⟩]; rfl)
        have HX : Hid (letterN (bat s 0) = true) := hide (by
          rcases Nat.eq_zero_or_pos k with h | h
          · rw [unhide H0 b rfl h, unhide HL, decide_eq_true ⟨h1, h2⟩]
          · exact unhide HF h)
        have h3 : 48 ≤ b := by omega
        have h4 : ¬ b ≤ 57 := by omega
        go_wp2
        exact ⟨⟨k + 1, by omega, rfl, unhide HW, fun _ => unhide HX⟩, by simp [intOf]; omega⟩
      · have HW : Hid (wordUp s (k + 1) = true) := hide (by rw [unhide HS, unhide HU, unhide HD, decide_eq_true ⟨h1, h2⟩]; simp)
        have h4 : ¬ 65 ≤ b := by omega
        go_wp2
        exact ⟨⟨k + 1, by omega, rfl, unhide HW, fun _ => unhide HF h3⟩, by simp [intOf]; omega⟩
      · have HW : Hid (named s = false) := hide (unhide HNot (by rw [unhide HL]; exact decide_eq_false (by omega)) (.inl h3))
        have h4 : ¬ 65 ≤ b := by omega
        subst h3
        go_wp2
        go_ret
        exact ⟨by rw [unhide HW]; rfl, unhide QB⟩
      · have HW : Hid (named s = false) := hide (unhide HNot (by rw [unhide HL]; exact decide_eq_false (by omega)) (.inr (by rw [unhide HD]; exact decide_eq_false (by omega))))
        have h4 : ¬ 65 ≤ b := by omega
        go_wp2
        go_ret
        exact ⟨by rw [unhide HW]; rfl, unhide QB⟩
      · have HW : Hid (named s = false) := hide (unhide HNot (by rw [unhide HL]; exact decide_eq_false (by omega)) (.inr (by rw [unhide HD]; exact decide_eq_false (by omega))))
        have h4 : 48 ≤ b := by omega
        go_wp2
        go_ret
        exact ⟨by rw [unhide HW]; rfl, unhide QB⟩
      · have HW : Hid (named s = false) := hide (unhide HNot (by rw [unhide HL]; exact decide_eq_false (by omega)) (.inr (by rw [unhide HD]; exact decide_eq_false (by omega))))
        have h4 : 48 ≤ b := by omega
        have h5 : 65 ≤ b := by omega
        have h6 : ¬ b ≤ 57 := by omega
        have h7 : ¬ b ≤ 90 := by omega
        have h8 : ¬ (b : Int) ≤ 90 := by omega
        have h9 : ¬ (b : Int) ≤ 57 := by omega
        have e8 : decide ((b : Int) ≤ 90) = false := decide_eq_false h8
        have e9 : decide ((b : Int) ≤ 57) = false := decide_eq_false h9
        clear h
        go_wp2
        go_ret
        exact ⟨by rw [unhide HW]; rfl, unhide QB⟩
    · have hk' : k = s.size := by omega
      subst hk'
      rcases Nat.eq_zero_or_pos s.size with h0 | h0
      · have HW : Hid (named s = false) := hide (by rw [named_eq, h0]; rfl)
        have h1 : ¬ (1 : Int) ≤ (s.size : Int) := by omega
        go_wp2
        go_ret
        exact ⟨by rw [unhide HW]; rfl, unhide QB⟩
      · have HW : Hid (named s = decide ((s.size : Int) ≤ 16)) := hide (by
          rcases Nat.lt_or_ge 16 s.size with h | h
          · rw [named_eq, decide_eq_false (show ¬ s.size ≤ 16 by omega), decide_eq_false (show ¬ (s.size : Int) ≤ 16 by omega)]; simp
          · rw [named_loop s h h0 (unhide HF h0) (unhide HU), decide_eq_true (show (s.size : Int) ≤ 16 by omega)])
        have h1 : (1 : Int) ≤ (s.size : Int) := by omega
        go_wp2
        go_ret
        exact ⟨by rw [unhide HW]; rfl, unhide QB⟩
end Go.Proofs.YtpphjddljngkmaaDoor
