/- Which token begins at a place. -/
import Derived.Test.YtljkendefdhklaaDoorLexWalkB
import Derived.Test.YtljkendefdhklaaDoorLexLib
namespace Go.Proofs.YtljkendefdhklaaDoor
open Go.RowKit

def signsB : ByteArray := ⟨#[61, 63, 38, 43, 45, 42, 47, 37, 40, 41, 60, 62, 44, 58, 36]⟩
theorem sign_all : (List.range 256).all (fun b => decide (0 ≤ Lib.indexByte signsB.data.toList b.toUInt8) == signN b) = true := by kernel_rfl
theorem sign_is (b : Nat) (hb : b < 256) : decide (0 ≤ Lib.indexByte signsB.data.toList b.toUInt8) = signN b := by
  have := List.all_eq_true.1 sign_all b (List.mem_range.2 hb)
  exact beq_iff_eq.1 this

theorem ite_one {a b : Nat × Nat × ByteArray} {c : Prop} [Decidable c] : (if c then a else b).1 = if c then a.1 else b.1 := by split <;> rfl
theorem ite_two {a b : Nat × Nat × ByteArray} {c : Prop} [Decidable c] : (if c then a else b).2.1 = if c then a.2.1 else b.2.1 := by split <;> rfl

set_option maxRecDepth 10000 in
set_option maxHeartbeats 800000 in
theorem next_any (s : ByteArray) (i : Nat) (hs : s.size ≤ 2000) (hi : i < s.size) (w : World) :
    Calls Tryd.prog 13 #[.string s, .int .i64 (i : Int)] w fun e w' => e = .returned (.tuple #[.int .i64 ((tk s i).1 : Int), .int .i64 ((tk s i).2.1 : Int)]) ∧ w' = w := by
  have bk := bat_at s i hi
  have hx : ((s[i]).toNat : Int) = (bat s i : Int) := by rw [bk]
  have H1 := hide (lexLetter_any (bat s i) (bat_lt _ _) w)
  have H2 := hide (lexDigit_any (bat s i) (bat_lt _ _) w)
  have H3 := hide (passOfWord_any s i hs (by omega) w)
  have H4 := hide (passDigit_any s i hs (by omega) w)
  have H5 := hide (closingQuote_any s i hs hi w)
  have H6 := hide (closingBracket_any s i hs hi w)
  have lq := cq_le s (i + 1) (by omega)
  have lb := cb_le s (i + 1) (by omega)
  have H7 := hide (closed_any s 3 (cq s (i + 1)) hs lq.2 w)
  have H8 := hide (closed_any s 4 (cb s (i + 1)) hs lb.2 w)
  have H9 := hide (hasGives_any s i w hs (by omega))
  have HI := hide (Tryd.strings_IndexByte signsB (bat s i : Int) w)
  have HS := hide (sign_is (bat s i) (bat_lt _ _))
  have hlt := bat_lt s i
  unfold tk
  generalize cq s (i + 1) = cQ at *
  generalize cb s (i + 1) = cB at *
  generalize pas s wordN i = pW at *
  generalize pas s digitN i = pD at *
  cases h1 : letterN (bat s i) with
  | true =>
    rw [if_pos rfl]
    rw [h1] at H1
    clear h1 lq lb bk
    generalize bat s i = b at *
    go_enter Tryd.func13, Tryd.ntmps13
    go_wp2_with (first | (go_at_call 19; refine (unhide H1).mono ?_; rintro e w ⟨rfl, rfl⟩) | (go_at_call 11; refine (unhide H3).mono ?_; rintro e w ⟨rfl, rfl⟩))
    go_ret2
    exact ⟨rfl, rfl⟩
  | false =>
    rw [if_neg (by decide)]
    rw [h1] at H1
    cases h2 : digitN (bat s i) with
    | true =>
      rw [if_pos rfl]
      rw [h2] at H2
      clear h1 h2 lq lb bk
      generalize bat s i = b at *
      go_enter Tryd.func13, Tryd.ntmps13
      go_wp2_with (first | (go_at_call 19; refine (unhide H1).mono ?_; rintro e w ⟨rfl, rfl⟩) | (go_at_call 21; refine (unhide H2).mono ?_; rintro e w ⟨rfl, rfl⟩) | (go_at_call 11; refine (unhide H4).mono ?_; rintro e w ⟨rfl, rfl⟩))
      go_ret2
      exact ⟨rfl, rfl⟩
    | false =>
      rw [if_neg (by decide)]
      rw [h2] at H2
      by_cases h3 : bat s i = 39
      · rw [if_pos h3]
        rw [ite_one, ite_two]
        dsimp only
        rw [h3] at hx H1 H2
        clear h1 h2 h3 lq lb bk HI HS H9 H8 H6
        generalize (if cQ = s.size then 0 else 3 : Nat) = A at *
        generalize (if cQ = s.size then s.size else cQ + 1 : Nat) = B at *
        go_enter Tryd.func13, Tryd.ntmps13
        go_wp2_with (first | (go_at_call 19; refine (unhide H1).mono ?_; rintro e w ⟨rfl, rfl⟩) | (go_at_call 21; refine (unhide H2).mono ?_; rintro e w ⟨rfl, rfl⟩) | (go_at_call 23; refine (unhide H5).mono ?_; rintro e w ⟨rfl, rfl⟩) | (go_at_call 22; refine (unhide H7).mono ?_; rintro e w ⟨rfl, rfl⟩))
        go_ret2
        exact ⟨rfl, rfl⟩
      · rw [if_neg h3]
        have e3 : ((bat s i : Int) == 39) = false := by rw [beq_eq_false_iff_ne]; omega
        by_cases h4 : bat s i = 91
        · rw [if_pos h4]
          rw [ite_one, ite_two]
          dsimp only
          rw [h4] at hx H1 H2 e3
          clear h1 h2 h3 h4 lq lb bk HI HS H9 H7 H5
          generalize (if cB = s.size then 0 else 4 : Nat) = A at *
          generalize (if cB = s.size then s.size else cB + 1 : Nat) = B at *
          go_enter Tryd.func13, Tryd.ntmps13
          go_wp2_with (first | (go_at_call 19; refine (unhide H1).mono ?_; rintro e w ⟨rfl, rfl⟩) | (go_at_call 21; refine (unhide H2).mono ?_; rintro e w ⟨rfl, rfl⟩) | (go_at_call 24; refine (unhide H6).mono ?_; rintro e w ⟨rfl, rfl⟩) | (go_at_call 22; refine (unhide H8).mono ?_; rintro e w ⟨rfl, rfl⟩))
          go_ret2
          exact ⟨rfl, rfl⟩
        · rw [if_neg h4]
          have e4 : ((bat s i : Int) == 91) = false := by rw [beq_eq_false_iff_ne]; omega
          by_cases h5 : bat s i = 58 ∧ bat s (i + 1) = 61
          · rw [if_pos h5]
            rw [decide_eq_true h5] at H9
            clear h1 h2 h3 h4 h5 lq lb bk HI HS H8 H6 H7 H5
            generalize bat s i = b at *
            go_enter Tryd.func13, Tryd.ntmps13
            go_wp2_with (first | (go_at_call 19; refine (unhide H1).mono ?_; rintro e w ⟨rfl, rfl⟩) | (go_at_call 21; refine (unhide H2).mono ?_; rintro e w ⟨rfl, rfl⟩) | (go_at_call 25; refine (unhide H9).mono ?_; rintro e w ⟨rfl, rfl⟩))
            go_ret2
            exact ⟨rfl, rfl⟩
          · rw [if_neg h5]
            rw [decide_eq_false h5] at H9
            have HI2 := hide (show Calls Tryd.prog 26 #[.string ⟨#[61, 63, 38, 43, 45, 42, 47, 37, 40, 41, 60, 62, 44, 58, 36]⟩, .int .u8 (bat s i : Int)] w fun e w' => e = .returned (.int .i64 (Lib.indexByte signsB.data.toList (bat s i).toUInt8)) ∧ w' = w from unhide HI)
            generalize Lib.indexByte signsB.data.toList (bat s i).toUInt8 = ix at *
            cases h6 : signN (bat s i) with
            | true =>
              rw [if_pos rfl]
              have hix : 0 ≤ ix := of_decide_eq_true (by rw [unhide HS]; exact h6)
              clear h1 h2 h3 h4 h5 h6 lq lb bk HI HS H8 H6 H7 H5
              generalize bat s i = b at *
              go_enter Tryd.func13, Tryd.ntmps13
              go_wp2_with (first | (go_at_call 19; refine (unhide H1).mono ?_; rintro e w ⟨rfl, rfl⟩) | (go_at_call 21; refine (unhide H2).mono ?_; rintro e w ⟨rfl, rfl⟩) | (go_at_call 25; refine (unhide H9).mono ?_; rintro e w ⟨rfl, rfl⟩) | (go_at_call 26; refine (unhide HI2).mono ?_; rintro e w ⟨rfl, rfl⟩))
              go_ret2
              exact ⟨rfl, rfl⟩
            | false =>
              rw [if_neg (by decide)]
              have hix : ¬ 0 ≤ ix := of_decide_eq_false (by rw [unhide HS]; exact h6)
              clear h1 h2 h3 h4 h5 h6 lq lb bk HI HS H8 H6 H7 H5
              generalize bat s i = b at *
              go_enter Tryd.func13, Tryd.ntmps13
              go_wp2_with (first | (go_at_call 19; refine (unhide H1).mono ?_; rintro e w ⟨rfl, rfl⟩) | (go_at_call 21; refine (unhide H2).mono ?_; rintro e w ⟨rfl, rfl⟩) | (go_at_call 25; refine (unhide H9).mono ?_; rintro e w ⟨rfl, rfl⟩) | (go_at_call 26; refine (unhide HI2).mono ?_; rintro e w ⟨rfl, rfl⟩))
              go_ret2
              exact ⟨rfl, rfl⟩
end Go.Proofs.YtljkendefdhklaaDoor
