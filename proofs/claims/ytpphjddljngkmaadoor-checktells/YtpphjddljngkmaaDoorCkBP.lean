/- The checker: labels that lead out, functions of the language. -/
import Derived.Test.YtpphjddljngkmaaDoorCkAP
namespace Go.Proofs.YtpphjddljngkmaaDoor
open Go.RowKit

theorem neL {s : ByteArray} {l : List UInt8} (h : s ≠ ⟨l.toArray⟩) : (s.toList == l) = false := by
  rw [beq_eq_false_iff_ne]
  intro e
  apply h
  rw [ByteArray.toList_eq] at e
  apply ByteArray.ext
  rw [← Array.toList_inj, e]
def tEnd : ByteArray := ⟨#[69, 78, 68]⟩
def tRet : ByteArray := ⟨#[82, 69, 84, 85, 82, 78]⟩
def tFre : ByteArray := ⟨#[70, 82, 69, 84, 85, 82, 78]⟩
def lout (s : ByteArray) : Bool := decide (s = tEnd) || decide (s = tRet) || decide (s = tFre)
set_option maxRecDepth 100000 in
set_option maxHeartbeats 4000000 in
theorem leadsOut_any (s : ByteArray) (w : World) : Calls Tryd.prog 33 #[.string s] w fun e w' => e = .returned (.bool (lout s)) ∧ w' = w := by
  by_cases h0 : s = ⟨#[69, 78, 68]⟩
  · subst h0
    go_enter Tryd.func33, Tryd.ntmps33
    go_wp2_with fail
    go_ret
    exact ⟨rfl, rfl⟩
  · have q0 := neL h0
    by_cases h1 : s = ⟨#[82, 69, 84, 85, 82, 78]⟩
    · subst h1
      clear h0
      go_enter Tryd.func33, Tryd.ntmps33
      go_wp2_with fail
      go_ret
      exact ⟨rfl, rfl⟩
    · have q1 := neL h1
      by_cases h2 : s = ⟨#[70, 82, 69, 84, 85, 82, 78]⟩
      · subst h2
        clear h0 h1
        go_enter Tryd.func33, Tryd.ntmps33
        go_wp2_with fail
        go_ret
        exact ⟨rfl, rfl⟩
      · have q2 := neL h2
        have HE : Hid (lout s = false) := hide (by unfold lout tEnd tRet tFre; rw [decide_eq_false h0, decide_eq_false h1, decide_eq_false h2]; rfl)
        clear h0 h1 h2
        go_enter Tryd.func33, Tryd.ntmps33
        go_wp2_with fail
        go_ret
        exact ⟨by rw [unhide HE]; rfl, rfl⟩
/-- How many arguments a function of the language takes; below 0: there is none. -/
def blt (s : ByteArray) : Int :=
  if s = ⟨#[83, 73, 90, 69]⟩ then 1 else
  if s = ⟨#[84, 82, 73, 77]⟩ then 1 else
  if s = ⟨#[82, 69, 86, 69, 82, 83, 69]⟩ then 1 else
  if s = ⟨#[82, 79, 79, 84]⟩ then 1 else
  if s = ⟨#[73, 78, 84, 69, 71, 69, 82]⟩ then 1 else
  if s = ⟨#[68, 85, 80, 76]⟩ then 2 else
  if s = ⟨#[82, 79, 84, 65, 84, 69]⟩ then 2 else
  if s = ⟨#[67, 79, 85, 78, 84]⟩ then 2 else
  if s = ⟨#[69, 81]⟩ then 2 else
  if s = ⟨#[78, 69]⟩ then 2 else
  if s = ⟨#[76, 84]⟩ then 2 else
  if s = ⟨#[76, 69]⟩ then 2 else
  if s = ⟨#[71, 84]⟩ then 2 else
  if s = ⟨#[71, 69]⟩ then 2 else
  if s = ⟨#[73, 68, 69, 78, 84]⟩ then 2 else
  if s = ⟨#[68, 73, 70, 70, 69, 82]⟩ then 2 else
  if s = ⟨#[76, 71, 84]⟩ then 2 else
  if s = ⟨#[82, 69, 77, 68, 82]⟩ then 2 else
  if s = ⟨#[80, 79, 87, 69, 82]⟩ then 2 else
  if s = ⟨#[71, 67, 68]⟩ then 2 else
  if s = ⟨#[66, 65, 83, 69]⟩ then 2 else
  if s = ⟨#[85, 78, 66, 65, 83, 69]⟩ then 2 else
  if s = ⟨#[82, 69, 80, 76, 65, 67, 69]⟩ then 3 else
  if s = ⟨#[83, 85, 66, 83, 84, 82]⟩ then 3 else
  if s = ⟨#[76, 80, 65, 68]⟩ then 3 else
  if s = ⟨#[82, 80, 65, 68]⟩ then 3 else
  -1
set_option maxRecDepth 100000 in
set_option maxHeartbeats 4000000 in
theorem builtin_any (s : ByteArray) (w : World) : Calls Tryd.prog 6 #[.string s] w fun e w' => e = .returned (.int .i64 (blt s)) ∧ w' = w := by
  by_cases h0 : s = ⟨#[83, 73, 90, 69]⟩
  · subst h0
    go_enter Tryd.func6, Tryd.ntmps6
    go_wp2_with fail
    go_ret
    exact ⟨rfl, rfl⟩
  · have q0 := neL h0
    by_cases h1 : s = ⟨#[84, 82, 73, 77]⟩
    · subst h1
      clear h0
      go_enter Tryd.func6, Tryd.ntmps6
      go_wp2_with fail
      go_ret
      exact ⟨rfl, rfl⟩
    · have q1 := neL h1
      by_cases h2 : s = ⟨#[82, 69, 86, 69, 82, 83, 69]⟩
      · subst h2
        clear h0 h1
        go_enter Tryd.func6, Tryd.ntmps6
        go_wp2_with fail
        go_ret
        exact ⟨rfl, rfl⟩
      · have q2 := neL h2
        by_cases h3 : s = ⟨#[82, 79, 79, 84]⟩
        · subst h3
          clear h0 h1 h2
          go_enter Tryd.func6, Tryd.ntmps6
          go_wp2_with fail
          go_ret
          exact ⟨rfl, rfl⟩
        · have q3 := neL h3
          by_cases h4 : s = ⟨#[73, 78, 84, 69, 71, 69, 82]⟩
          · subst h4
            clear h0 h1 h2 h3
            go_enter Tryd.func6, Tryd.ntmps6
            go_wp2_with fail
            go_ret
            exact ⟨rfl, rfl⟩
          · have q4 := neL h4
            by_cases h5 : s = ⟨#[68, 85, 80, 76]⟩
            · subst h5
              clear h0 h1 h2 h3 h4
              go_enter Tryd.func6, Tryd.ntmps6
              go_wp2_with fail
              go_ret
              exact ⟨rfl, rfl⟩
            · have q5 := neL h5
              by_cases h6 : s = ⟨#[82, 79, 84, 65, 84, 69]⟩
              · subst h6
                clear h0 h1 h2 h3 h4 h5
                go_enter Tryd.func6, Tryd.ntmps6
                go_wp2_with fail
                go_ret
                exact ⟨rfl, rfl⟩
              · have q6 := neL h6
                by_cases h7 : s = ⟨#[67, 79, 85, 78, 84]⟩
                · subst h7
                  clear h0 h1 h2 h3 h4 h5 h6
                  go_enter Tryd.func6, Tryd.ntmps6
                  go_wp2_with fail
                  go_ret
                  exact ⟨rfl, rfl⟩
                · have q7 := neL h7
                  by_cases h8 : s = ⟨#[69, 81]⟩
                  · subst h8
                    clear h0 h1 h2 h3 h4 h5 h6 h7
                    go_enter Tryd.func6, Tryd.ntmps6
                    go_wp2_with fail
                    go_ret
                    exact ⟨rfl, rfl⟩
                  · have q8 := neL h8
                    by_cases h9 : s = ⟨#[78, 69]⟩
                    · subst h9
                      clear h0 h1 h2 h3 h4 h5 h6 h7 h8
                      go_enter Tryd.func6, Tryd.ntmps6
                      go_wp2_with fail
                      go_ret
                      exact ⟨rfl, rfl⟩
                    · have q9 := neL h9
                      by_cases h10 : s = ⟨#[76, 84]⟩
                      · subst h10
                        clear h0 h1 h2 h3 h4 h5 h6 h7 h8 h9
                        go_enter Tryd.func6, Tryd.ntmps6
                        go_wp2_with fail
                        go_ret
                        exact ⟨rfl, rfl⟩
                      · have q10 := neL h10
                        by_cases h11 : s = ⟨#[76, 69]⟩
                        · subst h11
                          clear h0 h1 h2 h3 h4 h5 h6 h7 h8 h9 h10
                          go_enter Tryd.func6, Tryd.ntmps6
                          go_wp2_with fail
                          go_ret
                          exact ⟨rfl, rfl⟩
                        · have q11 := neL h11
                          by_cases h12 : s = ⟨#[71, 84]⟩
                          · subst h12
                            clear h0 h1 h2 h3 h4 h5 h6 h7 h8 h9 h10 h11
                            go_enter Tryd.func6, Tryd.ntmps6
                            go_wp2_with fail
                            go_ret
                            exact ⟨rfl, rfl⟩
                          · have q12 := neL h12
                            by_cases h13 : s = ⟨#[71, 69]⟩
                            · subst h13
                              clear h0 h1 h2 h3 h4 h5 h6 h7 h8 h9 h10 h11 h12
                              go_enter Tryd.func6, Tryd.ntmps6
                              go_wp2_with fail
                              go_ret
                              exact ⟨rfl, rfl⟩
                            · have q13 := neL h13
                              by_cases h14 : s = ⟨#[73, 68, 69, 78, 84]⟩
                              · subst h14
                                clear h0 h1 h2 h3 h4 h5 h6 h7 h8 h9 h10 h11 h12 h13
                                go_enter Tryd.func6, Tryd.ntmps6
                                go_wp2_with fail
                                go_ret
                                exact ⟨rfl, rfl⟩
                              · have q14 := neL h14
                                by_cases h15 : s = ⟨#[68, 73, 70, 70, 69, 82]⟩
                                · subst h15
                                  clear h0 h1 h2 h3 h4 h5 h6 h7 h8 h9 h10 h11 h12 h13 h14
                                  go_enter Tryd.func6, Tryd.ntmps6
                                  go_wp2_with fail
                                  go_ret
                                  exact ⟨rfl, rfl⟩
                                · have q15 := neL h15
                                  by_cases h16 : s = ⟨#[76, 71, 84]⟩
                                  · subst h16
                                    clear h0 h1 h2 h3 h4 h5 h6 h7 h8 h9 h10 h11 h12 h13 h14 h15
                                    go_enter Tryd.func6, Tryd.ntmps6
                                    go_wp2_with fail
                                    go_ret
                                    exact ⟨rfl, rfl⟩
                                  · have q16 := neL h16
                                    by_cases h17 : s = ⟨#[82, 69, 77, 68, 82]⟩
                                    · subst h17
                                      clear h0 h1 h2 h3 h4 h5 h6 h7 h8 h9 h10 h11 h12 h13 h14 h15 h16
                                      go_enter Tryd.func6, Tryd.ntmps6
                                      go_wp2_with fail
                                      go_ret
                                      exact ⟨rfl, rfl⟩
                                    · have q17 := neL h17
                                      by_cases h18 : s = ⟨#[80, 79, 87, 69, 82]⟩
                                      · subst h18
                                        clear h0 h1 h2 h3 h4 h5 h6 h7 h8 h9 h10 h11 h12 h13 h14 h15 h16 h17
                                        go_enter Tryd.func6, Tryd.ntmps6
                                        go_wp2_with fail
                                        go_ret
                                        exact ⟨rfl, rfl⟩
                                      · have q18 := neL h18
                                        by_cases h19 : s = ⟨#[71, 67, 68]⟩
                                        · subst h19
                                          clear h0 h1 h2 h3 h4 h5 h6 h7 h8 h9 h10 h11 h12 h13 h14 h15 h16 h17 h18
                                          go_enter Tryd.func6, Tryd.ntmps6
                                          go_wp2_with fail
                                          go_ret
                                          exact ⟨rfl, rfl⟩
                                        · have q19 := neL h19
                                          by_cases h20 : s = ⟨#[66, 65, 83, 69]⟩
                                          · subst h20
                                            clear h0 h1 h2 h3 h4 h5 h6 h7 h8 h9 h10 h11 h12 h13 h14 h15 h16 h17 h18 h19
                                            go_enter Tryd.func6, Tryd.ntmps6
                                            go_wp2_with fail
                                            go_ret
                                            exact ⟨rfl, rfl⟩
                                          · have q20 := neL h20
                                            by_cases h21 : s = ⟨#[85, 78, 66, 65, 83, 69]⟩
                                            · subst h21
                                              clear h0 h1 h2 h3 h4 h5 h6 h7 h8 h9 h10 h11 h12 h13 h14 h15 h16 h17 h18 h19 h20
                                              go_enter Tryd.func6, Tryd.ntmps6
                                              go_wp2_with fail
                                              go_ret
                                              exact ⟨rfl, rfl⟩
                                            · have q21 := neL h21
                                              by_cases h22 : s = ⟨#[82, 69, 80, 76, 65, 67, 69]⟩
                                              · subst h22
                                                clear h0 h1 h2 h3 h4 h5 h6 h7 h8 h9 h10 h11 h12 h13 h14 h15 h16 h17 h18 h19 h20 h21
                                                go_enter Tryd.func6, Tryd.ntmps6
                                                go_wp2_with fail
                                                go_ret
                                                exact ⟨rfl, rfl⟩
                                              · have q22 := neL h22
                                                by_cases h23 : s = ⟨#[83, 85, 66, 83, 84, 82]⟩
                                                · subst h23
                                                  clear h0 h1 h2 h3 h4 h5 h6 h7 h8 h9 h10 h11 h12 h13 h14 h15 h16 h17 h18 h19 h20 h21 h22
                                                  go_enter Tryd.func6, Tryd.ntmps6
                                                  go_wp2_with fail
                                                  go_ret
                                                  exact ⟨rfl, rfl⟩
                                                · have q23 := neL h23
                                                  by_cases h24 : s = ⟨#[76, 80, 65, 68]⟩
                                                  · subst h24
                                                    clear h0 h1 h2 h3 h4 h5 h6 h7 h8 h9 h10 h11 h12 h13 h14 h15 h16 h17 h18 h19 h20 h21 h22 h23
                                                    go_enter Tryd.func6, Tryd.ntmps6
                                                    go_wp2_with fail
                                                    go_ret
                                                    exact ⟨rfl, rfl⟩
                                                  · have q24 := neL h24
                                                    by_cases h25 : s = ⟨#[82, 80, 65, 68]⟩
                                                    · subst h25
                                                      clear h0 h1 h2 h3 h4 h5 h6 h7 h8 h9 h10 h11 h12 h13 h14 h15 h16 h17 h18 h19 h20 h21 h22 h23 h24
                                                      go_enter Tryd.func6, Tryd.ntmps6
                                                      go_wp2_with fail
                                                      go_ret
                                                      exact ⟨rfl, rfl⟩
                                                    · have q25 := neL h25
                                                      have HE : Hid (blt s = -1) := hide (by unfold blt; rw [if_neg h0, if_neg h1, if_neg h2, if_neg h3, if_neg h4, if_neg h5, if_neg h6, if_neg h7, if_neg h8, if_neg h9, if_neg h10, if_neg h11, if_neg h12, if_neg h13, if_neg h14, if_neg h15, if_neg h16, if_neg h17, if_neg h18, if_neg h19, if_neg h20, if_neg h21, if_neg h22, if_neg h23, if_neg h24, if_neg h25])
                                                      clear h0 h1 h2 h3 h4 h5 h6 h7 h8 h9 h10 h11 h12 h13 h14 h15 h16 h17 h18 h19 h20 h21 h22 h23 h24 h25
                                                      go_enter Tryd.func6, Tryd.ntmps6
                                                      go_wp2_with fail
                                                      go_ret
                                                      exact ⟨by rw [unhide HE]; rfl, rfl⟩
end Go.Proofs.YtpphjddljngkmaaDoor
