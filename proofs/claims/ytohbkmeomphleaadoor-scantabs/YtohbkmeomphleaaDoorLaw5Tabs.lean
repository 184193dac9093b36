/- Places from either end: ScanTabs is true of any number, text and place. -/
import Derived.Test.YtohbkmeomphleaaDoorLaw5Base
import Derived.Test.YtohbkmeomphleaaDoorShapes4
import Derived.Deep.DeepHandedRow
import Derived.Stop.LaidErr
namespace Go.Proofs.YtohbkmeomphleaaDoor
open Go.RowKit

theorem like_leaf (k k' n n' : Int) (s : ByteArray) (i : Int) (W : World) (hS : Shapes W) (hs : s.size ≤ 65536) (hk : 8 ≤ k ∧ k ≤ 12) (hk' : 8 ≤ k' ∧ k' ≤ 12) (hn : 0 ≤ n ∧ n ≤ 65536) (hn' : 0 ≤ n' ∧ n' ≤ 65536) (ho : ∀ j, j ≤ s.size → onl s (leaf k n ⟨#[]⟩) j = onl s (leaf k' n' ⟨#[]⟩) j) :
    Calls Tryd.prog 8 #[.slice none 0 0, pv (leaf k n ⟨#[]⟩), pv (leaf k' n' ⟨#[]⟩), .string s, .int .i64 i] W fun e w' => e = .returned (.bool true) ∧ Below W.heap.size W w' := by
  have hw : ∀ k n : Int, 8 ≤ k ∧ k ≤ 12 → 0 ≤ n ∧ n ≤ 65536 → (leaf k n ⟨#[]⟩).wrong = 0 := by
    intro k n hk hn
    rw [leaf_wrong]
    rcases (show k = 8 ∨ k = 9 ∨ k = 10 ∨ k = 11 ∨ k = 12 by omega) with rfl | rfl | rfl | rfl | rfl <;> simp [errN, leaf, hasK, leastK, mostK] <;> omega
  have hok : ∀ k n : Int, 8 ≤ k ∧ k ≤ 12 → 0 ≤ n ∧ n ≤ 65536 → (leaf k n ⟨#[]⟩).cnt ≤ 100000 ∧ Bare (leaf k n ⟨#[]⟩) ∧ Fine (leaf k n ⟨#[]⟩) := by
    intro k n hk hn
    exact ⟨(by show 1 ≤ 100000; omega), leaf_bare (by omega), leaf_fine ⟨by omega, by omega, by omega, by omega, by omega⟩⟩
  have hlf : ∀ k n : Int, 8 ≤ k ∧ k ≤ 12 → leafK (leaf k n ⟨#[]⟩).k := by
    intro k n hk
    show leafK k
    unfold leafK
    omega
  have he := waysOf_leaf (fun _ => ⟨#[]⟩) i (hw k n hk hn) (hw k' n' hk' hn') (hlf k n hk) (hlf k' n' hk') hs ho
  exact alike_same (fun _ => 0) (fun _ => ⟨#[]⟩) _ _ s i W (leaf_in (by omega) (by omega) (by unfold maxLen; decide)) (leaf_in (by omega) (by omega) (by unfold maxLen; decide)) hS (by unfold maxLen; omega) (fun _ => hok k n hk hn) (fun _ => hok k' n' hk' hn') (fun _ _ => ⟨by rw [he], by rw [he]⟩) (waysOf_none _ i (hw k n hk hn) (hlf k n hk) hs)
theorem onl_rtab {s : ByteArray} {n : Int} {j : Nat} (hn : 0 ≤ n ∧ n ≤ (s.size : Int)) : onl s (leaf 9 n ⟨#[]⟩) j = onl s (leaf 8 ((s.size : Int) - n) ⟨#[]⟩) j := by
  rw [show onl s (leaf 9 n ⟨#[]⟩) j = if j + n.toNat ≤ s.size then some (s.size - n.toNat) else none from rfl, show onl s (leaf 8 ((s.size : Int) - n) ⟨#[]⟩) j = if j ≤ ((s.size : Int) - n).toNat ∧ ((s.size : Int) - n).toNat ≤ s.size then some ((s.size : Int) - n).toNat else none from rfl]
  by_cases h : j + n.toNat ≤ s.size
  · rw [if_pos h, if_pos (by omega)]; congr 1; omega
  · rw [if_neg h, if_neg (by omega)]
theorem onl_rpos {s : ByteArray} {n : Int} {j : Nat} (hn : 0 ≤ n ∧ n ≤ (s.size : Int)) : onl s (leaf 11 n ⟨#[]⟩) j = onl s (leaf 10 ((s.size : Int) - n) ⟨#[]⟩) j := by
  rw [show onl s (leaf 11 n ⟨#[]⟩) j = if j + n.toNat = s.size then some j else none from rfl, show onl s (leaf 10 ((s.size : Int) - n) ⟨#[]⟩) j = if j = ((s.size : Int) - n).toNat then some j else none from rfl]
  by_cases h : j + n.toNat = s.size
  · rw [if_pos h, if_pos (by omega)]
  · rw [if_neg h, if_neg (by omega)]
theorem onl_rem {s : ByteArray} {j : Nat} (hj : j ≤ s.size) : onl s (leaf 12 0 ⟨#[]⟩) j = onl s (leaf 9 0 ⟨#[]⟩) j := by
  rw [show onl s (leaf 12 0 ⟨#[]⟩) j = some s.size from rfl, show onl s (leaf 9 0 ⟨#[]⟩) j = if j + (0 : Int).toNat ≤ s.size then some (s.size - (0 : Int).toNat) else none from rfl, if_pos (by simpa using hj)]
  rfl

set_option maxRecDepth 100000 in
set_option maxHeartbeats 1000000 in
theorem scanTabs_go (n : Int) (s : ByteArray) (i : Int) (w : World) (hS : Shapes w) (hs : s.size ≤ maxLen) :
    Calls Tryd.prog 4 #[.int .i64 n, .string s, .int .i64 i] w fun e w' => e = .returned (.bool true) ∧ Below w.heap.size w w' := by
  have HA := hide (alive5 w hS)
  unfold maxLen at hs
  rcases (show n < 0 ∨ (¬ n < 0 ∧ (s.size : Int) < n) ∨ (¬ n < 0 ∧ ¬ (s.size : Int) < n ∧ (65536 : Int) < (s.size : Int)) ∨ (0 ≤ n ∧ n ≤ (s.size : Int) ∧ s.size ≤ 65536) by omega) with h | ⟨h, h1⟩ | ⟨h, h1, h2⟩ | ⟨h, h1, h2⟩
  · clear hS
    go_enter Tryd.func4, Tryd.ntmps4
    go_wp2_with (go_at_call 7; refine (unhide HA).mono ?_; rintro e w1 ⟨rfl, hb1⟩)
    go_ret
    exact ⟨rfl, hb1⟩
  · clear hS
    go_enter Tryd.func4, Tryd.ntmps4
    go_wp2_with (go_at_call 7; refine (unhide HA).mono ?_; rintro e w1 ⟨rfl, hb1⟩)
    go_ret
    exact ⟨rfl, hb1⟩
  · clear hS
    go_enter Tryd.func4, Tryd.ntmps4
    go_wp2_with (go_at_call 7; refine (unhide HA).mono ?_; rintro e w1 ⟨rfl, hb1⟩)
    go_ret
    exact ⟨rfl, hb1⟩
  · have hw : wrap64 ((s.size : Int) - n) = (s.size : Int) - n := IntWalk.wrap64_in _ (by omega)
    have HL1 := hide (fun W (h' : Below w.heap.size w W) => like_leaf 9 8 n ((s.size : Int) - n) s i W (hS.later h') h2 (by omega) (by omega) (by omega) (by omega) (fun j _ => onl_rtab (by omega)))
    have HL2 := hide (fun W (h' : Below w.heap.size w W) => like_leaf 11 10 n ((s.size : Int) - n) s i W (hS.later h') h2 (by omega) (by omega) (by omega) (by omega) (fun j _ => onl_rpos (by omega)))
    have HL3 := hide (fun W (h' : Below w.heap.size w W) => like_leaf 12 9 0 0 s i W (hS.later h') h2 (by omega) (by omega) (by omega) (by omega) (fun j hj => onl_rem hj))
    have q1 : ¬ n < 0 := by omega
    have q2 : ¬ (s.size : Int) < n := by omega
    have q3 : ¬ (65536 : Int) < (s.size : Int) := by omega
    clear hS h h1 h2 hs
    go_enter Tryd.func4, Tryd.ntmps4
    go_wp2_with fail
    refine (unhide HA).mono ?_
    rintro e w1 ⟨rfl, hb1⟩
    have HB1 := hide hb1
    clear hb1 HA
    go_wp2_with fail
    refine (some_any 9 n ⟨#[]⟩ w1).mono ?_
    rintro e w2 ⟨rfl, hb2⟩
    have HB2 := hide (bnext (unhide HB1) hb2)
    clear hb2 HB1
    go_wp2_with fail
    refine (some_any 8 _ ⟨#[]⟩ w2).mono ?_
    rintro e w3 ⟨rfl, hb3⟩
    have HB3 := hide (bnext (unhide HB2) hb3)
    clear hb3 HB2
    go_wp2_with fail
    refine (unhide HL1 w3 (unhide HB3)).mono ?_
    rintro e w4 ⟨rfl, hb4⟩
    have HB4 := hide (bnext (unhide HB3) hb4)
    clear hb4 HB3
    go_wp2_with fail
    refine (some_any 11 n ⟨#[]⟩ w4).mono ?_
    rintro e w5 ⟨rfl, hb5⟩
    have HB5 := hide (bnext (unhide HB4) hb5)
    clear hb5 HB4
    go_wp2_with fail
    refine (some_any 10 _ ⟨#[]⟩ w5).mono ?_
    rintro e w6 ⟨rfl, hb6⟩
    have HB6 := hide (bnext (unhide HB5) hb6)
    clear hb6 HB5
    go_wp2_with fail
    refine (unhide HL2 w6 (unhide HB6)).mono ?_
    rintro e w7 ⟨rfl, hb7⟩
    have HB7 := hide (bnext (unhide HB6) hb7)
    clear hb7 HB6
    go_wp2_with fail
    refine (some_any 12 0 ⟨#[]⟩ w7).mono ?_
    rintro e w8 ⟨rfl, hb8⟩
    have HB8 := hide (bnext (unhide HB7) hb8)
    clear hb8 HB7
    go_wp2_with fail
    refine (some_any 9 0 ⟨#[]⟩ w8).mono ?_
    rintro e w9 ⟨rfl, hb9⟩
    have HB9 := hide (bnext (unhide HB8) hb9)
    clear hb9 HB8
    go_wp2_with fail
    refine (unhide HL3 w9 (unhide HB9)).mono ?_
    rintro e w10 ⟨rfl, hb10⟩
    have HB10 := hide (bnext (unhide HB9) hb10)
    clear hb10 HB9
    go_wp2_with fail
    go_ret
    exact ⟨rfl, unhide HB10⟩
theorem shapes_tabs {w : World} (h : laidMetH Tryd.prog Rows.scanTabsRow.laid w) : Shapes w := by
  have e : (Rows.scanTabsRow.laid.filter fun x => x.2.handleName?.isSome) = [] := by kernel_rfl
  have h' : laidMet Tryd.prog Rows.scanTabsRow.laid w := by
    have hp := h
    unfold laidMetH at hp
    rw [e] at hp
    exact hp
  exact shapes_of (rest := []) (laidMet.tail (laidMet.tail (laidMet.tail h')))
theorem scanTabs_walk (n : Int) (s : ByteArray) (i : Int) (_w0 : (Lit.int .i64 n).wf = true) (w1 : s.size ≤ maxLen) (_w2 : (Lit.int .i64 i).wf = true) (w : World) (hS : Shapes w) :
    Calls Tryd.prog 4 #[.int .i64 n, .string s, .int .i64 i] w fun e w' => e = .returned (.bool true) ∧ Below w.heap.size w w' := scanTabs_go n s i w hS w1
end Go.Proofs.YtohbkmeomphleaaDoor
