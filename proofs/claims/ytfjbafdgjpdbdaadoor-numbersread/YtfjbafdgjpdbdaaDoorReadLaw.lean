/- What the law NumbersRead answers, for every text, number and base: true. -/
import Derived.Test.YtfjbafdgjpdbdaaDoorRefRead
namespace Go.Proofs.YtfjbafdgjpdbdaaDoor
open Go.RowKit

theorem tenText_same (n : Int) (hn : in64 n) : tenText n = ⟨(baseText 10 n).toArray⟩ := by unfold tenText; rw [itoa_is n hn]
theorem tabs_of_read {w : World} (h : laidMetH Tryd.prog Rows.numbersReadRow.laid w) : TabsAt w := by
  have e : (Rows.numbersReadRow.laid.filter fun x => x.2.handleName?.isSome) = [] := by kernel_rfl
  have h' : laidMet Tryd.prog Rows.numbersReadRow.laid w := by
    have hp := h
    unfold laidMetH at hp
    rw [e] at hp
    exact hp
  refine ⟨?_, ?_⟩
  · exact Lib.tabIs_of_head (g := 0) (t := 102) (e := 54) (n := 20) (by kernel_rfl) (by kernel_rfl) Tryd.underlying102 Tryd.underlying54 (by kernel_rfl) (by kernel_rfl) (rest := _) (show laidMet Tryd.prog (("internal/strconv.uint64pow10", Lib.tabData .u64 Lib.pow10Tab) :: _) w from h'.tail.tail)
  · exact Lib.tabIs_of_head (g := 5) (t := 114) (e := 5) (n := 64) (by kernel_rfl) (by kernel_rfl) Tryd.underlying114 Tryd.underlying5 (by kernel_rfl) (by kernel_rfl) (rest := _) (show laidMet Tryd.prog (("math/bits.deBruijn64tab", Lib.tabData .u8 bruijnTab) :: _) w from h'.tail)

set_option maxHeartbeats 4000000 in
theorem numbersRead_walk (t : ByteArray) (n b : Int) (w0 : t.size ≤ maxLen) (w1 : (Lit.int .i64 n).wf = true) (w2 : (Lit.int .i64 b).wf = true) (w : World) (ht : TabsAt w) :
    Calls Tryd.prog 3 #[.string t, .int .i64 n, .int .i64 b] w fun e w' => e = .returned (.bool true) ∧ Below w.heap.size w w' := by
  have hn : in64 n := bounds_i64 w1
  have hbb : in64 b := bounds_i64 w2
  have R : ∃ p : Int × Int, ∀ w, Hid (Calls Tryd.prog 7 #[.string t] w fun e w' => e = .returned (pairOf p) ∧ Below w.heap.size w w') ∧ Hid (Calls Tryd.prog 8 #[.string t] w fun e w' => e = .returned (pairOf p) ∧ Below w.heap.size w w') := by
    by_cases hl : t.size ≤ 65536
    · exact ⟨_, fun w => ⟨hide (read_ok t w hl), hide (refRead_ok t w hl)⟩⟩
    · exact ⟨(0, 4), fun w => ⟨hide ((read_much t w w0 (by omega)).mono fun e w' ⟨h1, h2⟩ => ⟨h1, h2 ▸ Below.refl _ _⟩), hide ((refRead_much t w w0 (by omega)).mono fun e w' ⟨h1, h2⟩ => ⟨h1, h2 ▸ Below.refl _ _⟩)⟩⟩
  have U : ∃ p : Int × Int, ∀ w, Hid (Calls Tryd.prog 12 #[.string t, .int .i64 b] w fun e w' => e = .returned (pairOf p) ∧ Below w.heap.size w w') ∧ Hid (Calls Tryd.prog 13 #[.string t, .int .i64 b] w fun e w' => e = .returned (pairOf p) ∧ Below w.heap.size w w') := by
    by_cases hb : b < 2 ∨ 36 < b
    · exact ⟨(0, 3), fun w => ⟨hide ((unbase_no t b w hb).mono fun e w' ⟨h1, h2⟩ => ⟨h1, h2 ▸ Below.refl _ _⟩), hide ((refUnbase_no t b w hb).mono fun e w' ⟨h1, h2⟩ => ⟨h1, h2 ▸ Below.refl _ _⟩)⟩⟩
    · by_cases hl : t.size ≤ 65536
      · obtain ⟨k, rfl⟩ : ∃ k : Nat, b = k := ⟨b.toNat, by omega⟩
        exact ⟨_, fun w => ⟨hide ((unbase_ok t k w hl (by omega) (by omega)).mono fun e w' ⟨h1, h2⟩ => ⟨h1, h2 ▸ Below.refl _ _⟩), hide (refUnbase_ok t k w hl (by omega) (by omega))⟩⟩
      · exact ⟨(0, 4), fun w => ⟨hide ((unbase_much t b w w0 (by omega) (by omega) (by omega)).mono fun e w' ⟨h1, h2⟩ => ⟨h1, h2 ▸ Below.refl _ _⟩), hide ((refUnbase_much t b w w0 (by omega) (by omega) (by omega)).mono fun e w' ⟨h1, h2⟩ => ⟨h1, h2 ▸ Below.refl _ _⟩)⟩⟩
  have B : ∃ (s : ByteArray) (es : Int), ∀ w, TabsAt w → Hid (Calls Tryd.prog 9 #[.int .i64 n, .int .i64 b] w fun e w' => e = .returned (.tuple #[.string s, .int .i64 es]) ∧ Below w.heap.size w w') ∧ Hid (Calls Tryd.prog 10 #[.int .i64 n, .int .i64 b] w fun e w' => e = .returned (.tuple #[.string s, .int .i64 es]) ∧ Below w.heap.size w w') := by
    by_cases hb : b < 2 ∨ 36 < b
    · exact ⟨⟨#[]⟩, 3, fun w _ => ⟨hide ((base_no n b w hb).mono fun e w' ⟨h1, h2⟩ => ⟨h1, h2 ▸ Below.refl _ _⟩), hide ((refBase_no n b w hb).mono fun e w' ⟨h1, h2⟩ => ⟨h1, h2 ▸ Below.refl _ _⟩)⟩⟩
    · obtain ⟨k, rfl⟩ : ∃ k : Nat, b = k := ⟨b.toNat, by omega⟩
      exact ⟨_, 0, fun w h => ⟨hide (base_ok n k w hn (by omega) (by omega) h), hide (refBase_ok n k w hn (by omega) (by omega))⟩⟩
  have T1 : ∃ s : ByteArray, (∀ w, TabsAt w → Hid (Calls Tryd.prog 11 #[.int .i64 n] w fun e w' => e = .returned (.string s) ∧ Below w.heap.size w w')) ∧ ∀ w, Hid (Calls Tryd.prog 10 #[.int .i64 n, .int .i64 10] w fun e w' => e = .returned (.tuple #[.string s, .int .i64 0]) ∧ Below w.heap.size w w') := by
    refine ⟨_, fun w h => hide (print_any n w hn h.1), fun w => ?_⟩
    rw [tenText_same n hn]
    exact hide (refBase_ok n 10 w hn (by omega) (by omega))
  obtain ⟨⟨r, er⟩, R⟩ := R
  obtain ⟨⟨u, eu⟩, U⟩ := U
  obtain ⟨s, es, B⟩ := B
  obtain ⟨s10, P10, B10⟩ := T1
  clear hn hbb w0 w1 w2
  go_enter Tryd.func3, Tryd.ntmps3
  go_wp2_with fail
  refine (unhide (R _).1).mono ?_
  rintro e v1 ⟨rfl, b1⟩
  have t1 := hide (tabs_stay ht b1)
  clear ht
  go_wp2_with fail
  refine (unhide (R _).2).mono ?_
  rintro e v2 ⟨rfl, b2⟩
  have t2 := hide (tabs_stay (unhide t1) b2)
  have c2 := bnext b1 b2
  have B1 := (B v2 (unhide t2)).1
  clear t1 b1 b2 R
  go_wp2_with fail
  refine (unhide B1).mono ?_
  rintro e v3 ⟨rfl, b3⟩
  have t3 := hide (tabs_stay (unhide t2) b3)
  have c3 := bnext c2 b3
  have B2 := (B v3 (unhide t3)).2
  clear t2 c2 b3 B1 B
  go_wp2_with fail
  refine (unhide B2).mono ?_
  rintro e v4 ⟨rfl, b4⟩
  have t4 := hide (tabs_stay (unhide t3) b4)
  have c4 := bnext c3 b4
  clear t3 c3 b4 B2
  go_wp2_with fail
  refine (unhide (B10 _)).mono ?_
  rintro e v5 ⟨rfl, b5⟩
  have t5 := hide (tabs_stay (unhide t4) b5)
  have c5 := bnext c4 b5
  have P := P10 v5 (unhide t5)
  clear t4 c4 b5 B10 P10
  go_wp2_with fail
  refine (unhide P).mono ?_
  rintro e v6 ⟨rfl, b6⟩
  have c6 := bnext c5 b6
  clear c5 b6 P t5
  go_wp2_with fail
  refine (unhide (U _).1).mono ?_
  rintro e v7 ⟨rfl, b7⟩
  have c7 := bnext c6 b7
  clear c6 b7
  go_wp2_with fail
  refine (unhide (U _).2).mono ?_
  rintro e v8 ⟨rfl, b8⟩
  have c8 := bnext c7 b8
  go_wp2
  go_ret
  exact ⟨rfl, c8⟩
end Go.Proofs.YtfjbafdgjpdbdaaDoor
