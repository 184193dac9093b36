/- What the law NumbersTurn answers, for every number, base and text: true. -/
import Derived.Test.YtfjbafdgjpdbdaaDoorFmtInt
namespace Go.Proofs.YtfjbafdgjpdbdaaDoor
open Go.RowKit

theorem dropWhile_none (p : UInt8 → Bool) (l : List UInt8) (h : ∀ b ∈ l, p b = false) : l.dropWhile p = l := by
  cases l with
  | nil => rfl
  | cons b r => rw [List.dropWhile_cons, h b (List.mem_cons_self ..)]; rfl
theorem trimS_none (l : List UInt8) (h : ∀ b ∈ l, b ≠ 32 ∧ b ≠ 9) : Lib.trimS l [32, 9] = l := by
  have hp : ∀ b ∈ l, [32, 9].contains b = false := fun b hb => by
    have := h b hb
    simp [this.1, this.2]
  unfold Lib.trimS Lib.trimLeftS Lib.trimRightS
  rw [dropWhile_none _ l.reverse (fun b hb => hp b (List.mem_reverse.1 hb)), List.reverse_reverse, dropWhile_none _ l hp]
theorem within_ok {x c e : Int} (h : within x = (c, e)) (he : e = 0) : c = x ∧ in64 x := by
  by_cases hx : in64 x
  · rw [within_in x hx] at h
    simp at h
    exact ⟨h.1.symm, hx⟩
  · rw [within_out x hx] at h
    simp at h
    omega
theorem inBase_ne (base u : Nat) : inBase base u ≠ [] := by
  intro h
  have := (inUpTo_len base 64 u).2
  unfold inBase at h
  rw [h] at this
  simp at this
theorem digits_back (base u : Nat) (s : Bool) (hb : 2 ≤ base) (h36 : base ≤ 36) (hu : u < 18446744073709551616) : digitsSaid base (inBase base u) s = within (if s then -(u : Int) else (u : Int)) := by
  have h := inBase_read base u hb h36 hu
  rw [digitsSaid_ok base _ s (inBase_ne base u) h.2, h.1]
theorem text_plain (base : Nat) (n : Int) (hb : 2 ≤ base) (h36 : base ≤ 36) (hn : in64 n) : ∀ b ∈ baseText base n, b ≠ 32 ∧ b ≠ 9 := by
  have hp := inBase_plain base n.natAbs hb h36 (by unfold in64 at hn; omega)
  intro b hm
  unfold baseText at hm
  split at hm
  · rcases List.mem_cons.1 hm with rfl | hm
    · decide
    · exact (hp b hm).2.2
  · exact (hp b hm).2.2
theorem unbase_back (base : Nat) (n : Int) (hb : 2 ≤ base) (h36 : base ≤ 36) (hn : in64 n) : unbaseIn base (baseText base n) = (n, 0) := by
  have hu : n.natAbs < 18446744073709551616 := by unfold in64 at hn; omega
  have hp := inBase_plain base n.natAbs hb h36 hu
  unfold baseText
  split
  · rename_i h
    rw [show unbaseIn base (45 :: inBase base n.natAbs) = digitsSaid base (inBase base n.natAbs) true by simp [unbaseIn], digits_back base _ true hb h36 hu]
    simp only [if_true]
    rw [show -(n.natAbs : Int) = n by omega, within_in n hn]
  · rename_i h
    have hd := digits_back base n.natAbs false hb h36 hu
    simp only [Bool.false_eq_true, if_false] at hd
    rw [show (n.natAbs : Int) = n by omega, within_in n hn] at hd
    cases hi : inBase base n.natAbs with
    | nil => exact absurd hi (inBase_ne base _)
    | cons b r =>
      rw [hi] at hd hp
      show (if b = 45 then digitsSaid base r true else digitsSaid base (b :: r) false) = _
      rw [if_neg (hp b (List.mem_cons_self ..)).1]; exact hd
theorem read_back (n : Int) (hn : in64 n) : readIn (baseText 10 n) = (n, 0) := by
  have hu : n.natAbs < 18446744073709551616 := by unfold in64 at hn; omega
  have hp := inBase_plain 10 n.natAbs (by omega) (by omega) hu
  unfold baseText
  split
  · rename_i h
    rw [show readIn (45 :: inBase 10 n.natAbs) = digitsSaid 10 (inBase 10 n.natAbs) true by simp [readIn], digits_back 10 _ true (by omega) (by omega) hu]
    simp only [if_true]
    rw [show -(n.natAbs : Int) = n by omega, within_in n hn]
  · rename_i h
    have hd := digits_back 10 n.natAbs false (by omega) (by omega) hu
    simp only [Bool.false_eq_true, if_false] at hd
    rw [show (n.natAbs : Int) = n by omega, within_in n hn] at hd
    cases hi : inBase 10 n.natAbs with
    | nil => exact absurd hi (inBase_ne 10 _)
    | cons b r =>
      rw [hi] at hd hp
      show (if b = 45 then digitsSaid 10 r true else if b = 43 then digitsSaid 10 r false else digitsSaid 10 (b :: r) false) = _
      rw [if_neg (hp b (List.mem_cons_self ..)).1, if_neg (hp b (List.mem_cons_self ..)).2.1]; exact hd
theorem text_len (base : Nat) (n : Int) (hb : 2 ≤ base) (hn : in64 n) : (baseText base n).length ≤ 65 := by
  have := inBase_len base n.natAbs hb (by unfold in64 at hn; omega)
  unfold baseText
  split
  · simp; omega
  · omega
theorem inUpTo_le (base : Nat) (f : Nat) : ∀ L u, 1 ≤ L → u < base ^ L → (inUpTo base f u).length ≤ L := by
  induction f with
  | zero => intro L u h _; simp [inUpTo]; omega
  | succ f ih =>
    intro L u h1 h2
    rw [inUpTo]
    split
    · simp; omega
    · rename_i hu
      obtain ⟨K, rfl⟩ : ∃ K, L = K + 1 := ⟨L - 1, by omega⟩
      have hK : 1 ≤ K := by
        by_cases h : K = 0
        · subst h
          rw [Nat.zero_add, Nat.pow_one] at h2
          exact absurd h2 hu
        · omega
      have h3 : u / base < base ^ K := by
        apply Nat.div_lt_of_lt_mul
        rw [Nat.pow_succ, Nat.mul_comm] at h2
        exact h2
      have := ih K (u / base) hK h3
      simp; omega
theorem digits_len {l : List UInt8} {s : Bool} {c e : Int} (h : digitsSaid 10 l s = (c, e)) (he : e = 0) : (inBase 10 c.natAbs).length ≤ l.length ∧ (s = false → 0 ≤ c) := by
  by_cases h0 : l = []
  · subst h0
    simp [digitsSaid] at h
    omega
  · cases ha : allIn 10 l with
    | false => rw [digitsSaid_bad 10 l s ha] at h; simp at h; omega
    | true =>
      rw [digitsSaid_ok 10 l s h0 ha] at h
      have hw := within_ok h he
      have hlt := worthIn_lt 10 l ha
      have hl : 1 ≤ l.length := by cases l with | nil => exact absurd rfl h0 | cons _ _ => simp
      have hc : c.natAbs = worthIn 10 l := by
        rw [hw.1]
        cases s <;> simp
      refine ⟨by rw [hc]; exact inUpTo_le 10 64 l.length _ hl hlt, fun hs => ?_⟩
      rw [hw.1, hs]; simp
theorem read_len {l : List UInt8} {c e : Int} (h : readIn l = (c, e)) (he : e = 0) (hc : c ≠ 0) : (baseText 10 c).length ≤ l.length := by
  cases l with
  | nil => simp [readIn] at h; omega
  | cons b r =>
    have hall : (inBase 10 c.natAbs).length ≤ r.length ∨ (0 ≤ c ∧ (inBase 10 c.natAbs).length ≤ r.length + 1) := by
      by_cases h1 : b = 45
      · have h2 : digitsSaid 10 r true = (c, e) := by simpa [readIn, h1] using h
        exact .inl (digits_len h2 he).1
      · by_cases h3 : b = 43
        · have h2 : digitsSaid 10 r false = (c, e) := by simpa [readIn, h3] using h
          exact .inl (digits_len h2 he).1
        · have h2 : digitsSaid 10 (b :: r) false = (c, e) := by simpa [readIn, h1, h3] using h
          have h4 := digits_len h2 he
          exact .inr ⟨h4.2 rfl, by simpa using h4.1⟩
    unfold baseText
    split
    · rcases hall with h1 | ⟨h1, _⟩
      · simp; omega
      · omega
    · rcases hall with h1 | ⟨_, h1⟩
      · simp; omega
      · simp; omega
theorem tenText_zero : tenText 0 = ⟨#[48]⟩ := by
  unfold tenText Lib.itoa
  rw [if_neg (by decide), Lib.decDigits, dif_pos (by decide)]
  rfl
theorem tenText_is (n : Int) (hn : in64 n) : tenText n = ⟨(baseText 10 n).toArray⟩ := by unfold tenText; rw [itoa_is n hn]
theorem trim_text (base : Nat) (n : Int) (hb : 2 ≤ base) (h36 : base ≤ 36) (hn : in64 n) : trimB ⟨(baseText base n).toArray⟩ = ⟨(baseText base n).toArray⟩ := by
  unfold trimB
  rw [show (ByteArray.mk (baseText base n).toArray).data.toList = baseText base n from rfl, trimS_none _ (text_plain base n hb h36 hn)]
theorem read_in64 {l : List UInt8} {c e : Int} (h : readIn l = (c, e)) (he : e = 0) : in64 c := by
  have key : ∀ (l : List UInt8) s, digitsSaid 10 l s = (c, e) → in64 c := by
    intro l s h
    by_cases h0 : l = []
    · subst h0; simp [digitsSaid] at h; omega
    · cases ha : allIn 10 l with
      | false => rw [digitsSaid_bad 10 l s ha] at h; simp at h; omega
      | true =>
        rw [digitsSaid_ok 10 l s h0 ha] at h
        have hw := within_ok h he
        rw [hw.1]; exact hw.2
  cases l with
  | nil => simp [readIn] at h; unfold in64; omega
  | cons b r =>
    simp only [readIn] at h
    split at h
    · exact key _ _ h
    · split at h
      · exact key _ _ h
      · exact key _ _ h

/-- The tail of the law: a text is read, and its number written. -/
theorem tail_facts (t : ByteArray) (hl : t.size ≤ 65536) : ∃ c e, readIn (trimB t).data.toList = (c, e) ∧ (e ≠ 0 ∨ (e = 0 ∧ in64 c ∧ (tenText c).size ≤ 65 ∧ ((tenText c).size ≤ t.size ∨ (t.size = 0 ∧ c = 0)))) := by
  obtain ⟨c, e, h⟩ : ∃ c e, readIn (trimB t).data.toList = (c, e) := ⟨_, _, rfl⟩
  refine ⟨c, e, h, ?_⟩
  by_cases he : e = 0
  · right
    have hin := read_in64 h he
    have hsz : (tenText c).size = (baseText 10 c).length := by rw [tenText_is c hin]; show (baseText 10 c).toArray.size = _; simp
    refine ⟨he, hin, by rw [hsz]; exact text_len 10 c (by omega) hin, ?_⟩
    have hle := trimB_le t
    by_cases hc : c = 0
    · by_cases h0 : t.size = 0
      · exact .inr ⟨h0, hc⟩
      · left
        rw [hsz, hc, show baseText 10 0 = [48] from by decide]
        simp; omega
    · left
      have := read_len h he hc
      rw [hsz]
      have e2 : (trimB t).data.toList.length = (trimB t).size := by simp
      omega
  · exact .inl he

set_option maxHeartbeats 4000000 in
theorem turn_tail (n : Int) (b : Int) (t : ByteArray) (w : World) (ht0 : TabsAt w) (hn : in64 n) (hlen : t.size ≤ maxLen) (s : ByteArray) (es : Int)
    (SB : ∀ w, TabsAt w → Hid (Calls Tryd.prog 9 #[.int .i64 n, .int .i64 b] w fun e w' => e = .returned (.tuple #[.string s, .int .i64 es]) ∧ Below w.heap.size w w'))
    (UB : es ≠ 0 ∨ (es = 0 ∧ ∀ w, Hid (Calls Tryd.prog 12 #[.string s, .int .i64 b] w fun e w' => e = .returned (pairOf (n, 0)) ∧ w' = w))) :
    Calls Tryd.prog 4 #[.int .i64 n, .int .i64 b, .string t] w fun e w' => e = .returned (.bool true) ∧ Below w.heap.size w w' := by
  have HA := hide (alive_any w ht0.1)
  have PN := fun w (h : TabsAt w) => hide (print_any n w hn h.1)
  have hsz : (tenText n).size ≤ 65536 := by
    rw [tenText_is n hn]
    have := text_len 10 n (by omega) hn
    show (baseText 10 n).toArray.size ≤ 65536
    simp; omega
  have RN := fun w => hide (read_ok (tenText n) w hsz)
  rw [tenText_is n hn, trim_text 10 n (by omega) (by omega) hn, show (ByteArray.mk (baseText 10 n).toArray).data.toList = baseText 10 n from rfl, read_back n hn, ← tenText_is n hn] at RN
  generalize tenText n = d0 at *
  have TT : ∃ c e, (∀ w, Hid (Calls Tryd.prog 7 #[.string t] w fun e' w' => e' = .returned (pairOf (c, e)) ∧ Below w.heap.size w w')) ∧ (e ≠ 0 ∨ (e = 0 ∧ in64 c ∧ (tenText c).size ≤ 65 ∧ ((tenText c).size ≤ t.size ∨ (t.size = 0 ∧ c = 0)))) := by
    by_cases hl : t.size ≤ 65536
    · obtain ⟨c, e, h, hh⟩ := tail_facts t hl
      refine ⟨c, e, fun w => ?_, hh⟩
      have := read_ok t w hl
      rw [h] at this
      exact hide this
    · exact ⟨0, 4, fun w => hide ((read_much t w hlen (by omega)).mono fun e w' ⟨h1, h2⟩ => ⟨h1, h2 ▸ Below.refl _ _⟩), .inl (by omega)⟩
  obtain ⟨c, ec, RT, hc⟩ := TT
  have PC := fun (h : in64 c) w (ht : TabsAt w) => hide (print_any c w h ht.1)
  have HT0 := hide ht0
  clear ht0 hsz hn
  unfold maxLen at hlen
  go_enter Tryd.func4, Tryd.ntmps4
  go_wp2_with fail
  refine (unhide HA).mono ?_
  rintro e w1 ⟨rfl, b1⟩
  have T1 := tabs_stay (unhide HT0) b1
  have P1 := PN w1 T1
  clear HA PN
  go_wp2_with fail
  refine (unhide P1).mono ?_
  rintro e w2 ⟨rfl, b2⟩
  have T2 := hide (tabs_stay T1 b2)
  have bb2 := bnext b1 b2
  clear P1 T1 b1 b2
  go_wp2_with fail
  refine (unhide (RN _)).mono ?_
  rintro e w3 ⟨rfl, b3⟩
  have T3 := hide (tabs_stay (unhide T2) b3)
  have bb3 := bnext bb2 b3
  have S3 := SB w3 (unhide T3)
  clear T2 bb2 b3 RN SB
  go_wp2_with fail
  refine (unhide S3).mono ?_
  rintro e w4 ⟨rfl, b4⟩
  have T4 := hide (tabs_stay (unhide T3) b4)
  have bb4 := bnext bb3 b4
  clear T3 bb3 b4 S3
  rcases UB with hes | ⟨rfl, UB⟩
  · have des : (es == 0) = false := by simp [hes]
    clear hes
    go_wp2_with fail
    refine (unhide (RT _)).mono ?_
    rintro e w5 ⟨rfl, b5⟩
    have T5 := hide (tabs_stay (unhide T4) b5)
    have bb5 := bnext bb4 b5
    clear T4 bb4 b5 RT
    rcases hc with hec | ⟨rfl, hci, hcl, hcc⟩
    · have dec : (ec != 0) = true := by simp [hec]
      go_wp2
      go_ret
      exact ⟨rfl, bb5⟩
    · have P5 := PC hci w5 (unhide T5)
      clear PC T5
      go_wp2_with fail
      refine (unhide P5).mono ?_
      rintro e w6 ⟨rfl, b6⟩
      have bb6 := bnext bb5 b6
      rcases hcc with hle | ⟨ht, rfl⟩
      · have hle2 : ((tenText c).size : Int) ≤ (t.size : Int) := by omega
        generalize tenText c = dc at *
        go_wp2
        go_ret
        exact ⟨rfl, bb6⟩
      · have he := isEmpty_true t ht
        rw [tenText_zero]
        go_wp2
        go_ret
        exact ⟨rfl, bb6⟩
  · go_wp2_with fail
    refine (unhide (UB _)).mono ?_
    rintro e w4 ⟨rfl, rfl⟩
    go_wp2_with fail
    refine (unhide (RT _)).mono ?_
    rintro e w5 ⟨rfl, b5⟩
    have T5 := hide (tabs_stay (unhide T4) b5)
    have bb5 := bnext bb4 b5
    clear T4 bb4 b5 RT
    rcases hc with hec | ⟨rfl, hci, hcl, hcc⟩
    · have dec : (ec != 0) = true := by simp [hec]
      go_wp2
      go_ret
      exact ⟨rfl, bb5⟩
    · have P5 := PC hci w5 (unhide T5)
      clear PC T5
      go_wp2_with fail
      refine (unhide P5).mono ?_
      rintro e w6 ⟨rfl, b6⟩
      have bb6 := bnext bb5 b6
      rcases hcc with hle | ⟨ht, rfl⟩
      · have hle2 : ((tenText c).size : Int) ≤ (t.size : Int) := by omega
        generalize tenText c = dc at *
        go_wp2
        go_ret
        exact ⟨rfl, bb6⟩
      · have he := isEmpty_true t ht
        rw [tenText_zero]
        go_wp2
        go_ret
        exact ⟨rfl, bb6⟩

theorem tabs_of_turn {w : World} (h : laidMetH Tryd.prog Rows.numbersTurnRow.laid w) : TabsAt w := by
  have e : (Rows.numbersTurnRow.laid.filter fun x => x.2.handleName?.isSome) = [] := by kernel_rfl
  have h' : laidMet Tryd.prog Rows.numbersTurnRow.laid w := by
    have hp := h
    unfold laidMetH at hp
    rw [e] at hp
    exact hp
  refine ⟨?_, ?_⟩
  · exact Lib.tabIs_of_head (g := 0) (t := 102) (e := 54) (n := 20) (by kernel_rfl) (by kernel_rfl) Tryd.underlying102 Tryd.underlying54 (by kernel_rfl) (by kernel_rfl) (rest := _) (show laidMet Tryd.prog (("internal/strconv.uint64pow10", Lib.tabData .u64 Lib.pow10Tab) :: _) w from h'.tail.tail)
  · exact Lib.tabIs_of_head (g := 5) (t := 114) (e := 5) (n := 64) (by kernel_rfl) (by kernel_rfl) Tryd.underlying114 Tryd.underlying5 (by kernel_rfl) (by kernel_rfl) (rest := _) (show laidMet Tryd.prog (("math/bits.deBruijn64tab", Lib.tabData .u8 bruijnTab) :: _) w from h'.tail)

theorem numbersTurn_walk (n b : Int) (t : ByteArray) (w0 : (Lit.int .i64 n).wf = true) (w1 : (Lit.int .i64 b).wf = true) (w2 : t.size ≤ maxLen) (w : World) (ht : TabsAt w) :
    Calls Tryd.prog 4 #[.int .i64 n, .int .i64 b, .string t] w fun e w' => e = .returned (.bool true) ∧ Below w.heap.size w w' := by
  have hn : in64 n := bounds_i64 w0
  have hb : in64 b := bounds_i64 w1
  by_cases h : b < 2 ∨ 36 < b
  · exact turn_tail n b t w ht hn w2 ⟨#[]⟩ 3 (fun w _ => hide ((base_no n b w h).mono fun e w' ⟨h1, h2⟩ => ⟨h1, h2 ▸ Below.refl _ _⟩)) (.inl (by decide))
  · obtain ⟨k, rfl⟩ : ∃ k : Nat, b = k := ⟨b.toNat, by omega⟩
    refine turn_tail n k t w ht hn w2 ⟨(baseText k n).toArray⟩ 0 (fun w h => hide (base_ok n k w hn (by omega) (by omega) h)) (.inr ⟨rfl, fun w => ?_⟩)
    have := unbase_ok ⟨(baseText k n).toArray⟩ k w (by
      show (baseText k n).toArray.size ≤ 65536
      have := text_len k n (by omega) hn
      simp; omega) (by omega) (by omega)
    rw [show (ByteArray.mk (baseText k n).toArray).data.toList = baseText k n from rfl, unbase_back k n (by omega) (by omega) hn] at this
    exact hide this
end Go.Proofs.YtfjbafdgjpdbdaaDoor
