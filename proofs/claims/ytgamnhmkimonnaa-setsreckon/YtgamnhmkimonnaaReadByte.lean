/- What sets.readByte does, for every text and place. -/
import Derived.Test.YtgamnhmkimonnaaChars
import Derived.LoopN
namespace Go.Proofs.Ytgamnhmkimonnaa
open Go.RowKit

/-- The byte at a place of a text; nought behind its end. -/
def ch (t : ByteArray) (i : Nat) : Nat := (t.data.toList.getD i 0).toNat
theorem ch_at (t : ByteArray) (i : Nat) (h : i < t.size) : (t[i]).toNat = ch t i := by
  unfold ch
  rw [List.getD_eq_getElem?_getD, List.getElem?_eq_getElem (by simpa using h)]
  rfl
theorem ch_lt (t : ByteArray) (i : Nat) : ch t i < 256 := UInt8.toNat_lt _
theorem ch_end (t : ByteArray) (i : Nat) (h : t.size ≤ i) : ch t i = 0 := by
  unfold ch
  rw [List.getD_eq_getElem?_getD, List.getElem?_eq_none (by simpa using h)]
  rfl
/-- A fault as a value. -/
def fv (e a : Nat) : Value := .agg #[.int .i64 (e : Int), .int .i64 (a : Int)]

/-- A byte that is written at a place: whether one is, which, and where the next one is; or where it cannot go on. -/
def rb (c : Nat → Nat) (i : Nat) : Bool × Nat × Nat :=
  if plainN (c i) then (true, c i, i + 1)
  else if c i ≠ 92 then (false, 0, i)
  else if hexN (c (i + 1)) = false then (false, 0, i + 1)
  else if hexN (c (i + 2)) = false then (false, 0, i + 2)
  else (true, 16 * hexVal (c (i + 1)) + hexVal (c (i + 2)), i + 3)
def rbV (r : Bool × Nat × Nat) : Value := if r.1 then .tuple #[.int .u8 (r.2.1 : Int), .int .i64 (r.2.2 : Int), fv 0 0] else .tuple #[.int .u8 0, .int .i64 0, fv 2 r.2.2]
theorem hex_zero : hexN 0 = false := by decide
theorem plain_92 : plainN 92 = false := by decide
theorem plain_zero : plainN 0 = false := by decide

set_option maxHeartbeats 400000 in
theorem readByte_plain (t : ByteArray) (i : Nat) (w : World) (ht : t.size ≤ 65536) (hi : i < t.size) (hp : plainN (ch t i) = true) :
    Calls Try.prog 43 #[.string t, .int .i64 (i : Int)] w fun e w' => e = .returned (.tuple #[.int .u8 (ch t i : Int), .int .i64 ((i + 1 : Nat) : Int), fv 0 0]) ∧ Below w.heap.size w w' := by
  have h1 : (i : Int) < (t.size : Int) := by omega
  have C := hide (fun W => stands_any (t[i]).toNat (UInt8.toNat_lt _) W)
  rw [ch_at t i hi, hp] at C
  have hx : ((t[i]).toNat : Int) = (ch t i : Int) := by rw [ch_at t i hi]
  have HX := hide hx
  clear hx
  go_enter Try.func43, Try.ntmps43
  go_wp2_with fail
  rw [unhide HX]
  refine (unhide C _).mono ?_
  rintro e w1 ⟨rfl, rfl⟩
  go_wp2
  refine bodyPost_ret (v := .tuple #[.int .u8 (ch t i : Int), .int .i64 ((i + 1 : Nat) : Int), fv 0 0]) ?_ rfl ⟨rfl, (Below.refl _ _).alloc (Nat.le_refl _) _⟩
  rw [unhide HX]
  simp [results, Try.results43, go_sem, fv]

set_option maxHeartbeats 400000 in
theorem readByte_end (t : ByteArray) (w : World) :
    Calls Try.prog 43 #[.string t, .int .i64 (t.size : Int)] w fun e w' => e = .returned (.tuple #[.int .u8 0, .int .i64 0, fv 2 t.size]) ∧ Below w.heap.size w w' := by
  go_enter Try.func43, Try.ntmps43
  go_wp2
  refine bodyPost_ret (v := .tuple #[.int .u8 0, .int .i64 0, fv 2 t.size]) ?_ rfl ⟨rfl, (Below.refl _ _).alloc (Nat.le_refl _) _⟩
  simp [results, Try.results43, go_sem, fv]

set_option maxHeartbeats 400000 in
theorem readByte_bad (t : ByteArray) (i : Nat) (w : World) (hi : i < t.size) (hp : plainN (ch t i) = false) (h92 : ch t i ≠ 92) :
    Calls Try.prog 43 #[.string t, .int .i64 (i : Int)] w fun e w' => e = .returned (.tuple #[.int .u8 0, .int .i64 0, fv 2 i]) ∧ Below w.heap.size w w' := by
  have h1 : (i : Int) < (t.size : Int) := by omega
  have C := hide (fun W => stands_any (t[i]).toNat (UInt8.toNat_lt _) W)
  rw [ch_at t i hi, hp] at C
  have hx : ((t[i]).toNat : Int) = (ch t i : Int) := by rw [ch_at t i hi]
  have hq : ((ch t i : Int) != 92) = true := by rw [bne_iff_ne]; omega
  generalize ch t i = c at *
  go_enter Try.func43, Try.ntmps43
  go_wp2_with fail
  refine (unhide C _).mono ?_
  rintro e w1 ⟨rfl, rfl⟩
  go_wp2
  refine bodyPost_ret (v := .tuple #[.int .u8 0, .int .i64 0, fv 2 i]) ?_ rfl ⟨rfl, (Below.refl _ _).alloc (Nat.le_refl _) _⟩
  simp [results, Try.results43, go_sem, fv]

set_option maxHeartbeats 400000 in
theorem readByte_one (t : ByteArray) (i : Nat) (w : World) (ht : t.size ≤ 65536) (hi : i < t.size) (h92 : ch t i = 92) (hh : hexN (ch t (i + 1)) = false) :
    Calls Try.prog 43 #[.string t, .int .i64 (i : Int)] w fun e w' => e = .returned (.tuple #[.int .u8 0, .int .i64 0, fv 2 (i + 1)]) ∧ Below w.heap.size w w' := by
  have h1 : (i : Int) < (t.size : Int) := by omega
  have C := hide (fun W => stands_any 92 (by omega) W)
  rw [plain_92] at C
  have hx : ((t[i]).toNat : Int) = 92 := by rw [ch_at t i hi, h92]; rfl
  by_cases he : i + 1 = t.size
  · have h2 : (i : Int) + 1 = (t.size : Int) := by omega
    clear hh
    go_enter Try.func43, Try.ntmps43
    go_wp2_with fail
    refine (unhide C _).mono ?_
    rintro e w1 ⟨rfl, rfl⟩
    go_wp2
    refine wp_loop_rounds 1 ?_
    rw [rounds_succ]
    go_wp2
    refine bodyPost_ret (v := .tuple #[.int .u8 0, .int .i64 0, fv 2 (i + 1)]) ?_ rfl ⟨rfl, (Below.refl _ _).alloc (Nat.le_refl _) _⟩
    simp [results, Try.results43, go_sem, fv]
    omega
  · have hi1 : i + 1 < t.size := by omega
    have h2 : (i : Int) + 1 < (t.size : Int) := by omega
    have D := hide (fun W => isDigit_any (t[i + 1]).toNat (UInt8.toNat_lt _) W)
    rw [ch_at t (i + 1) hi1, hh] at D
    have hx1 : ((t[i + 1]).toNat : Int) = (ch t (i + 1) : Int) := by rw [ch_at t (i + 1) hi1]
    generalize ch t (i + 1) = c at *
    clear hh
    go_enter Try.func43, Try.ntmps43
    go_wp2_with fail
    refine (unhide C _).mono ?_
    rintro e w1 ⟨rfl, rfl⟩
    go_wp2
    refine wp_loop_rounds 1 ?_
    rw [rounds_succ]
    go_wp2_with fail
    refine (unhide D _).mono ?_
    rintro e w1 ⟨rfl, rfl⟩
    go_wp2
    refine bodyPost_ret (v := .tuple #[.int .u8 0, .int .i64 0, fv 2 (i + 1)]) ?_ rfl ⟨rfl, (Below.refl _ _).alloc (Nat.le_refl _) _⟩
    simp [results, Try.results43, go_sem, fv]

set_option maxHeartbeats 400000 in
theorem readByte_two (t : ByteArray) (i : Nat) (w : World) (ht : t.size ≤ 65536) (hi : i < t.size) (h92 : ch t i = 92) (hh : hexN (ch t (i + 1)) = true) (hk : hexN (ch t (i + 2)) = false) :
    Calls Try.prog 43 #[.string t, .int .i64 (i : Int)] w fun e w' => e = .returned (.tuple #[.int .u8 0, .int .i64 0, fv 2 (i + 2)]) ∧ Below w.heap.size w w' := by
  have h1 : (i : Int) < (t.size : Int) := by omega
  have hi1 : i + 1 < t.size := by
    by_cases h : i + 1 < t.size
    · exact h
    · rw [ch_end t (i + 1) (by omega), hex_zero] at hh; cases hh
  have C := hide (fun W => stands_any 92 (by omega) W)
  rw [plain_92] at C
  have hx : ((t[i]).toNat : Int) = 92 := by rw [ch_at t i hi, h92]; rfl
  have h2 : (i : Int) + 1 < (t.size : Int) := by omega
  have D := hide (fun W => isDigit_any (t[i + 1]).toNat (UInt8.toNat_lt _) W)
  rw [ch_at t (i + 1) hi1, hh] at D
  have E := hide (fun W => worth_any (ch t (i + 1)) (ch_lt _ _) hh W)
  have hx1 : ((t[i + 1]).toNat : Int) = (ch t (i + 1) : Int) := by rw [ch_at t (i + 1) hi1]
  generalize ch t (i + 1) = c at *
  clear hh
  by_cases he : i + 2 = t.size
  · have h3 : (i : Int) + 1 + 1 = (t.size : Int) := by omega
    clear hk
    go_enter Try.func43, Try.ntmps43
    go_wp2_with fail
    refine (unhide C _).mono ?_
    rintro e w1 ⟨rfl, rfl⟩
    go_wp2
    refine wp_loop_rounds 2 ?_
    rw [rounds_succ]
    go_wp2_with fail
    refine (unhide D _).mono ?_
    rintro e w1 ⟨rfl, rfl⟩
    go_wp2_with fail
    refine (unhide E _).mono ?_
    rintro e w1 ⟨rfl, rfl⟩
    go_wp2
    rw [rounds_succ]
    go_wp2
    refine bodyPost_ret (v := .tuple #[.int .u8 0, .int .i64 0, fv 2 (i + 2)]) ?_ rfl ⟨rfl, (Below.refl _ _).alloc (Nat.le_refl _) _⟩
    simp [results, Try.results43, go_sem, fv]
    omega
  · have hi2 : i + 2 < t.size := by omega
    have h3 : (i : Int) + 1 + 1 < (t.size : Int) := by omega
    have F := hide (fun W => isDigit_any (t[i + 1 + 1]).toNat (UInt8.toNat_lt _) W)
    rw [ch_at t (i + 1 + 1) hi2, show i + 1 + 1 = i + 2 from rfl, hk] at F
    have hx2 : ((t[i + 1 + 1]).toNat : Int) = (ch t (i + 2) : Int) := by rw [ch_at t (i + 1 + 1) hi2]
    generalize ch t (i + 2) = d at *
    clear hk
    go_enter Try.func43, Try.ntmps43
    go_wp2_with fail
    refine (unhide C _).mono ?_
    rintro e w1 ⟨rfl, rfl⟩
    go_wp2
    refine wp_loop_rounds 2 ?_
    rw [rounds_succ]
    go_wp2_with fail
    refine (unhide D _).mono ?_
    rintro e w1 ⟨rfl, rfl⟩
    go_wp2_with fail
    refine (unhide E _).mono ?_
    rintro e w1 ⟨rfl, rfl⟩
    go_wp2
    rw [rounds_succ]
    go_wp2_with fail
    refine (unhide F _).mono ?_
    rintro e w1 ⟨rfl, rfl⟩
    go_wp2
    refine bodyPost_ret (v := .tuple #[.int .u8 0, .int .i64 0, fv 2 (i + 2)]) ?_ rfl ⟨rfl, (Below.refl _ _).alloc (Nat.le_refl _) _⟩
    simp [results, Try.results43, go_sem, fv]
    omega

theorem hexVal_lt {b : Nat} (h : hexN b = true) : hexVal b < 16 := by
  have := of_decide_eq_true h
  unfold hexVal
  split <;> omega
/-- Two digits by sixteens as Go puts them together. -/
theorem two_hex : ∀ a b : Fin 16, bits BinOp.or IntKind.u8 (bits BinOp.or IntKind.u8 0 (a.val : Int) * 16 % 256) (b.val : Int) = ((16 * a.val + b.val : Nat) : Int) := by decide +kernel
theorem two_hex' (a b : Nat) (ha : a < 16) (hb : b < 16) : bits BinOp.or IntKind.u8 (bits BinOp.or IntKind.u8 0 (a : Int) * 16 % 256) (b : Int) = ((16 * a + b : Nat) : Int) := two_hex ⟨a, ha⟩ ⟨b, hb⟩

set_option maxHeartbeats 400000 in
theorem readByte_three (t : ByteArray) (i : Nat) (w : World) (ht : t.size ≤ 65536) (hi : i < t.size) (h92 : ch t i = 92) (hh : hexN (ch t (i + 1)) = true) (hk : hexN (ch t (i + 2)) = true) :
    Calls Try.prog 43 #[.string t, .int .i64 (i : Int)] w fun e w' => e = .returned (.tuple #[.int .u8 ((16 * hexVal (ch t (i + 1)) + hexVal (ch t (i + 2)) : Nat) : Int), .int .i64 ((i + 3 : Nat) : Int), fv 0 0]) ∧ Below w.heap.size w w' := by
  have h1 : (i : Int) < (t.size : Int) := by omega
  have hi1 : i + 1 < t.size := by
    by_cases h : i + 1 < t.size
    · exact h
    · rw [ch_end t (i + 1) (by omega), hex_zero] at hh; cases hh
  have hi2 : i + 2 < t.size := by
    by_cases h : i + 2 < t.size
    · exact h
    · rw [ch_end t (i + 2) (by omega), hex_zero] at hk; cases hk
  have C := hide (fun W => stands_any 92 (by omega) W)
  rw [plain_92] at C
  have hx : ((t[i]).toNat : Int) = 92 := by rw [ch_at t i hi, h92]; rfl
  have h2 : (i : Int) + 1 < (t.size : Int) := by omega
  have h3 : (i : Int) + 1 + 1 < (t.size : Int) := by omega
  have D := hide (fun W => isDigit_any (t[i + 1]).toNat (UInt8.toNat_lt _) W)
  rw [ch_at t (i + 1) hi1, hh] at D
  have E := hide (fun W => worth_any (ch t (i + 1)) (ch_lt _ _) hh W)
  have hx1 : ((t[i + 1]).toNat : Int) = (ch t (i + 1) : Int) := by rw [ch_at t (i + 1) hi1]
  have F := hide (fun W => isDigit_any (t[i + 1 + 1]).toNat (UInt8.toNat_lt _) W)
  rw [ch_at t (i + 1 + 1) hi2, show i + 1 + 1 = i + 2 from rfl, hk] at F
  have G := hide (fun W => worth_any (ch t (i + 2)) (ch_lt _ _) hk W)
  have hx2 : ((t[i + 1 + 1]).toNat : Int) = (ch t (i + 2) : Int) := by rw [ch_at t (i + 1 + 1) hi2]
  have la := hexVal_lt hh
  have lb := hexVal_lt hk
  generalize hexVal (ch t (i + 1)) = a at *
  generalize hexVal (ch t (i + 2)) = b at *
  generalize ch t (i + 1) = c at *
  generalize ch t (i + 2) = d at *
  clear hh hk
  go_enter Try.func43, Try.ntmps43
  go_wp2_with fail
  refine (unhide C _).mono ?_
  rintro e w1 ⟨rfl, rfl⟩
  go_wp2
  refine wp_loop_rounds 3 ?_
  rw [rounds_succ]
  go_wp2_with fail
  refine (unhide D _).mono ?_
  rintro e w1 ⟨rfl, rfl⟩
  go_wp2_with fail
  refine (unhide E _).mono ?_
  rintro e w1 ⟨rfl, rfl⟩
  go_wp2
  rw [rounds_succ]
  go_wp2_with fail
  refine (unhide F _).mono ?_
  rintro e w1 ⟨rfl, rfl⟩
  go_wp2_with fail
  refine (unhide G _).mono ?_
  rintro e w1 ⟨rfl, rfl⟩
  go_wp2
  rw [rounds_succ]
  go_wp2
  refine bodyPost_ret (v := .tuple #[.int .u8 ((16 * a + b : Nat) : Int), .int .i64 ((i + 3 : Nat) : Int), fv 0 0]) ?_ rfl ⟨rfl, (Below.refl _ _).alloc (Nat.le_refl _) _⟩
  rw [two_hex' a b la lb, show (i : Int) + 1 + 1 + 1 = ((i + 3 : Nat) : Int) by omega]
  simp [results, Try.results43, go_sem, fv]

theorem readByte_any (t : ByteArray) (i : Nat) (w : World) (ht : t.size ≤ 65536) (hi : i ≤ t.size) :
    Calls Try.prog 43 #[.string t, .int .i64 (i : Int)] w fun e w' => e = .returned (rbV (rb (ch t) i)) ∧ Below w.heap.size w w' := by
  unfold rb
  by_cases he : i = t.size
  · subst he
    rw [ch_end t t.size (Nat.le_refl _), plain_zero, if_neg (by decide), if_pos (by decide)]
    exact readByte_end t w
  · have hlt : i < t.size := by omega
    cases hp : plainN (ch t i) with
    | true =>
      rw [if_pos rfl]
      exact readByte_plain t i w ht hlt hp
    | false =>
      rw [if_neg (by decide)]
      by_cases h92 : ch t i = 92
      · rw [if_neg (by omega)]
        cases h1 : hexN (ch t (i + 1)) with
        | false =>
          rw [if_pos rfl]
          exact readByte_one t i w ht hlt h92 h1
        | true =>
          rw [if_neg (by decide)]
          cases h2 : hexN (ch t (i + 2)) with
          | false =>
            rw [if_pos rfl]
            exact readByte_two t i w ht hlt h92 h1 h2
          | true =>
            rw [if_neg (by decide)]
            exact readByte_three t i w ht hlt h92 h1 h2
      · rw [if_pos h92]
        exact readByte_bad t i w hlt hp h92
end Go.Proofs.Ytgamnhmkimonnaa
