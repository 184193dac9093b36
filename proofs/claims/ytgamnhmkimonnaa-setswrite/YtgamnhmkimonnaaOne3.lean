/- What the document's One does, for every text and place. -/
import Derived.Test.YtgamnhmkimonnaaReadByte
namespace Go.Proofs.Ytgamnhmkimonnaa
open Go.RowKit

def oneV (r : Bool × Nat × Nat) : Value := if r.1 then .tuple #[.int .i64 (r.2.1 : Int), .int .i64 (r.2.2 : Int)] else .tuple #[.int .i64 (-1), .int .i64 (r.2.2 : Int)]

set_option maxHeartbeats 400000 in
theorem one_plain (t : ByteArray) (i : Nat) (w : World) (ht : t.size ≤ 65536) (hi : i < t.size) (hp : plainN (ch t i) = true) :
    Calls Try.prog 39 #[.string t, .int .i64 (i : Int)] w fun e w' => e = .returned (.tuple #[.int .i64 (ch t i : Int), .int .i64 ((i + 1 : Nat) : Int)]) ∧ w' = w := by
  have h1 : (i : Int) < (t.size : Int) := by omega
  have C := hide (fun W => refPlain_any (t[i]).toNat (UInt8.toNat_lt _) W)
  rw [ch_at t i hi, hp] at C
  have hx : ((t[i]).toNat : Int) = (ch t i : Int) := by rw [ch_at t i hi]
  have hl := ch_lt t i
  have hw1 : wrap64 (ch t i : Int) = (ch t i : Int) := IntWalk.wrap64_in _ (by omega)
  generalize ch t i = c at *
  go_enter Try.func39, Try.ntmps39
  go_wp2_with fail
  refine (unhide C _).mono ?_
  rintro e w ⟨rfl, rfl⟩
  go_wp2
  go_ret2
  exact ⟨rfl, rfl⟩

set_option maxHeartbeats 400000 in
theorem one_end (t : ByteArray) (w : World) :
    Calls Try.prog 39 #[.string t, .int .i64 (t.size : Int)] w fun e w' => e = .returned (.tuple #[.int .i64 (-1), .int .i64 (t.size : Int)]) ∧ w' = w := by
  go_enter Try.func39, Try.ntmps39
  go_wp2
  go_ret2
  exact ⟨rfl, rfl⟩

set_option maxHeartbeats 400000 in
theorem one_bad (t : ByteArray) (i : Nat) (w : World) (hi : i < t.size) (hp : plainN (ch t i) = false) (h92 : ch t i ≠ 92) :
    Calls Try.prog 39 #[.string t, .int .i64 (i : Int)] w fun e w' => e = .returned (.tuple #[.int .i64 (-1), .int .i64 (i : Int)]) ∧ w' = w := by
  have h1 : (i : Int) < (t.size : Int) := by omega
  have C := hide (fun W => refPlain_any (t[i]).toNat (UInt8.toNat_lt _) W)
  rw [ch_at t i hi, hp] at C
  have hx : ((t[i]).toNat : Int) = (ch t i : Int) := by rw [ch_at t i hi]
  have hq : ((ch t i : Int) != 92) = true := by rw [bne_iff_ne]; omega
  generalize ch t i = c at *
  go_enter Try.func39, Try.ntmps39
  go_wp2_with fail
  refine (unhide C _).mono ?_
  rintro e w ⟨rfl, rfl⟩
  go_wp2
  go_ret2
  exact ⟨rfl, rfl⟩

set_option maxHeartbeats 1000000 in
theorem one_ax (t : ByteArray) (i : Nat) (w : World) (ht : t.size ≤ 65536) (hi : i < t.size) (h92 : ch t i = 92) (h1b : i + 1 = t.size) :
    Calls Try.prog 39 #[.string t, .int .i64 (i : Int)] w fun e w' => e = .returned (.tuple #[.int .i64 (-1), .int .i64 ((i + 1 : Nat) : Int)]) ∧ w' = w := by
  have h1 : (i : Int) < (t.size : Int) := by omega
  have C := hide (fun W => refPlain_any 92 (by omega) W)
  rw [plain_92] at C
  have hx : ((t[i]).toNat : Int) = 92 := by rw [ch_at t i hi, h92]; rfl
  have hx1 : (i : Int) + 1 = (t.size : Int) := by omega
  go_enter Try.func39, Try.ntmps39
  go_wp2_with fail
  refine (unhide C _).mono ?_
  rintro e w ⟨rfl, rfl⟩
  go_wp2
  refine wp_loop_rounds 1 ?_
  rw [rounds_succ]
  go_wp2
  go_ret2
  exact ⟨by first | rfl | (simp; omega), rfl⟩

set_option maxHeartbeats 1000000 in
theorem one_an0 (t : ByteArray) (i : Nat) (w : World) (ht : t.size ≤ 65536) (hi : i < t.size) (h92 : ch t i = 92) (h1b : i + 1 < t.size) (h1k : ch t (i + 1) < 48) :
    Calls Try.prog 39 #[.string t, .int .i64 (i : Int)] w fun e w' => e = .returned (.tuple #[.int .i64 (-1), .int .i64 ((i + 1 : Nat) : Int)]) ∧ w' = w := by
  have h1 : (i : Int) < (t.size : Int) := by omega
  have C := hide (fun W => refPlain_any 92 (by omega) W)
  rw [plain_92] at C
  have hx : ((t[i]).toNat : Int) = 92 := by rw [ch_at t i hi, h92]; rfl
  have hlt1 : (i : Int) + 1 < (t.size : Int) := by omega
  have hy1 : ((t[i + 1]).toNat : Int) = (ch t (i + 1) : Int) := by rw [ch_at t (i + 1) h1b]
  generalize ch t (i + 1) = c at *
  have r1 : c < 97 := by omega
  go_enter Try.func39, Try.ntmps39
  go_wp2_with fail
  refine (unhide C _).mono ?_
  rintro e w ⟨rfl, rfl⟩
  go_wp2
  refine wp_loop_rounds 1 ?_
  rw [rounds_succ]
  go_wp2
  go_ret2
  exact ⟨by first | rfl | (simp; omega), rfl⟩

set_option maxHeartbeats 1000000 in
theorem one_an1 (t : ByteArray) (i : Nat) (w : World) (ht : t.size ≤ 65536) (hi : i < t.size) (h92 : ch t i = 92) (h1b : i + 1 < t.size) (h1k : 57 < ch t (i + 1) ∧ ch t (i + 1) < 97) :
    Calls Try.prog 39 #[.string t, .int .i64 (i : Int)] w fun e w' => e = .returned (.tuple #[.int .i64 (-1), .int .i64 ((i + 1 : Nat) : Int)]) ∧ w' = w := by
  have h1 : (i : Int) < (t.size : Int) := by omega
  have C := hide (fun W => refPlain_any 92 (by omega) W)
  rw [plain_92] at C
  have hx : ((t[i]).toNat : Int) = 92 := by rw [ch_at t i hi, h92]; rfl
  have hlt1 : (i : Int) + 1 < (t.size : Int) := by omega
  have hy1 : ((t[i + 1]).toNat : Int) = (ch t (i + 1) : Int) := by rw [ch_at t (i + 1) h1b]
  generalize ch t (i + 1) = c at *
  obtain ⟨p1, q1⟩ := h1k
  have r1 : 48 ≤ c := by omega
  go_enter Try.func39, Try.ntmps39
  go_wp2_with fail
  refine (unhide C _).mono ?_
  rintro e w ⟨rfl, rfl⟩
  go_wp2
  refine wp_loop_rounds 1 ?_
  rw [rounds_succ]
  go_wp2
  go_ret2
  exact ⟨by first | rfl | (simp; omega), rfl⟩

set_option maxHeartbeats 1000000 in
theorem one_an2 (t : ByteArray) (i : Nat) (w : World) (ht : t.size ≤ 65536) (hi : i < t.size) (h92 : ch t i = 92) (h1b : i + 1 < t.size) (h1k : 102 < ch t (i + 1)) :
    Calls Try.prog 39 #[.string t, .int .i64 (i : Int)] w fun e w' => e = .returned (.tuple #[.int .i64 (-1), .int .i64 ((i + 1 : Nat) : Int)]) ∧ w' = w := by
  have h1 : (i : Int) < (t.size : Int) := by omega
  have C := hide (fun W => refPlain_any 92 (by omega) W)
  rw [plain_92] at C
  have hx : ((t[i]).toNat : Int) = 92 := by rw [ch_at t i hi, h92]; rfl
  have hlt1 : (i : Int) + 1 < (t.size : Int) := by omega
  have hy1 : ((t[i + 1]).toNat : Int) = (ch t (i + 1) : Int) := by rw [ch_at t (i + 1) h1b]
  generalize ch t (i + 1) = c at *
  have r1 : 57 < c := by omega
  have s1 : 97 ≤ c := by omega
  have s1' : 48 ≤ c := by omega
  go_enter Try.func39, Try.ntmps39
  go_wp2_with fail
  refine (unhide C _).mono ?_
  rintro e w ⟨rfl, rfl⟩
  go_wp2
  refine wp_loop_rounds 1 ?_
  rw [rounds_succ]
  go_wp2
  go_ret2
  exact ⟨by first | rfl | (simp; omega), rfl⟩

set_option maxHeartbeats 1000000 in
theorem one_bdx (t : ByteArray) (i : Nat) (w : World) (ht : t.size ≤ 65536) (hi : i < t.size) (h92 : ch t i = 92) (h1b : i + 1 < t.size) (h1k : 48 ≤ ch t (i + 1) ∧ ch t (i + 1) ≤ 57) (h2b : i + 2 = t.size) :
    Calls Try.prog 39 #[.string t, .int .i64 (i : Int)] w fun e w' => e = .returned (.tuple #[.int .i64 (-1), .int .i64 ((i + 2 : Nat) : Int)]) ∧ w' = w := by
  have h1 : (i : Int) < (t.size : Int) := by omega
  have C := hide (fun W => refPlain_any 92 (by omega) W)
  rw [plain_92] at C
  have hx : ((t[i]).toNat : Int) = 92 := by rw [ch_at t i hi, h92]; rfl
  have hlt1 : (i : Int) + 1 < (t.size : Int) := by omega
  have hy1 : ((t[i + 1]).toNat : Int) = (ch t (i + 1) : Int) := by rw [ch_at t (i + 1) h1b]
  generalize ch t (i + 1) = c at *
  have hx2 : (i : Int) + 2 = (t.size : Int) := by omega
  obtain ⟨p1, q1⟩ := h1k
  have wr1 : wrap64 ((c : Int) - 48) = (c : Int) - 48 := IntWalk.wrap64_in _ (by omega)
  go_enter Try.func39, Try.ntmps39
  go_wp2_with fail
  refine (unhide C _).mono ?_
  rintro e w ⟨rfl, rfl⟩
  go_wp2
  refine wp_loop_rounds 2 ?_
  rw [rounds_succ]
  go_wp2
  rw [rounds_succ]
  go_wp2
  go_ret2
  exact ⟨by first | rfl | (simp; omega), rfl⟩

set_option maxHeartbeats 1000000 in
theorem one_bdn0 (t : ByteArray) (i : Nat) (w : World) (ht : t.size ≤ 65536) (hi : i < t.size) (h92 : ch t i = 92) (h1b : i + 1 < t.size) (h1k : 48 ≤ ch t (i + 1) ∧ ch t (i + 1) ≤ 57) (h2b : i + 2 < t.size) (h2k : ch t (i + 2) < 48) :
    Calls Try.prog 39 #[.string t, .int .i64 (i : Int)] w fun e w' => e = .returned (.tuple #[.int .i64 (-1), .int .i64 ((i + 2 : Nat) : Int)]) ∧ w' = w := by
  have h1 : (i : Int) < (t.size : Int) := by omega
  have C := hide (fun W => refPlain_any 92 (by omega) W)
  rw [plain_92] at C
  have hx : ((t[i]).toNat : Int) = 92 := by rw [ch_at t i hi, h92]; rfl
  have hlt1 : (i : Int) + 1 < (t.size : Int) := by omega
  have hy1 : ((t[i + 1]).toNat : Int) = (ch t (i + 1) : Int) := by rw [ch_at t (i + 1) h1b]
  generalize ch t (i + 1) = c at *
  have hlt2 : (i : Int) + 2 < (t.size : Int) := by omega
  have hy2 : ((t[i + 2]).toNat : Int) = (ch t (i + 2) : Int) := by rw [ch_at t (i + 2) h2b]
  generalize ch t (i + 2) = d at *
  obtain ⟨p1, q1⟩ := h1k
  have wr1 : wrap64 ((c : Int) - 48) = (c : Int) - 48 := IntWalk.wrap64_in _ (by omega)
  have r2 : d < 97 := by omega
  go_enter Try.func39, Try.ntmps39
  go_wp2_with fail
  refine (unhide C _).mono ?_
  rintro e w ⟨rfl, rfl⟩
  go_wp2
  refine wp_loop_rounds 2 ?_
  rw [rounds_succ]
  go_wp2
  rw [rounds_succ]
  go_wp2
  go_ret2
  exact ⟨by first | rfl | (simp; omega), rfl⟩

set_option maxHeartbeats 1000000 in
theorem one_bdn1 (t : ByteArray) (i : Nat) (w : World) (ht : t.size ≤ 65536) (hi : i < t.size) (h92 : ch t i = 92) (h1b : i + 1 < t.size) (h1k : 48 ≤ ch t (i + 1) ∧ ch t (i + 1) ≤ 57) (h2b : i + 2 < t.size) (h2k : 57 < ch t (i + 2) ∧ ch t (i + 2) < 97) :
    Calls Try.prog 39 #[.string t, .int .i64 (i : Int)] w fun e w' => e = .returned (.tuple #[.int .i64 (-1), .int .i64 ((i + 2 : Nat) : Int)]) ∧ w' = w := by
  have h1 : (i : Int) < (t.size : Int) := by omega
  have C := hide (fun W => refPlain_any 92 (by omega) W)
  rw [plain_92] at C
  have hx : ((t[i]).toNat : Int) = 92 := by rw [ch_at t i hi, h92]; rfl
  have hlt1 : (i : Int) + 1 < (t.size : Int) := by omega
  have hy1 : ((t[i + 1]).toNat : Int) = (ch t (i + 1) : Int) := by rw [ch_at t (i + 1) h1b]
  generalize ch t (i + 1) = c at *
  have hlt2 : (i : Int) + 2 < (t.size : Int) := by omega
  have hy2 : ((t[i + 2]).toNat : Int) = (ch t (i + 2) : Int) := by rw [ch_at t (i + 2) h2b]
  generalize ch t (i + 2) = d at *
  obtain ⟨p1, q1⟩ := h1k
  have wr1 : wrap64 ((c : Int) - 48) = (c : Int) - 48 := IntWalk.wrap64_in _ (by omega)
  obtain ⟨p2, q2⟩ := h2k
  have r2 : 48 ≤ d := by omega
  go_enter Try.func39, Try.ntmps39
  go_wp2_with fail
  refine (unhide C _).mono ?_
  rintro e w ⟨rfl, rfl⟩
  go_wp2
  refine wp_loop_rounds 2 ?_
  rw [rounds_succ]
  go_wp2
  rw [rounds_succ]
  go_wp2
  go_ret2
  exact ⟨by first | rfl | (simp; omega), rfl⟩

set_option maxHeartbeats 1000000 in
theorem one_bdn2 (t : ByteArray) (i : Nat) (w : World) (ht : t.size ≤ 65536) (hi : i < t.size) (h92 : ch t i = 92) (h1b : i + 1 < t.size) (h1k : 48 ≤ ch t (i + 1) ∧ ch t (i + 1) ≤ 57) (h2b : i + 2 < t.size) (h2k : 102 < ch t (i + 2)) :
    Calls Try.prog 39 #[.string t, .int .i64 (i : Int)] w fun e w' => e = .returned (.tuple #[.int .i64 (-1), .int .i64 ((i + 2 : Nat) : Int)]) ∧ w' = w := by
  have h1 : (i : Int) < (t.size : Int) := by omega
  have C := hide (fun W => refPlain_any 92 (by omega) W)
  rw [plain_92] at C
  have hx : ((t[i]).toNat : Int) = 92 := by rw [ch_at t i hi, h92]; rfl
  have hlt1 : (i : Int) + 1 < (t.size : Int) := by omega
  have hy1 : ((t[i + 1]).toNat : Int) = (ch t (i + 1) : Int) := by rw [ch_at t (i + 1) h1b]
  generalize ch t (i + 1) = c at *
  have hlt2 : (i : Int) + 2 < (t.size : Int) := by omega
  have hy2 : ((t[i + 2]).toNat : Int) = (ch t (i + 2) : Int) := by rw [ch_at t (i + 2) h2b]
  generalize ch t (i + 2) = d at *
  obtain ⟨p1, q1⟩ := h1k
  have wr1 : wrap64 ((c : Int) - 48) = (c : Int) - 48 := IntWalk.wrap64_in _ (by omega)
  have r2 : 57 < d := by omega
  have s2 : 97 ≤ d := by omega
  have s2' : 48 ≤ d := by omega
  go_enter Try.func39, Try.ntmps39
  go_wp2_with fail
  refine (unhide C _).mono ?_
  rintro e w ⟨rfl, rfl⟩
  go_wp2
  refine wp_loop_rounds 2 ?_
  rw [rounds_succ]
  go_wp2
  rw [rounds_succ]
  go_wp2
  go_ret2
  exact ⟨by first | rfl | (simp; omega), rfl⟩

set_option maxHeartbeats 1000000 in
theorem one_cdd (t : ByteArray) (i : Nat) (w : World) (ht : t.size ≤ 65536) (hi : i < t.size) (h92 : ch t i = 92) (h1b : i + 1 < t.size) (h1k : 48 ≤ ch t (i + 1) ∧ ch t (i + 1) ≤ 57) (h2b : i + 2 < t.size) (h2k : 48 ≤ ch t (i + 2) ∧ ch t (i + 2) ≤ 57) :
    Calls Try.prog 39 #[.string t, .int .i64 (i : Int)] w fun e w' => e = .returned (.tuple #[.int .i64 ((16 * (ch t (i + 1) - 48) + (ch t (i + 2) - 48) : Nat) : Int), .int .i64 ((i + 3 : Nat) : Int)]) ∧ w' = w := by
  have h1 : (i : Int) < (t.size : Int) := by omega
  have C := hide (fun W => refPlain_any 92 (by omega) W)
  rw [plain_92] at C
  have hx : ((t[i]).toNat : Int) = 92 := by rw [ch_at t i hi, h92]; rfl
  have hlt1 : (i : Int) + 1 < (t.size : Int) := by omega
  have hy1 : ((t[i + 1]).toNat : Int) = (ch t (i + 1) : Int) := by rw [ch_at t (i + 1) h1b]
  generalize ch t (i + 1) = c at *
  have hlt2 : (i : Int) + 2 < (t.size : Int) := by omega
  have hy2 : ((t[i + 2]).toNat : Int) = (ch t (i + 2) : Int) := by rw [ch_at t (i + 2) h2b]
  generalize ch t (i + 2) = d at *
  obtain ⟨p1, q1⟩ := h1k
  have wr1 : wrap64 ((c : Int) - 48) = (c : Int) - 48 := IntWalk.wrap64_in _ (by omega)
  obtain ⟨p2, q2⟩ := h2k
  have wr2 : wrap64 ((d : Int) - 48) = (d : Int) - 48 := IntWalk.wrap64_in _ (by omega)
  go_enter Try.func39, Try.ntmps39
  go_wp2_with fail
  refine (unhide C _).mono ?_
  rintro e w ⟨rfl, rfl⟩
  go_wp2
  refine wp_loop_rounds 3 ?_
  rw [rounds_succ]
  go_wp2
  rw [rounds_succ]
  go_wp2
  rw [rounds_succ]
  go_wp2
  go_ret2
  exact ⟨by first | rfl | (simp; omega), rfl⟩

set_option maxHeartbeats 1000000 in
theorem one_cdl (t : ByteArray) (i : Nat) (w : World) (ht : t.size ≤ 65536) (hi : i < t.size) (h92 : ch t i = 92) (h1b : i + 1 < t.size) (h1k : 48 ≤ ch t (i + 1) ∧ ch t (i + 1) ≤ 57) (h2b : i + 2 < t.size) (h2k : 97 ≤ ch t (i + 2) ∧ ch t (i + 2) ≤ 102) :
    Calls Try.prog 39 #[.string t, .int .i64 (i : Int)] w fun e w' => e = .returned (.tuple #[.int .i64 ((16 * (ch t (i + 1) - 48) + (ch t (i + 2) - 87) : Nat) : Int), .int .i64 ((i + 3 : Nat) : Int)]) ∧ w' = w := by
  have h1 : (i : Int) < (t.size : Int) := by omega
  have C := hide (fun W => refPlain_any 92 (by omega) W)
  rw [plain_92] at C
  have hx : ((t[i]).toNat : Int) = 92 := by rw [ch_at t i hi, h92]; rfl
  have hlt1 : (i : Int) + 1 < (t.size : Int) := by omega
  have hy1 : ((t[i + 1]).toNat : Int) = (ch t (i + 1) : Int) := by rw [ch_at t (i + 1) h1b]
  generalize ch t (i + 1) = c at *
  have hlt2 : (i : Int) + 2 < (t.size : Int) := by omega
  have hy2 : ((t[i + 2]).toNat : Int) = (ch t (i + 2) : Int) := by rw [ch_at t (i + 2) h2b]
  generalize ch t (i + 2) = d at *
  obtain ⟨p1, q1⟩ := h1k
  have wr1 : wrap64 ((c : Int) - 48) = (c : Int) - 48 := IntWalk.wrap64_in _ (by omega)
  obtain ⟨p2, q2⟩ := h2k
  have r2 : 57 < d := by omega
  have s2 : 48 ≤ d := by omega
  have wr2 : wrap64 ((d : Int) - 97) = (d : Int) - 97 := IntWalk.wrap64_in _ (by omega)
  go_enter Try.func39, Try.ntmps39
  go_wp2_with fail
  refine (unhide C _).mono ?_
  rintro e w ⟨rfl, rfl⟩
  go_wp2
  refine wp_loop_rounds 3 ?_
  rw [rounds_succ]
  go_wp2
  rw [rounds_succ]
  go_wp2
  rw [rounds_succ]
  go_wp2
  go_ret2
  exact ⟨by first | rfl | (simp; omega), rfl⟩

set_option maxHeartbeats 1000000 in
theorem one_blx (t : ByteArray) (i : Nat) (w : World) (ht : t.size ≤ 65536) (hi : i < t.size) (h92 : ch t i = 92) (h1b : i + 1 < t.size) (h1k : 97 ≤ ch t (i + 1) ∧ ch t (i + 1) ≤ 102) (h2b : i + 2 = t.size) :
    Calls Try.prog 39 #[.string t, .int .i64 (i : Int)] w fun e w' => e = .returned (.tuple #[.int .i64 (-1), .int .i64 ((i + 2 : Nat) : Int)]) ∧ w' = w := by
  have h1 : (i : Int) < (t.size : Int) := by omega
  have C := hide (fun W => refPlain_any 92 (by omega) W)
  rw [plain_92] at C
  have hx : ((t[i]).toNat : Int) = 92 := by rw [ch_at t i hi, h92]; rfl
  have hlt1 : (i : Int) + 1 < (t.size : Int) := by omega
  have hy1 : ((t[i + 1]).toNat : Int) = (ch t (i + 1) : Int) := by rw [ch_at t (i + 1) h1b]
  generalize ch t (i + 1) = c at *
  have hx2 : (i : Int) + 2 = (t.size : Int) := by omega
  obtain ⟨p1, q1⟩ := h1k
  have r1 : 57 < c := by omega
  have s1 : 48 ≤ c := by omega
  have wr1 : wrap64 ((c : Int) - 97) = (c : Int) - 97 := IntWalk.wrap64_in _ (by omega)
  go_enter Try.func39, Try.ntmps39
  go_wp2_with fail
  refine (unhide C _).mono ?_
  rintro e w ⟨rfl, rfl⟩
  go_wp2
  refine wp_loop_rounds 2 ?_
  rw [rounds_succ]
  go_wp2
  rw [rounds_succ]
  go_wp2
  go_ret2
  exact ⟨by first | rfl | (simp; omega), rfl⟩

set_option maxHeartbeats 1000000 in
theorem one_bln0 (t : ByteArray) (i : Nat) (w : World) (ht : t.size ≤ 65536) (hi : i < t.size) (h92 : ch t i = 92) (h1b : i + 1 < t.size) (h1k : 97 ≤ ch t (i + 1) ∧ ch t (i + 1) ≤ 102) (h2b : i + 2 < t.size) (h2k : ch t (i + 2) < 48) :
    Calls Try.prog 39 #[.string t, .int .i64 (i : Int)] w fun e w' => e = .returned (.tuple #[.int .i64 (-1), .int .i64 ((i + 2 : Nat) : Int)]) ∧ w' = w := by
  have h1 : (i : Int) < (t.size : Int) := by omega
  have C := hide (fun W => refPlain_any 92 (by omega) W)
  rw [plain_92] at C
  have hx : ((t[i]).toNat : Int) = 92 := by rw [ch_at t i hi, h92]; rfl
  have hlt1 : (i : Int) + 1 < (t.size : Int) := by omega
  have hy1 : ((t[i + 1]).toNat : Int) = (ch t (i + 1) : Int) := by rw [ch_at t (i + 1) h1b]
  generalize ch t (i + 1) = c at *
  have hlt2 : (i : Int) + 2 < (t.size : Int) := by omega
  have hy2 : ((t[i + 2]).toNat : Int) = (ch t (i + 2) : Int) := by rw [ch_at t (i + 2) h2b]
  generalize ch t (i + 2) = d at *
  obtain ⟨p1, q1⟩ := h1k
  have r1 : 57 < c := by omega
  have s1 : 48 ≤ c := by omega
  have wr1 : wrap64 ((c : Int) - 97) = (c : Int) - 97 := IntWalk.wrap64_in _ (by omega)
  have r2 : d < 97 := by omega
  go_enter Try.func39, Try.ntmps39
  go_wp2_with fail
  refine (unhide C _).mono ?_
  rintro e w ⟨rfl, rfl⟩
  go_wp2
  refine wp_loop_rounds 2 ?_
  rw [rounds_succ]
  go_wp2
  rw [rounds_succ]
  go_wp2
  go_ret2
  exact ⟨by first | rfl | (simp; omega), rfl⟩

set_option maxHeartbeats 1000000 in
theorem one_bln1 (t : ByteArray) (i : Nat) (w : World) (ht : t.size ≤ 65536) (hi : i < t.size) (h92 : ch t i = 92) (h1b : i + 1 < t.size) (h1k : 97 ≤ ch t (i + 1) ∧ ch t (i + 1) ≤ 102) (h2b : i + 2 < t.size) (h2k : 57 < ch t (i + 2) ∧ ch t (i + 2) < 97) :
    Calls Try.prog 39 #[.string t, .int .i64 (i : Int)] w fun e w' => e = .returned (.tuple #[.int .i64 (-1), .int .i64 ((i + 2 : Nat) : Int)]) ∧ w' = w := by
  have h1 : (i : Int) < (t.size : Int) := by omega
  have C := hide (fun W => refPlain_any 92 (by omega) W)
  rw [plain_92] at C
  have hx : ((t[i]).toNat : Int) = 92 := by rw [ch_at t i hi, h92]; rfl
  have hlt1 : (i : Int) + 1 < (t.size : Int) := by omega
  have hy1 : ((t[i + 1]).toNat : Int) = (ch t (i + 1) : Int) := by rw [ch_at t (i + 1) h1b]
  generalize ch t (i + 1) = c at *
  have hlt2 : (i : Int) + 2 < (t.size : Int) := by omega
  have hy2 : ((t[i + 2]).toNat : Int) = (ch t (i + 2) : Int) := by rw [ch_at t (i + 2) h2b]
  generalize ch t (i + 2) = d at *
  obtain ⟨p1, q1⟩ := h1k
  have r1 : 57 < c := by omega
  have s1 : 48 ≤ c := by omega
  have wr1 : wrap64 ((c : Int) - 97) = (c : Int) - 97 := IntWalk.wrap64_in _ (by omega)
  obtain ⟨p2, q2⟩ := h2k
  have r2 : 48 ≤ d := by omega
  go_enter Try.func39, Try.ntmps39
  go_wp2_with fail
  refine (unhide C _).mono ?_
  rintro e w ⟨rfl, rfl⟩
  go_wp2
  refine wp_loop_rounds 2 ?_
  rw [rounds_succ]
  go_wp2
  rw [rounds_succ]
  go_wp2
  go_ret2
  exact ⟨by first | rfl | (simp; omega), rfl⟩

set_option maxHeartbeats 1000000 in
theorem one_bln2 (t : ByteArray) (i : Nat) (w : World) (ht : t.size ≤ 65536) (hi : i < t.size) (h92 : ch t i = 92) (h1b : i + 1 < t.size) (h1k : 97 ≤ ch t (i + 1) ∧ ch t (i + 1) ≤ 102) (h2b : i + 2 < t.size) (h2k : 102 < ch t (i + 2)) :
    Calls Try.prog 39 #[.string t, .int .i64 (i : Int)] w fun e w' => e = .returned (.tuple #[.int .i64 (-1), .int .i64 ((i + 2 : Nat) : Int)]) ∧ w' = w := by
  have h1 : (i : Int) < (t.size : Int) := by omega
  have C := hide (fun W => refPlain_any 92 (by omega) W)
  rw [plain_92] at C
  have hx : ((t[i]).toNat : Int) = 92 := by rw [ch_at t i hi, h92]; rfl
  have hlt1 : (i : Int) + 1 < (t.size : Int) := by omega
  have hy1 : ((t[i + 1]).toNat : Int) = (ch t (i + 1) : Int) := by rw [ch_at t (i + 1) h1b]
  generalize ch t (i + 1) = c at *
  have hlt2 : (i : Int) + 2 < (t.size : Int) := by omega
  have hy2 : ((t[i + 2]).toNat : Int) = (ch t (i + 2) : Int) := by rw [ch_at t (i + 2) h2b]
  generalize ch t (i + 2) = d at *
  obtain ⟨p1, q1⟩ := h1k
  have r1 : 57 < c := by omega
  have s1 : 48 ≤ c := by omega
  have wr1 : wrap64 ((c : Int) - 97) = (c : Int) - 97 := IntWalk.wrap64_in _ (by omega)
  have r2 : 57 < d := by omega
  have s2 : 97 ≤ d := by omega
  have s2' : 48 ≤ d := by omega
  go_enter Try.func39, Try.ntmps39
  go_wp2_with fail
  refine (unhide C _).mono ?_
  rintro e w ⟨rfl, rfl⟩
  go_wp2
  refine wp_loop_rounds 2 ?_
  rw [rounds_succ]
  go_wp2
  rw [rounds_succ]
  go_wp2
  go_ret2
  exact ⟨by first | rfl | (simp; omega), rfl⟩

set_option maxHeartbeats 1000000 in
theorem one_cld (t : ByteArray) (i : Nat) (w : World) (ht : t.size ≤ 65536) (hi : i < t.size) (h92 : ch t i = 92) (h1b : i + 1 < t.size) (h1k : 97 ≤ ch t (i + 1) ∧ ch t (i + 1) ≤ 102) (h2b : i + 2 < t.size) (h2k : 48 ≤ ch t (i + 2) ∧ ch t (i + 2) ≤ 57) :
    Calls Try.prog 39 #[.string t, .int .i64 (i : Int)] w fun e w' => e = .returned (.tuple #[.int .i64 ((16 * (ch t (i + 1) - 87) + (ch t (i + 2) - 48) : Nat) : Int), .int .i64 ((i + 3 : Nat) : Int)]) ∧ w' = w := by
  have h1 : (i : Int) < (t.size : Int) := by omega
  have C := hide (fun W => refPlain_any 92 (by omega) W)
  rw [plain_92] at C
  have hx : ((t[i]).toNat : Int) = 92 := by rw [ch_at t i hi, h92]; rfl
  have hlt1 : (i : Int) + 1 < (t.size : Int) := by omega
  have hy1 : ((t[i + 1]).toNat : Int) = (ch t (i + 1) : Int) := by rw [ch_at t (i + 1) h1b]
  generalize ch t (i + 1) = c at *
  have hlt2 : (i : Int) + 2 < (t.size : Int) := by omega
  have hy2 : ((t[i + 2]).toNat : Int) = (ch t (i + 2) : Int) := by rw [ch_at t (i + 2) h2b]
  generalize ch t (i + 2) = d at *
  obtain ⟨p1, q1⟩ := h1k
  have r1 : 57 < c := by omega
  have s1 : 48 ≤ c := by omega
  have wr1 : wrap64 ((c : Int) - 97) = (c : Int) - 97 := IntWalk.wrap64_in _ (by omega)
  obtain ⟨p2, q2⟩ := h2k
  have wr2 : wrap64 ((d : Int) - 48) = (d : Int) - 48 := IntWalk.wrap64_in _ (by omega)
  go_enter Try.func39, Try.ntmps39
  go_wp2_with fail
  refine (unhide C _).mono ?_
  rintro e w ⟨rfl, rfl⟩
  go_wp2
  refine wp_loop_rounds 3 ?_
  rw [rounds_succ]
  go_wp2
  rw [rounds_succ]
  go_wp2
  rw [rounds_succ]
  go_wp2
  go_ret2
  exact ⟨by first | rfl | (simp; omega), rfl⟩

set_option maxHeartbeats 1000000 in
theorem one_cll (t : ByteArray) (i : Nat) (w : World) (ht : t.size ≤ 65536) (hi : i < t.size) (h92 : ch t i = 92) (h1b : i + 1 < t.size) (h1k : 97 ≤ ch t (i + 1) ∧ ch t (i + 1) ≤ 102) (h2b : i + 2 < t.size) (h2k : 97 ≤ ch t (i + 2) ∧ ch t (i + 2) ≤ 102) :
    Calls Try.prog 39 #[.string t, .int .i64 (i : Int)] w fun e w' => e = .returned (.tuple #[.int .i64 ((16 * (ch t (i + 1) - 87) + (ch t (i + 2) - 87) : Nat) : Int), .int .i64 ((i + 3 : Nat) : Int)]) ∧ w' = w := by
  have h1 : (i : Int) < (t.size : Int) := by omega
  have C := hide (fun W => refPlain_any 92 (by omega) W)
  rw [plain_92] at C
  have hx : ((t[i]).toNat : Int) = 92 := by rw [ch_at t i hi, h92]; rfl
  have hlt1 : (i : Int) + 1 < (t.size : Int) := by omega
  have hy1 : ((t[i + 1]).toNat : Int) = (ch t (i + 1) : Int) := by rw [ch_at t (i + 1) h1b]
  generalize ch t (i + 1) = c at *
  have hlt2 : (i : Int) + 2 < (t.size : Int) := by omega
  have hy2 : ((t[i + 2]).toNat : Int) = (ch t (i + 2) : Int) := by rw [ch_at t (i + 2) h2b]
  generalize ch t (i + 2) = d at *
  obtain ⟨p1, q1⟩ := h1k
  have r1 : 57 < c := by omega
  have s1 : 48 ≤ c := by omega
  have wr1 : wrap64 ((c : Int) - 97) = (c : Int) - 97 := IntWalk.wrap64_in _ (by omega)
  obtain ⟨p2, q2⟩ := h2k
  have r2 : 57 < d := by omega
  have s2 : 48 ≤ d := by omega
  have wr2 : wrap64 ((d : Int) - 97) = (d : Int) - 97 := IntWalk.wrap64_in _ (by omega)
  go_enter Try.func39, Try.ntmps39
  go_wp2_with fail
  refine (unhide C _).mono ?_
  rintro e w ⟨rfl, rfl⟩
  go_wp2
  refine wp_loop_rounds 3 ?_
  rw [rounds_succ]
  go_wp2
  rw [rounds_succ]
  go_wp2
  rw [rounds_succ]
  go_wp2
  go_ret2
  exact ⟨by first | rfl | (simp; omega), rfl⟩

theorem hexN_cases (c : Nat) : (hexN c = true ∧ ((48 ≤ c ∧ c ≤ 57) ∨ (97 ≤ c ∧ c ≤ 102))) ∨ (hexN c = false ∧ (c < 48 ∨ (57 < c ∧ c < 97) ∨ 102 < c)) := by
  by_cases h : (48 ≤ c ∧ c ≤ 57) ∨ (97 ≤ c ∧ c ≤ 102)
  · exact .inl ⟨decide_eq_true h, h⟩
  · exact .inr ⟨decide_eq_false h, by omega⟩
theorem hexVal_d {c : Nat} (h : 48 ≤ c ∧ c ≤ 57) : hexVal c = c - 48 := by unfold hexVal; rw [if_pos (by omega)]
theorem hexVal_l {c : Nat} (h : 97 ≤ c ∧ c ≤ 102) : hexVal c = c - 87 := by unfold hexVal; rw [if_neg (by omega)]
theorem one_any (t : ByteArray) (i : Nat) (w : World) (ht : t.size ≤ 65536) (hi : i ≤ t.size) :
    Calls Try.prog 39 #[.string t, .int .i64 (i : Int)] w fun e w' => e = .returned (oneV (rb (ch t) i)) ∧ w' = w := by
  unfold rb
  by_cases he : i = t.size
  · subst he
    rw [ch_end t t.size (Nat.le_refl _), plain_zero, if_neg (by decide), if_pos (by decide)]
    exact one_end t w
  · have hlt : i < t.size := by omega
    cases hp : plainN (ch t i) with
    | true =>
      rw [if_pos rfl]
      exact one_plain t i w ht hlt hp
    | false =>
      rw [if_neg (by decide)]
      by_cases h92 : ch t i = 92
      · rw [if_neg (by omega)]
        by_cases e1 : i + 1 = t.size
        · rw [ch_end t (i + 1) (by omega), hex_zero, if_pos rfl]
          exact one_ax t i w ht hlt h92 e1
        · have l1 : i + 1 < t.size := by omega
          rcases hexN_cases (ch t (i + 1)) with ⟨x1, k1⟩ | ⟨x1, k1⟩
          · rw [x1, if_neg (by decide)]
            by_cases e2 : i + 2 = t.size
            · rw [ch_end t (i + 2) (by omega), hex_zero, if_pos rfl]
              rcases k1 with k1 | k1
              · exact one_bdx t i w ht hlt h92 l1 k1 e2
              · exact one_blx t i w ht hlt h92 l1 k1 e2
            · have l2 : i + 2 < t.size := by omega
              rcases hexN_cases (ch t (i + 2)) with ⟨x2, k2⟩ | ⟨x2, k2⟩
              · rw [x2, if_neg (by decide)]
                rcases k1 with k1 | k1 <;> rcases k2 with k2 | k2
                · rw [hexVal_d k1, hexVal_d k2]; exact one_cdd t i w ht hlt h92 l1 k1 l2 k2
                · rw [hexVal_d k1, hexVal_l k2]; exact one_cdl t i w ht hlt h92 l1 k1 l2 k2
                · rw [hexVal_l k1, hexVal_d k2]; exact one_cld t i w ht hlt h92 l1 k1 l2 k2
                · rw [hexVal_l k1, hexVal_l k2]; exact one_cll t i w ht hlt h92 l1 k1 l2 k2
              · rw [x2, if_pos rfl]
                rcases k1 with k1 | k1 <;> rcases k2 with k2 | k2 | k2
                · exact one_bdn0 t i w ht hlt h92 l1 k1 l2 k2
                · exact one_bdn1 t i w ht hlt h92 l1 k1 l2 k2
                · exact one_bdn2 t i w ht hlt h92 l1 k1 l2 k2
                · exact one_bln0 t i w ht hlt h92 l1 k1 l2 k2
                · exact one_bln1 t i w ht hlt h92 l1 k1 l2 k2
                · exact one_bln2 t i w ht hlt h92 l1 k1 l2 k2
          · rw [x1, if_pos rfl]
            rcases k1 with k1 | k1 | k1
            · exact one_an0 t i w ht hlt h92 l1 k1
            · exact one_an1 t i w ht hlt h92 l1 k1
            · exact one_an2 t i w ht hlt h92 l1 k1
      · rw [if_pos h92]
        exact one_bad t i w hlt hp h92
end Go.Proofs.Ytgamnhmkimonnaa
