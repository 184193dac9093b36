/- What the document's whole numbers of any size do: laid, copied, added, taken away, multiplied. What sum, Abs, Neg, Set, Add and Sub do on the document's numbers of any size. What Uint64, Int64, bit, TrailingZeroBits and IsInt64 tell of the document's numbers. -/
import Derived.Test.YtpphjddljngkmaaGreatDoorYBigDivP
import Derived.Laws.Rows
import Derived.Deep.RegionHeld3
import Derived.Laws.BitsLemmas
namespace Go.Proofs.YtpphjddljngkmaaGreatDoor
open Go.RowKit

/-- A block that holds one of the document's numbers. -/
def IntBlock (w : World) (z : Nat) : Prop := ∃ s v, w.heap[z]? = some (.cells #[.bool s, v] 107 (0, 0))
/-- The number that a block holds. -/
def IntAt (w : World) (z : Nat) (n : Int) : Prop := ∃ v, w.heap[z]? = some (.cells #[.bool (decide (n < 0)), v] 107 (0, 0)) ∧ NumAt w v n.natAbs
theorem IntAt.block {w : World} {z : Nat} {n : Int} (h : IntAt w z n) : IntBlock w z := by obtain ⟨v, h, _⟩ := h; exact ⟨_, v, h⟩
theorem IntBlock.lt {w : World} {z : Nat} (h : IntBlock w z) : z < w.heap.size := by
  obtain ⟨s, v, h⟩ := h
  exact (Array.getElem?_eq_some_iff.1 h).1
/-- Nothing but one block and what is new has changed. -/
structure ButY (z : Nat) (w w' : World) : Prop where
  os : w'.os = w.os
  tape : w'.tape = w.tape
  output : w'.output = w.output
  size : w.heap.size ≤ w'.heap.size
  block : ∀ k, k < w.heap.size → k ≠ z → w'.heap[k]? = w.heap[k]?
theorem ButY.of_below {z : Nat} {w w' : World} (h : Below w.heap.size w w') : ButY z w w' := ⟨h.os, h.tape, h.output, h.size, fun k hk _ => h.block k hk⟩
theorem ButY.trans {z : Nat} {a b c : World} (h : ButY z a b) (k : ButY z b c) : ButY z a c :=
  ⟨k.os.trans h.os, k.tape.trans h.tape, k.output.trans h.output, Nat.le_trans h.size k.size, fun i hi hz => (k.block i (Nat.lt_of_lt_of_le hi h.size) hz).trans (h.block i hi hz)⟩
theorem ButY.below {z : Nat} {a b c : World} (h : Below a.heap.size a b) (k : ButY z b c) (hz : a.heap.size ≤ z) : Below a.heap.size a c :=
  ⟨k.os.trans h.os, k.tape.trans h.tape, k.output.trans h.output, Nat.le_trans h.size k.size, fun i hi => (k.block i (Nat.lt_of_lt_of_le hi h.size) (by omega)).trans (h.block i hi)⟩
theorem ButY.belowz {z B : Nat} {b c : World} (k : ButY z b c) (hz : B ≤ z) (hB : B ≤ b.heap.size) : Below B b c :=
  ⟨k.os, k.tape, k.output, k.size, fun i hi => k.block i (by omega) (by omega)⟩
theorem cell_row {w : World} {z j : Nat} {C : Array Value} {t : TypeId} {fz : Nat × Nat} (h : w.heap[z]? = some (.cells C t fz)) : w.cell? ⟨z, j, none⟩ = C[j]? := by
  unfold World.cell?; simp [h]
theorem NumAt.but {w w' : World} {z n : Nat} {v : Value} (h : NumAt w v n) (hb : ButY z w w') (hz : IntBlock w z) : NumAt w' v n := by
  rcases h with h | ⟨b, cap, rfl, hc, hcell⟩
  · exact .inl h
  · refine .inr ⟨b, cap, rfl, hc, fun j hj => ?_⟩
    have h0 := hcell 0 (by omega)
    have hj' := hcell j hj
    have hne : b ≠ z := by
      rintro rfl
      obtain ⟨s, v, hz⟩ := hz
      rw [cell_row hz] at h0
      simp at h0
    rw [World.cell?_of_block (w := w) (hb.block b (lt_of_cell h0) hne)]
    exact hj'
theorem IntAt.but {w w' : World} {z x : Nat} {n : Int} (h : IntAt w x n) (hb : ButY z w w') (hz : IntBlock w z) (hx : x ≠ z) : IntAt w' x n := by
  have hl := h.block.lt
  obtain ⟨v, h1, h2⟩ := h
  exact ⟨v, (hb.block x hl hx).trans h1, h2.but hb hz⟩
theorem IntAt.below {w w' : World} {x : Nat} {n : Int} (h : IntAt w x n) (hb : Below w.heap.size w w') : IntAt w' x n := by
  have hl := h.block.lt
  obtain ⟨v, h1, h2⟩ := h
  exact ⟨v, (hb.block x hl).trans h1, h2.below hb⟩
theorem IntBlock.below {w w' : World} {x : Nat} (h : IntBlock w x) (hb : Below w.heap.size w w') : IntBlock w' x := by
  have hl := h.lt
  obtain ⟨s, v, h⟩ := h
  exact ⟨s, v, (hb.block x hl).trans h⟩
theorem IntBlock.but {w w' : World} {x z : Nat} (h : IntBlock w x) (hb : ButY z w w') (hx : x ≠ z) : IntBlock w' x := by
  have hl := h.lt
  obtain ⟨s, v, h⟩ := h
  exact ⟨s, v, (hb.block x hl hx).trans h⟩
abbrev ptr (z : Nat) : Value := .pointer (some ⟨z, 0, none⟩)
/-- A sign and a size. -/
def signedOf (s : Bool) (m : Nat) : Int := if s then -(m : Int) else m
theorem signedOf_abs (s : Bool) (m : Nat) : (signedOf s m).natAbs = m := by cases s <;> simp [signedOf]
theorem signedOf_neg (s : Bool) (m : Nat) : decide (signedOf s m < 0) = (s && decide (m ≠ 0)) := by
  cases s
  · have : ¬ signedOf false m < 0 := by simp [signedOf]
    simp [this]
  · by_cases h : m = 0
    · subst h; simp [signedOf]
    · have : signedOf true m < 0 := by simp [signedOf]; omega
      simp [this, h]
theorem signedOf_self (n : Int) : signedOf (decide (n < 0)) n.natAbs = n := by
  unfold signedOf
  by_cases h : n < 0
  · simp [h]; omega
  · simp [h]; omega
theorem given {w : World} {z m : Nat} {s s' s0 : Bool} {u v0 : Value} (hz : w.heap[z]? = some (.cells #[.bool s0, v0] 107 (0, 0))) (hu : NumAt w u m) (hs : s' = (s && decide (m ≠ 0))) :
    IntAt ((w.setCell ⟨z, 1, none⟩ u).setCell ⟨z, 0, none⟩ (.bool s')) z (signedOf s m) ∧ ButY z w ((w.setCell ⟨z, 1, none⟩ u).setCell ⟨z, 0, none⟩ (.bool s')) := by
  have h1 := heap_setCell_same w z 1 _ _ u hz
  have h2 := heap_setCell_same _ z 0 _ _ (.bool s') h1
  have hb : ButY z w ((w.setCell ⟨z, 1, none⟩ u).setCell ⟨z, 0, none⟩ (.bool s')) := by
    have hb0 : Below 0 w ((w.setCell ⟨z, 1, none⟩ u).setCell ⟨z, 0, none⟩ (.bool s')) := ((Below.refl 0 w).setCell (Nat.zero_le _) _).setCell (Nat.zero_le _) _
    refine ⟨hb0.os, hb0.tape, hb0.output, hb0.size, fun k hk hne => ?_⟩
    rw [heap_setCell_other _ _ _ _ (by simpa using hne), heap_setCell_other _ _ _ _ (by simpa using hne)]
  refine ⟨⟨u, ?_, ?_⟩, hb⟩
  · rw [signedOf_neg, ← hs]; exact h2
  · rw [signedOf_abs]; exact hu.but hb ⟨_, _, hz⟩
set_option maxHeartbeats 400000 in
theorem give_any (z m : Nat) (s : Bool) (u : Value) (w : World) (hz : IntBlock w z) (hu : NumAt w u m) (lm : (wordsOf m).length ≤ 1000000000) :
    Calls Tryz.prog 81 #[ptr z, .bool s, u] w fun e w' => e = .returned (ptr z) ∧ IntAt w' z (signedOf s m) ∧ ButY z w w' := by
  have H := hideY hu
  obtain ⟨s0, v0, hz0⟩ := hz
  obtain ⟨a, ca, rfl, hca, _⟩ := hu.slice
  have Z := wordsOf_len_zero m
  generalize (wordsOf m).length = p at *
  have c0 : w.cell? ⟨z, 0, none⟩ = some (.bool s0) := by rw [cell_row hz0]; rfl
  have c1 : w.cell? ⟨z, 1, none⟩ = some v0 := by rw [cell_row hz0]; rfl
  have f0 := frozen_of_row w z 0 _ _ hz0
  have f1 := frozen_of_row w z 1 _ _ hz0
  have H0 := hideY hz0
  clear hu hz0
  cases s
  · go_enter Tryz.func81, Tryz.ntmps81
    go_wp2
    go_ret
    exact ⟨rfl, given (unhideY H0) (unhideY H) (by simp)⟩
  · by_cases hp : p = 0
    · subst hp
      have HM := hideY (Z.1 rfl)
      clear Z
      go_enter Tryz.func81, Tryz.ntmps81
      go_wp2
      go_ret
      exact ⟨rfl, given (unhideY H0) (unhideY H) (by rw [unhideY HM]; rfl)⟩
    · have hd : decide (0 < p) = true := decide_eq_true (by omega)
      have HM := hideY (show m ≠ 0 from fun e => hp (Z.2 e))
      clear Z
      go_enter Tryz.func81, Tryz.ntmps81
      go_wp2
      go_ret
      exact ⟨rfl, given (unhideY H0) (unhideY H) (by simp [unhideY HM])⟩
theorem NumAt.drew {w : World} {v : Value} {n : Nat} (h : NumAt w v n) : NumAt w.drew v n := h
set_option maxHeartbeats 400000 in
theorem setInt_any (z : Nat) (n : Int) (w : World) (hz : IntBlock w z) (hn : in64 n) :
    Calls Tryz.prog 91 #[ptr z, .int .i64 n] w fun e w' => e = .returned (ptr z) ∧ IntAt w' z n ∧ ButY z w w' := by
  have hl : n.natAbs < 18446744073709551616 := by unfold in64 at hn; omega
  have W := hideY (words_any n.natAbs w hl)
  have hl2 := wordsOf_len_two hl
  have HS := hideY (signedOf_self n)
  by_cases h0 : n < 0
  · have e := u64_negs n h0 hn.1
    have hd : decide (n < 0) = true := decide_eq_true h0
    rw [hd] at HS
    go_enter Tryz.func91, Tryz.ntmps91
    go_wp2_with fail
    refine (unhideY W).mono ?_
    rintro e w1 ⟨⟨v, rfl, hv⟩, hb⟩
    have C := hideY (give_any z n.natAbs true v w1 (hz.below hb) hv (by omega))
    rw [unhideY HS] at C
    go_wp2_with fail
    refine (unhideY C).mono ?_
    rintro e w2 ⟨rfl, hi, hb2⟩
    go_wp2
    go_ret
    exact ⟨rfl, hi, (ButY.of_below hb).trans hb2⟩
  · have hd : decide (n < 0) = false := decide_eq_false h0
    have hw : (n : Int) = (n.natAbs : Int) := by omega
    rw [hd] at HS
    have hn1 : 0 ≤ n := by omega
    have hn2 : n ≤ 9223372036854775807 := hn.2
    rw [← hw] at W
    clear hw
    go_enter Tryz.func91, Tryz.ntmps91
    go_wp2_with fail
    refine (unhideY W).mono ?_
    rintro e w1 ⟨⟨v, rfl, hv⟩, hb⟩
    have C := hideY (give_any z n.natAbs false v w1 (hz.below hb) hv (by omega))
    rw [unhideY HS] at C
    go_wp2_with fail
    refine (unhideY C).mono ?_
    rintro e w2 ⟨rfl, hi, hb2⟩
    go_wp2
    go_ret
    exact ⟨rfl, hi, (ButY.of_below hb).trans hb2⟩
theorem fresh_int (w : World) : IntAt (w.alloc (.cells #[.bool false, .slice none 0 0] 107)) w.heap.size 0 := by
  refine ⟨.slice none 0 0, ?_, NumAt.nil _⟩
  exact heap_alloc_new w _
set_option maxHeartbeats 400000 in
theorem newInt_any (n : Int) (w : World) (hn : in64 n) :
    Calls Tryz.prog 80 #[.int .i64 n] w fun e w' => e = .returned (ptr w.heap.size) ∧ IntAt w' w.heap.size n ∧ Below w.heap.size w w' := by
  have C := hideY (setInt_any w.heap.size n (w.alloc (.cells #[.bool false, .slice none 0 0] 107)) (fresh_int w).block hn)
  go_enter Tryz.func80, Tryz.ntmps80
  go_wp2_with fail
  refine (unhideY C).mono ?_
  rintro e w1 ⟨rfl, hi, hb⟩
  have hb2 := ButY.below ((Below.refl w.heap.size w).alloc (Nat.le_refl _) _) hb (Nat.le_refl _)
  go_wp2
  go_ret
  exact ⟨rfl, hi, hb2⟩
end Go.Proofs.YtpphjddljngkmaaGreatDoor

namespace Go.Proofs.YtpphjddljngkmaaGreatDoor
open Go.RowKit

theorem undrew {w w' : World} (h : Below w.drew.heap.size w.drew w') : Below w.heap.size w w' := ⟨h.os, h.tape, h.output, h.size, h.block⟩
end Go.Proofs.YtpphjddljngkmaaGreatDoor

namespace Go.Proofs.YtpphjddljngkmaaGreatDoor
open Go.RowKit

set_option maxHeartbeats 400000 in
theorem uint64_any (x : Nat) (n : Int) (w : World) (hx : IntAt w x n) (hm : n.natAbs < 18446744073709551616) :
    Calls Tryz.prog 84 #[ptr x] w fun e w' => e = .returned (.int .u64 (n.natAbs : Int)) ∧ w' = w := by
  obtain ⟨u, hxr, hu⟩ := hx
  have x1 : w.cell? ⟨x, 1, none⟩ = some u := by rw [cell_row hxr]; rfl
  clear hxr
  generalize n.natAbs = m at *
  obtain ⟨a, ca, rfl, hca, Ha⟩ := hu.slice
  have h2 := wordsOf_len_two hm
  have Z := wordsOf_len_zero m
  have hlt := lt_wordsOf m
  have hl : (wordsOf m).length = 0 ∨ (wordsOf m).length = 1 ∨ (wordsOf m).length = 2 := by omega
  rcases hl with h | h | h
  · have h0 := Z.1 h
    rw [h] at x1
    rw [h] at hca
    subst h0
    clear Ha hu Z hlt h h2
    go_enter Tryz.func84, Tryz.ntmps84
    go_wp2
    go_ret
    exact ⟨rfl, rfl⟩
  · obtain ⟨b, rfl, c0⟩ := Ha 0 (by omega)
    rw [wordsOf_at] at c0
    rw [h] at hca hlt x1
    have hm2 : m < 4294967296 := by omega
    rw [show m / 4294967296 ^ 0 % 4294967296 = m by rw [Nat.pow_zero, Nat.div_one]; omega] at c0
    clear Ha hu Z hlt h h2
    go_enter Tryz.func84, Tryz.ntmps84
    go_wp2
    go_ret
    exact ⟨rfl, rfl⟩
  · obtain ⟨b, rfl, c0⟩ := Ha 0 (by omega)
    obtain ⟨b', hb', c1⟩ := Ha 1 (by omega)
    cases hb'
    rw [wordsOf_at] at c0 c1
    rw [h] at hca x1
    rw [show m / 4294967296 ^ 0 % 4294967296 = m % 4294967296 by rw [Nat.pow_zero, Nat.div_one]] at c0
    rw [show m / 4294967296 ^ 1 % 4294967296 = m / 4294967296 by omega] at c1
    have hx : m % 4294967296 < 4294967296 := by omega
    have hy : m / 4294967296 < 4294967296 := by omega
    have hxy : m = m % 4294967296 + m / 4294967296 * 4294967296 := by omega
    obtain ⟨p, hxx⟩ : ∃ x, x = m % 4294967296 := ⟨_, rfl⟩
    obtain ⟨q, hyy⟩ : ∃ y, y = m / 4294967296 := ⟨_, rfl⟩
    rw [← hxx] at hx c0
    rw [← hyy] at hy c1
    rw [← hxx, ← hyy] at hxy
    have hor : bits BinOp.or IntKind.u64 (p : Int) ((q : Int) * 4294967296) = (m : Int) := by
      rw [u64_or32 _ _ (by omega) (by omega) (by omega) (by omega) (by omega)]; omega
    clear Ha hu Z hlt hxx hyy hxy h h2
    go_enter Tryz.func84, Tryz.ntmps84
    go_wp2
    go_ret
    exact ⟨rfl, rfl⟩
set_option maxHeartbeats 400000 in
theorem int64_any (x : Nat) (n : Int) (w : World) (hx : IntAt w x n) (hm : in64 n) :
    Calls Tryz.prog 70 #[ptr x] w fun e w' => e = .returned (.int .i64 n) ∧ w' = w := by
  have C := hideY (uint64_any x n w hx (by unfold in64 at hm; omega))
  obtain ⟨u, hxr, hu⟩ := hx
  have x0 : w.cell? ⟨x, 0, none⟩ = some (.bool (decide (n < 0))) := by rw [cell_row hxr]; rfl
  clear hxr hu
  by_cases h : n < 0
  · rw [decide_eq_true h] at x0
    have H := hideY (show wrap64 (-wrap64 (n.natAbs : Int)) = n by rw [wrap64_negs _ (by unfold in64 at hm; omega)]; omega)
    go_enter Tryz.func70, Tryz.ntmps70
    go_wp2_with fail
    refine (unhideY C).mono ?_
    rintro e w ⟨rfl, rfl⟩
    generalize n.natAbs = m at *
    go_wp2
    go_ret
    exact ⟨by rw [← unhideY H]; rfl, rfl⟩
  · rw [decide_eq_false h] at x0
    rw [show (n.natAbs : Int) = n by omega] at C
    have H := hideY (IntWalk.wrap64_in n hm)
    go_enter Tryz.func70, Tryz.ntmps70
    go_wp2_with fail
    refine (unhideY C).mono ?_
    rintro e w ⟨rfl, rfl⟩
    go_wp2
    go_ret
    exact ⟨ret_intY (unhideY H), rfl⟩
set_option maxHeartbeats 400000 in
theorem refBig_any (n : Int) (w : World) (hn : in64 n) :
    Calls Tryz.prog 66 #[.int .i64 n] w fun e w' => e = .returned (ptr w.heap.size) ∧ IntAt w' w.heap.size n ∧ Below w.heap.size w w' := by
  have C := hideY (newInt_any n w hn)
  go_enter Tryz.func66, Tryz.ntmps66
  go_wp2_with fail
  refine (unhideY C).mono ?_
  rintro e w1 ⟨rfl, hi, hb⟩
  go_wp2
  go_ret
  exact ⟨rfl, hi, hb⟩
end Go.Proofs.YtpphjddljngkmaaGreatDoor
