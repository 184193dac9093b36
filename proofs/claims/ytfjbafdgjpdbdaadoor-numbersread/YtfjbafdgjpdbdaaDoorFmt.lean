/- What strconv.FormatInt does, for every number and every base from 2 to 36. -/
import Derived.Test.YtfjbafdgjpdbdaaDoorFmtPlain
import Derived.Test.YtfjbafdgjpdbdaaDoorNumsAlive
import Derived.Laws.Rows
import Derived.Lib.EndianBits
import Derived.Lib.LaidTab
import Derived.OpenShut
namespace Go.Proofs.YtfjbafdgjpdbdaaDoor
open Go.RowKit

/-- A byte as a cell. -/
def bcell (b : UInt8) : Value := .int .u8 (b.toNat : Int)
/-- A row of 65 bytes, filled from its end. -/
def rowEnd (ds : List UInt8) : Array Value := (List.replicate (65 - ds.length) (Value.int .u8 0) ++ ds.map bcell).toArray
theorem rowEnd_nil : rowEnd [] = Array.replicate 65 (Value.int .u8 0) := by
  unfold rowEnd
  rw [List.map_nil, List.append_nil, List.length_nil, Nat.sub_zero]
  exact List.toArray_replicate 65 _
theorem rowEnd_step (ds : List UInt8) (b : UInt8) (h : ds.length < 65) : (rowEnd ds).setIfInBounds (64 - ds.length) (.int .u8 (b.toNat : Int)) = rowEnd (b :: ds) := by
  unfold rowEnd
  rw [List.setIfInBounds_toArray]
  congr 1
  rw [List.set_append_left _ _ (by simp; omega)]
  have e : 65 - ds.length = (64 - ds.length) + 1 := by omega
  rw [e, List.replicate_succ', List.set_append_right _ _ (by simp)]
  simp [bcell]
theorem rowEnd_at (ds : List UInt8) (h : ds.length < 65) : (rowEnd ds)[64 - ds.length]? = some (Value.int .u8 0) := by
  unfold rowEnd
  rw [List.getElem?_toArray, List.getElem?_append_left (by simp; omega), List.getElem?_replicate, if_pos (by omega)]
theorem rowEnd_cell (ds : List UInt8) (j : Nat) (hj : j < ds.length) : (rowEnd ds)[65 - ds.length + j]? = some (bcell ds[j]) := by
  unfold rowEnd
  rw [List.getElem?_toArray, List.getElem?_append_right (by simp)]
  simp [hj]
/-- The library's row of digits. -/
def digTab : ByteArray := ⟨#[48, 49, 50, 51, 52, 53, 54, 55, 56, 57, 97, 98, 99, 100, 101, 102, 103, 104, 105, 106, 107, 108, 109, 110, 111, 112, 113, 114, 115, 116, 117, 118, 119, 120, 121, 122]⟩
theorem digTab_at (d : Nat) (h : d < 36) : (digTab[d]'h) = digByte d := by
  have key : ∀ d : Fin 36, (digTab[d.val]'d.isLt) = digByte d.val := by decide
  exact key ⟨d, h⟩
theorem dig_lit (d : Nat) (h : d < 36) (hd : d < (ByteArray.mk #[48, 49, 50, 51, 52, 53, 54, 55, 56, 57, 97, 98, 99, 100, 101, 102, 103, 104, 105, 106, 107, 108, 109, 110, 111, 112, 113, 114, 115, 116, 117, 118, 119, 120, 121, 122]).size) : (ByteArray.mk #[48, 49, 50, 51, 52, 53, 54, 55, 56, 57, 97, 98, 99, 100, 101, 102, 103, 104, 105, 106, 107, 108, 109, 110, 111, 112, 113, 114, 115, 116, 117, 118, 119, 120, 121, 122])[d]'hd = digByte d := digTab_at d h
theorem info65 : (Tryd.prog.info? 103).map (fun i => (i.zero, i.size)) = some (some (.agg (Array.replicate 65 (.int .u8 0))), 65) := by kernel_rfl

theorem add_at (g i : Nat) : (⟨g, 0, none⟩ : Addr).add i = ⟨g, i, none⟩ := by
  unfold Addr.add
  split
  · rename_i h; subst h; rfl
  · simp
theorem add_off (g o i : Nat) : (⟨g, o, none⟩ : Addr).add i = ⟨g, o + i, none⟩ := by
  unfold Addr.add
  split
  · rename_i h; subst h; rfl
  · rfl
theorem slice65 (W : World) (g i : Nat) (h : i < 65) : (Instr.sliceAt 103 (.pointer (some ⟨g, 0, none⟩)) (some (.int .i64 (i : Int))) none none).run Tryd.prog W = .ok (.slice (some ⟨g, i, none⟩) (65 - i) (65 - i)) W := by
  have hal : Tryd.prog.arrayLen 103 = 65 := by simp [Program.arrayLen, Tryd.underlying103]
  have hel : Tryd.prog.elem 103 = 5 := by simp [Program.elem, Tryd.underlying103]
  rw [run_sliceAt_array_l W 103 ⟨g, 0, none⟩ (by simp [Program.arrayLen, Program.elem, Tryd.underlying103]) .i64 (i : Int) (by omega) (by rw [hal]; omega), hal, hel]
  have hs : (sizeOf 5).run Tryd.prog W = .ok 1 W := Tryd.sizeOf5 W
  rw [hs]
  simp only [Result.andThen_ok, slicedAt, Int.toNat_natCast, Nat.mul_one]
  rw [if_neg (by omega), add_at]
theorem fmt_conv (W : World) (g cap : Nat) (L : List UInt8) (_hl : L.length ≤ 65) (hr : W.heap[g]? = some (.cells (rowEnd L) 103 (0, 0))) :
    (convert 67 9 (.slice (some ⟨g, 65 - L.length, none⟩) L.length cap)).run Tryd.prog W = .ok (.string ⟨L.toArray⟩) W :=
  run_convert_bytes_back (P := Tryd.prog) W 67 9 5 ⟨g, 65 - L.length, none⟩ cap L Tryd.underlying67 Tryd.underlying5 Tryd.underlying9 (fun j hj => by
    rw [add_off, cell_of_row W _ _ _ _ _ hr]
    exact rowEnd_cell L j hj)
theorem pow2_bits : ∀ b : Fin 37, 2 ≤ b.val → (bits BinOp.and IntKind.i64 (b.val : Int) ((b.val : Int) - 1) == 0) = decide (b.val = 2 ∨ b.val = 4 ∨ b.val = 8 ∨ b.val = 16 ∨ b.val = 32) := by decide +kernel

set_option maxHeartbeats 400000 in
theorem isPow_any (base : Nat) (w : World) (hb : 2 ≤ base) (h36 : base ≤ 36) :
    Calls Tryd.prog 84 #[.int .i64 base] w fun e w' => e = .returned (.bool (decide (base = 2 ∨ base = 4 ∨ base = 8 ∨ base = 16 ∨ base = 32))) ∧ w' = w := by
  have H1 := pow2_bits ⟨base, by omega⟩ hb
  obtain ⟨p, hp⟩ : ∃ p, p = decide (base = 2 ∨ base = 4 ∨ base = 8 ∨ base = 16 ∨ base = 32) := ⟨_, rfl⟩
  rw [← hp]
  have H := hide (H1.trans hp.symm)
  clear hp H1
  go_enter Tryd.func84, Tryd.ntmps84
  go_wp2
  go_ret
  exact ⟨by rw [← unhide H]; rfl, rfl⟩

/-- The library's table for trailing noughts is as the program's text lays it. -/
def bruijnTab : List Int := [0, 1, 56, 2, 57, 49, 28, 3, 61, 58, 42, 50, 38, 29, 17, 4, 62, 47, 59, 36, 45, 43, 51, 22, 53, 39, 33, 30, 24, 18, 12, 5, 63, 55, 48, 27, 60, 41, 37, 16, 46, 35, 44, 21, 52, 32, 23, 11, 54, 26, 40, 15, 34, 20, 31, 10, 25, 14, 19, 9, 13, 8, 7, 6]
abbrev DeBruijnAt (w : World) : Prop := Lib.TabIs Tryd.prog w "math/bits.deBruijn64tab" .u8 bruijnTab
theorem debruijn_stay {w w' : World} (h : DeBruijnAt w) (hb : Below w.heap.size w w') : DeBruijnAt w' := Lib.tabBelow_of_tabIs h w' hb
theorem pow_cases (base k : Nat) (h1 : 1 ≤ k) (h5 : k ≤ 5) (h : base = 2 ^ k) : base = 2 ∨ base = 4 ∨ base = 8 ∨ base = 16 ∨ base = 32 := by
  have : k = 1 ∨ k = 2 ∨ k = 3 ∨ k = 4 ∨ k = 5 := by omega
  rcases this with rfl | rfl | rfl | rfl | rfl <;> simp at h <;> omega
theorem and_pow (x base k : Nat) (hk : k ≤ 64) (hb : base = 2 ^ k) (hx : x < 18446744073709551616) : bits BinOp.and IntKind.u64 (x : Int) ((base : Int) - 1) = ((x % base : Nat) : Int) := by
  have := bits_mask .u64 64 (by decide) wraps_u64 k hk (x : Int) (by omega) (by omega)
  rw [hb, Int.natCast_pow]
  rw [show ((2 : Nat) : Int) = 2 from rfl, this, Int.natCast_emod, Int.natCast_pow]
  rfl

set_option maxHeartbeats 400000 in
theorem trailing64_2 (w : World) (c : w.cell? ⟨5, 1, none⟩ = some (.int .u8 1)) :
    Calls Tryd.prog 91 #[.int .u64 2] w fun e w' => e = .returned (.int .i64 1) ∧ w' = w := by
  have h1 : bits BinOp.and IntKind.u64 2 (IntKind.u64.wrap (-2)) = 2 := by decide
  have h2 : bits BinOp.and IntKind.u64 2 18446744073709551614 = 2 := by decide
  go_enter Tryd.func91, Tryd.ntmps91
  go_wp2
  go_ret
  exact ⟨rfl, rfl⟩
set_option maxHeartbeats 400000 in
theorem trailing64_4 (w : World) (c : w.cell? ⟨5, 3, none⟩ = some (.int .u8 2)) :
    Calls Tryd.prog 91 #[.int .u64 4] w fun e w' => e = .returned (.int .i64 2) ∧ w' = w := by
  have h1 : bits BinOp.and IntKind.u64 4 (IntKind.u64.wrap (-4)) = 4 := by decide
  have h2 : bits BinOp.and IntKind.u64 4 18446744073709551612 = 4 := by decide
  go_enter Tryd.func91, Tryd.ntmps91
  go_wp2
  go_ret
  exact ⟨rfl, rfl⟩
set_option maxHeartbeats 400000 in
theorem trailing64_8 (w : World) (c : w.cell? ⟨5, 7, none⟩ = some (.int .u8 3)) :
    Calls Tryd.prog 91 #[.int .u64 8] w fun e w' => e = .returned (.int .i64 3) ∧ w' = w := by
  have h1 : bits BinOp.and IntKind.u64 8 (IntKind.u64.wrap (-8)) = 8 := by decide
  have h2 : bits BinOp.and IntKind.u64 8 18446744073709551608 = 8 := by decide
  go_enter Tryd.func91, Tryd.ntmps91
  go_wp2
  go_ret
  exact ⟨rfl, rfl⟩
set_option maxHeartbeats 400000 in
theorem trailing64_16 (w : World) (c : w.cell? ⟨5, 15, none⟩ = some (.int .u8 4)) :
    Calls Tryd.prog 91 #[.int .u64 16] w fun e w' => e = .returned (.int .i64 4) ∧ w' = w := by
  have h1 : bits BinOp.and IntKind.u64 16 (IntKind.u64.wrap (-16)) = 16 := by decide
  have h2 : bits BinOp.and IntKind.u64 16 18446744073709551600 = 16 := by decide
  go_enter Tryd.func91, Tryd.ntmps91
  go_wp2
  go_ret
  exact ⟨rfl, rfl⟩
set_option maxHeartbeats 400000 in
theorem trailing64_32 (w : World) (c : w.cell? ⟨5, 31, none⟩ = some (.int .u8 5)) :
    Calls Tryd.prog 91 #[.int .u64 32] w fun e w' => e = .returned (.int .i64 5) ∧ w' = w := by
  have h1 : bits BinOp.and IntKind.u64 32 (IntKind.u64.wrap (-32)) = 32 := by decide
  have h2 : bits BinOp.and IntKind.u64 32 18446744073709551584 = 32 := by decide
  go_enter Tryd.func91, Tryd.ntmps91
  go_wp2
  go_ret
  exact ⟨rfl, rfl⟩

set_option maxHeartbeats 400000 in
theorem trailing_pow (base k : Nat) (w : World) (h1 : 1 ≤ k) (h5 : k ≤ 5) (h : base = 2 ^ k) (ht : DeBruijnAt w) :
    Calls Tryd.prog 85 #[.int .u64 base] w fun e w' => e = .returned (.int .i64 k) ∧ w' = w := by
  have hc := fun i hi => ht.cell (g := 5) (by kernel_rfl) i hi
  have T : Hid (Calls Tryd.prog 91 #[.int .u64 base] w fun e w' => e = .returned (.int .i64 k) ∧ w' = w) := by
    have : k = 1 ∨ k = 2 ∨ k = 3 ∨ k = 4 ∨ k = 5 := by omega
    rcases this with rfl | rfl | rfl | rfl | rfl
    · obtain rfl : base = 2 := by simpa using h
      exact hide (trailing64_2 w (hc 1 (by decide)))
    · obtain rfl : base = 4 := by simpa using h
      exact hide (trailing64_4 w (hc 3 (by decide)))
    · obtain rfl : base = 8 := by simpa using h
      exact hide (trailing64_8 w (hc 7 (by decide)))
    · obtain rfl : base = 16 := by simpa using h
      exact hide (trailing64_16 w (hc 15 (by decide)))
    · obtain rfl : base = 32 := by simpa using h
      exact hide (trailing64_32 w (hc 31 (by decide)))
  clear hc ht h h1 h5
  go_enter Tryd.func85, Tryd.ntmps85
  go_wp2_with fail
  refine (unhide T).mono ?_
  rintro e w ⟨rfl, rfl⟩
  go_wp2
  go_ret
  exact ⟨rfl, rfl⟩

set_option maxRecDepth 100000 in
set_option maxHeartbeats 4000000 in
theorem formatBits_gen (u base : Nat) (w : World) (hb : 2 ≤ base) (h36 : base ≤ 36) (h10 : base ≠ 10) (hu : u < 18446744073709551616) (hp : ¬ (base = 2 ∨ base = 4 ∨ base = 8 ∨ base = 16 ∨ base = 32)) :
    Calls Tryd.prog 65 #[.slice none 0 0, .int .u64 u, .int .i64 base, .bool false, .bool false] w fun e w' => e = .returned (.tuple #[.slice none 0 0, .string ⟨(inBase base u).toArray⟩]) ∧ Below w.heap.size w w' := by
  have hz : ∀ w, (zeroValue 103).run Tryd.prog w = .ok (.agg (Array.replicate 65 (.int .u8 0))) w := (zero_of_info info65).1
  have d1 : ((base : Int) == 10) = false := by simp; omega
  have CP := fun w => hide (isPow_any base w hb h36)
  rw [decide_eq_false hp] at CP
  clear hp h10
  go_enter Tryd.func65, Tryd.ntmps65
  go_wp2_with fail
  refine (unhide (CP _)).mono ?_
  rintro e w1 ⟨rfl, rfl⟩
  rw [← rowEnd_nil]
  have hrow := hide (heap_alloc_new w (.cells (rowEnd []) 103))
  have hb0 : Below w.heap.size w (w.alloc (.cells (rowEnd []) 103)) := (Below.refl _ _).alloc (Nat.le_refl _) _
  generalize w.alloc (.cells (rowEnd []) 103) = w1 at *
  clear hz
  go_wp2
  go_loopw [1, 13] (fun vu vi wr => ∃ (x : Nat) (ds : List UInt8), vu = .int .u64 x ∧ vi = .int .i64 ((65 - ds.length : Nat) : Int) ∧ x < 18446744073709551616 ∧ ds.length ≤ 63 ∧ wr.heap[w.heap.size]? = some (.cells (rowEnd ds) 103 (0, 0)) ∧ Hid (inBase base x ++ ds = inBase base u) ∧ Below w.heap.size w wr) (fun vu vi _ => (intOf vi).toNat)
  case atStart => exact ⟨u, [], rfl, rfl, hu, by simp, unhide hrow, hide (by simp), hb0⟩
  case round =>
    obtain ⟨x, ds, rfl, rfl, hx, hdl, hr, H, hbl⟩ := hrel
    have hcell : wr.cell? ⟨w.heap.size, 64 - ds.length, none⟩ = some (.int .u8 0) := by rw [cell_of_row wr _ _ _ _ _ hr]; exact rowEnd_at ds (by omega)
    have hfr := frozen_of_row wr w.heap.size (64 - ds.length) _ _ hr
    have hst := fun b => heap_setCell_same wr w.heap.size (64 - ds.length) _ _ (.int .u8 (UInt8.toNat b : Int)) hr
    have hi1 : (((65 - ds.length : Nat) : Int) - 1) = ((64 - ds.length : Nat) : Int) := by omega
    by_cases hge : base ≤ x
    · have hstep := inBase_step base x hb hx hge
      have hlen := inBase_len base u hb hu
      have hlen2 := inBase_len base (x / base) hb (Nat.lt_of_le_of_lt (Nat.div_le_self _ _) hx)
      have hle : (inBase base (x / base)).length + 1 + ds.length ≤ 64 := by
        have := congrArg List.length (unhide H)
        rw [hstep] at this
        simp at this
        omega
      have hd : x % base < base := Nat.mod_lt _ (by omega)
      have hdm := Nat.div_add_mod x base
      have hq1 : (x : Int) / base = ((x / base : Nat) : Int) := rfl
      have hqx : x / base ≤ x := Nat.div_le_self _ _
      have H2 := hide (show inBase base (x / base) ++ (digByte (x % base) :: ds) = inBase base u by rw [← unhide H, hstep]; simp)
      obtain ⟨q, hqq⟩ : ∃ q, q = x / base := ⟨_, rfl⟩
      obtain ⟨d, hdd⟩ : ∃ d, d = x % base := ⟨_, rfl⟩
      rw [← hqq] at hq1 hqx hdm hle H2 hlen2
      rw [← hdd] at hd hdm H2
      have hqb : (q : Int) * base = ((base * q : Nat) : Int) := by rw [Int.natCast_mul, Int.mul_comm]
      obtain ⟨m, hmm⟩ : ∃ m, m = base * q := ⟨_, rfl⟩
      rw [← hmm] at hqb hdm
      have hxm : (x : Int) - m = (d : Int) := by omega
      have hd36 : (d : Int) < 36 := by omega
      have hst2 := hst (digByte d)
      rw [rowEnd_step ds (digByte d) (by omega)] at hst2
      have HST := hide hst2
      have hdn : d < 36 := by omega
      have hdt := hide (digTab_at d hdn)
      have hlx : m ≤ x := by omega
      clear hstep hlen hqq hdd hmm hst hst2 H hr hdm
      go_wp2
      rw [dig_lit d hdn]
      exact ⟨⟨q, digByte d :: ds, rfl, by congr 1; simp, by omega, by simp; omega, unhide HST, H2, hbl.setCell (by simp) _⟩, by simp [intOf]; omega⟩
    · have hL := hide (show digByte x :: ds = inBase base u by rw [← unhide H, inBase_small base x (by omega)]; rfl)
      have hxn : x < 36 := by omega
      have hx36 : (x : Int) < 36 := by omega
      have hst2 := hst (digByte x)
      rw [rowEnd_step ds (digByte x) (by omega)] at hst2
      have hcv := fmt_conv _ w.heap.size (65 - (64 - ds.length)) (digByte x :: ds) (by simp; omega) hst2
      rw [unhide hL] at hcv
      have hlL : (inBase base u).length = ds.length + 1 := by rw [← unhide hL]; simp
      rw [hlL, show 65 - (ds.length + 1) = 64 - ds.length by omega] at hcv
      have hdig := dig_lit x hxn hxn
      have hsl := slice65 (wr.setCell ⟨w.heap.size, 64 - ds.length, none⟩ (.int .u8 ((digByte x).toNat : Int))) w.heap.size (64 - ds.length) (by omega)
      rw [show 65 - (64 - ds.length) = ds.length + 1 by omega] at hsl hcv
      have hbw := hbl.setCell (p := ⟨w.heap.size, 64 - ds.length, none⟩) (Nat.le_refl _) (.int .u8 ((digByte x).toNat : Int))
      clear hst hst2 H hr hlL
      go_wp2
      go_ret2
      exact ⟨rfl, hbw⟩
set_option maxRecDepth 100000 in
set_option maxHeartbeats 4000000 in
theorem formatBits_genNeg (u base : Nat) (y : Int) (w : World) (hy : IntKind.u64.wrap (-y) = (u : Int)) (hb : 2 ≤ base) (h36 : base ≤ 36) (h10 : base ≠ 10) (hu : u < 18446744073709551616) (hp : ¬ (base = 2 ∨ base = 4 ∨ base = 8 ∨ base = 16 ∨ base = 32)) :
    Calls Tryd.prog 65 #[.slice none 0 0, .int .u64 y, .int .i64 base, .bool true, .bool false] w fun e w' => e = .returned (.tuple #[.slice none 0 0, .string ⟨(45 :: inBase base u).toArray⟩]) ∧ Below w.heap.size w w' := by
  have hz : ∀ w, (zeroValue 103).run Tryd.prog w = .ok (.agg (Array.replicate 65 (.int .u8 0))) w := (zero_of_info info65).1
  have d1 : ((base : Int) == 10) = false := by simp; omega
  have CP := fun w => hide (isPow_any base w hb h36)
  rw [decide_eq_false hp] at CP
  clear hp h10
  go_enter Tryd.func65, Tryd.ntmps65
  go_wp2_with fail
  refine (unhide (CP _)).mono ?_
  rintro e w1 ⟨rfl, rfl⟩
  rw [← rowEnd_nil]
  have hrow := hide (heap_alloc_new w (.cells (rowEnd []) 103))
  have hb0 : Below w.heap.size w (w.alloc (.cells (rowEnd []) 103)) := (Below.refl _ _).alloc (Nat.le_refl _) _
  generalize w.alloc (.cells (rowEnd []) 103) = w1 at *
  clear hz
  go_wp2
  go_loopw [1, 13] (fun vu vi wr => ∃ (x : Nat) (ds : List UInt8), vu = .int .u64 x ∧ vi = .int .i64 ((65 - ds.length : Nat) : Int) ∧ x < 18446744073709551616 ∧ ds.length ≤ 63 ∧ wr.heap[w.heap.size]? = some (.cells (rowEnd ds) 103 (0, 0)) ∧ Hid (inBase base x ++ ds = inBase base u) ∧ Below w.heap.size w wr) (fun vu vi _ => (intOf vi).toNat)
  case atStart => exact ⟨u, [], rfl, rfl, hu, by simp, unhide hrow, hide (by simp), hb0⟩
  case round =>
    obtain ⟨x, ds, rfl, rfl, hx, hdl, hr, H, hbl⟩ := hrel
    have hcell : wr.cell? ⟨w.heap.size, 64 - ds.length, none⟩ = some (.int .u8 0) := by rw [cell_of_row wr _ _ _ _ _ hr]; exact rowEnd_at ds (by omega)
    have hfr := frozen_of_row wr w.heap.size (64 - ds.length) _ _ hr
    have hst := fun b => heap_setCell_same wr w.heap.size (64 - ds.length) _ _ (.int .u8 (UInt8.toNat b : Int)) hr
    have hi1 : (((65 - ds.length : Nat) : Int) - 1) = ((64 - ds.length : Nat) : Int) := by omega
    by_cases hge : base ≤ x
    · have hstep := inBase_step base x hb hx hge
      have hlen := inBase_len base u hb hu
      have hlen2 := inBase_len base (x / base) hb (Nat.lt_of_le_of_lt (Nat.div_le_self _ _) hx)
      have hle : (inBase base (x / base)).length + 1 + ds.length ≤ 64 := by
        have := congrArg List.length (unhide H)
        rw [hstep] at this
        simp at this
        omega
      have hd : x % base < base := Nat.mod_lt _ (by omega)
      have hdm := Nat.div_add_mod x base
      have hq1 : (x : Int) / base = ((x / base : Nat) : Int) := rfl
      have hqx : x / base ≤ x := Nat.div_le_self _ _
      have H2 := hide (show inBase base (x / base) ++ (digByte (x % base) :: ds) = inBase base u by rw [← unhide H, hstep]; simp)
      obtain ⟨q, hqq⟩ : ∃ q, q = x / base := ⟨_, rfl⟩
      obtain ⟨d, hdd⟩ : ∃ d, d = x % base := ⟨_, rfl⟩
      rw [← hqq] at hq1 hqx hdm hle H2 hlen2
      rw [← hdd] at hd hdm H2
      have hqb : (q : Int) * base = ((base * q : Nat) : Int) := by rw [Int.natCast_mul, Int.mul_comm]
      obtain ⟨m, hmm⟩ : ∃ m, m = base * q := ⟨_, rfl⟩
      rw [← hmm] at hqb hdm
      have hxm : (x : Int) - m = (d : Int) := by omega
      have hd36 : (d : Int) < 36 := by omega
      have hst2 := hst (digByte d)
      rw [rowEnd_step ds (digByte d) (by omega)] at hst2
      have HST := hide hst2
      have hdn : d < 36 := by omega
      have hdt := hide (digTab_at d hdn)
      have hlx : m ≤ x := by omega
      clear hstep hlen hqq hdd hmm hst hst2 H hr hdm
      go_wp2
      rw [dig_lit d hdn]
      exact ⟨⟨q, digByte d :: ds, rfl, by congr 1; simp, by omega, by simp; omega, unhide HST, H2, hbl.setCell (by simp) _⟩, by simp [intOf]; omega⟩
    · have hL := hide (show digByte x :: ds = inBase base u by rw [← unhide H, inBase_small base x (by omega)]; rfl)
      have hxn : x < 36 := by omega
      have hx36 : (x : Int) < 36 := by omega
      have hst2 := hst (digByte x)
      rw [rowEnd_step ds (digByte x) (by omega)] at hst2
      have hcell2 : (wr.setCell ⟨w.heap.size, 64 - ds.length, none⟩ (.int .u8 ((digByte x).toNat : Int))).cell? ⟨w.heap.size, 63 - ds.length, none⟩ = some (.int .u8 0) := by
        rw [cell_of_row _ _ _ _ _ _ hst2]
        have := rowEnd_at (digByte x :: ds) (by simp; omega)
        rw [List.length_cons, show 64 - (ds.length + 1) = 63 - ds.length by omega] at this
        exact this
      have hfr2 := frozen_of_row _ w.heap.size (63 - ds.length) _ _ hst2
      have hst3 := heap_setCell_same _ w.heap.size (63 - ds.length) _ _ (.int .u8 45) hst2
      have hst4 := rowEnd_step (digByte x :: ds) 45 (by simp; omega)
      rw [List.length_cons, show 64 - (ds.length + 1) = 63 - ds.length by omega, show ((45 : UInt8).toNat : Int) = 45 from rfl] at hst4
      rw [hst4] at hst3
      have hcv := fmt_conv _ w.heap.size (65 - (63 - ds.length)) (45 :: digByte x :: ds) (by simp; omega) hst3
      rw [unhide hL] at hcv
      have hlL : (inBase base u).length = ds.length + 1 := by rw [← unhide hL]; simp
      rw [List.length_cons, hlL, show 65 - (ds.length + 1 + 1) = 63 - ds.length by omega] at hcv
      have hdig := dig_lit x hxn hxn
      have hsl := slice65 ((wr.setCell ⟨w.heap.size, 64 - ds.length, none⟩ (.int .u8 ((digByte x).toNat : Int))).setCell ⟨w.heap.size, 63 - ds.length, none⟩ (.int .u8 45)) w.heap.size (63 - ds.length) (by omega)
      rw [show 65 - (63 - ds.length) = ds.length + 1 + 1 by omega] at hsl hcv
      have hi2 : (((64 - ds.length : Nat) : Int) - 1) = ((63 - ds.length : Nat) : Int) := by omega
      have hbw := (hbl.setCell (p := ⟨w.heap.size, 64 - ds.length, none⟩) (Nat.le_refl _) (.int .u8 ((digByte x).toNat : Int))).setCell (p := ⟨w.heap.size, 63 - ds.length, none⟩) (Nat.le_refl _) (.int .u8 45)
      clear hst hst2 hst3 hst4 H hr hlL
      go_wp2
      go_ret2
      exact ⟨rfl, hbw⟩
set_option maxRecDepth 100000 in
set_option maxHeartbeats 4000000 in
theorem formatBits_pow (u base : Nat) (w : World) (hb : 2 ≤ base) (h36 : base ≤ 36) (h10 : base ≠ 10) (hu : u < 18446744073709551616) (k : Nat) (hk1 : 1 ≤ k) (hk5 : k ≤ 5) (hbk : base = 2 ^ k) (ht : DeBruijnAt w) :
    Calls Tryd.prog 65 #[.slice none 0 0, .int .u64 u, .int .i64 base, .bool false, .bool false] w fun e w' => e = .returned (.tuple #[.slice none 0 0, .string ⟨(inBase base u).toArray⟩]) ∧ Below w.heap.size w w' := by
  have hz : ∀ w, (zeroValue 103).run Tryd.prog w = .ok (.agg (Array.replicate 65 (.int .u8 0))) w := (zero_of_info info65).1
  have d1 : ((base : Int) == 10) = false := by simp; omega
  have CP := fun w => hide (isPow_any base w hb h36)
  rw [decide_eq_true (pow_cases base k hk1 hk5 hbk)] at CP
  have CT := hide (trailing_pow base k (w.alloc (.cells (rowEnd []) 103)) hk1 hk5 hbk (debruijn_stay ht ((Below.refl _ _).alloc (Nat.le_refl _) _)))
  have HBK := hide hbk
  clear h10 hbk ht
  go_enter Tryd.func65, Tryd.ntmps65
  go_wp2_with fail
  refine (unhide (CP _)).mono ?_
  rintro e w1 ⟨rfl, rfl⟩
  rw [← rowEnd_nil]
  have hrow := hide (heap_alloc_new w (.cells (rowEnd []) 103))
  have hb0 : Below w.heap.size w (w.alloc (.cells (rowEnd []) 103)) := (Below.refl _ _).alloc (Nat.le_refl _) _
  generalize w.alloc (.cells (rowEnd []) 103) = w1 at *
  clear hz
  go_wp2_with fail
  refine (unhide CT).mono ?_
  rintro e w1 ⟨rfl, rfl⟩
  have hkk : (k : Int) ≤ 5 := by omega
  clear CT
  go_wp2
  go_loopw [1, 13] (fun vu vi wr => ∃ (x : Nat) (ds : List UInt8), vu = .int .u64 x ∧ vi = .int .i64 ((65 - ds.length : Nat) : Int) ∧ x < 18446744073709551616 ∧ ds.length ≤ 63 ∧ wr.heap[w.heap.size]? = some (.cells (rowEnd ds) 103 (0, 0)) ∧ Hid (inBase base x ++ ds = inBase base u) ∧ Below w.heap.size w wr) (fun vu vi _ => (intOf vi).toNat)
  case atStart => exact ⟨u, [], rfl, rfl, hu, by simp, unhide hrow, hide (by simp), hb0⟩
  case round =>
    obtain ⟨x, ds, rfl, rfl, hx, hdl, hr, H, hbl⟩ := hrel
    have hcell : wr.cell? ⟨w.heap.size, 64 - ds.length, none⟩ = some (.int .u8 0) := by rw [cell_of_row wr _ _ _ _ _ hr]; exact rowEnd_at ds (by omega)
    have hfr := frozen_of_row wr w.heap.size (64 - ds.length) _ _ hr
    have hst := fun b => heap_setCell_same wr w.heap.size (64 - ds.length) _ _ (.int .u8 (UInt8.toNat b : Int)) hr
    have hi1 : (((65 - ds.length : Nat) : Int) - 1) = ((64 - ds.length : Nat) : Int) := by omega
    by_cases hge : base ≤ x
    · have hstep := inBase_step base x hb hx hge
      have hlen := inBase_len base u hb hu
      have hlen2 := inBase_len base (x / base) hb (Nat.lt_of_le_of_lt (Nat.div_le_self _ _) hx)
      have hle : (inBase base (x / base)).length + 1 + ds.length ≤ 64 := by
        have := congrArg List.length (unhide H)
        rw [hstep] at this
        simp at this
        omega
      have hd : x % base < base := Nat.mod_lt _ (by omega)
      have hdm := Nat.div_add_mod x base
      have hq1 : (x : Int) / 2 ^ k = ((x / base : Nat) : Int) := by rw [unhide HBK, Int.natCast_ediv, Int.natCast_pow]; rfl
      have hand : bits BinOp.and IntKind.u64 (x : Int) ((base : Int) - 1) = ((x % base : Nat) : Int) := and_pow x base k (by omega) (unhide HBK) hx
      have hqx : x / base ≤ x := Nat.div_le_self _ _
      have H2 := hide (show inBase base (x / base) ++ (digByte (x % base) :: ds) = inBase base u by rw [← unhide H, hstep]; simp)
      obtain ⟨q, hqq⟩ : ∃ q, q = x / base := ⟨_, rfl⟩
      obtain ⟨d, hdd⟩ : ∃ d, d = x % base := ⟨_, rfl⟩
      rw [← hqq] at hq1 hqx hdm hle H2 hlen2
      rw [← hdd] at hd hdm H2
      rw [← hdd] at hand
      have hd36 : (d : Int) < 36 := by omega
      have hst2 := hst (digByte d)
      rw [rowEnd_step ds (digByte d) (by omega)] at hst2
      have HST := hide hst2
      have hdn : d < 36 := by omega
      have hdt := hide (digTab_at d hdn)
      clear hstep hlen hqq hdd hst hst2 H hr hdm
      go_wp2
      rw [dig_lit d hdn]
      exact ⟨⟨q, digByte d :: ds, rfl, by congr 1; simp, by omega, by simp; omega, unhide HST, H2, hbl.setCell (by simp) _⟩, by simp [intOf]; omega⟩
    · have hL := hide (show digByte x :: ds = inBase base u by rw [← unhide H, inBase_small base x (by omega)]; rfl)
      have hxn : x < 36 := by omega
      have hx36 : (x : Int) < 36 := by omega
      have hst2 := hst (digByte x)
      rw [rowEnd_step ds (digByte x) (by omega)] at hst2
      have hcv := fmt_conv _ w.heap.size (65 - (64 - ds.length)) (digByte x :: ds) (by simp; omega) hst2
      rw [unhide hL] at hcv
      have hlL : (inBase base u).length = ds.length + 1 := by rw [← unhide hL]; simp
      rw [hlL, show 65 - (ds.length + 1) = 64 - ds.length by omega] at hcv
      have hdig := dig_lit x hxn hxn
      have hsl := slice65 (wr.setCell ⟨w.heap.size, 64 - ds.length, none⟩ (.int .u8 ((digByte x).toNat : Int))) w.heap.size (64 - ds.length) (by omega)
      rw [show 65 - (64 - ds.length) = ds.length + 1 by omega] at hsl hcv
      have hbw := hbl.setCell (p := ⟨w.heap.size, 64 - ds.length, none⟩) (Nat.le_refl _) (.int .u8 ((digByte x).toNat : Int))
      clear hst hst2 H hr hlL
      go_wp2
      go_ret2
      exact ⟨rfl, hbw⟩
set_option maxRecDepth 100000 in
set_option maxHeartbeats 4000000 in
theorem formatBits_powNeg (u base : Nat) (y : Int) (w : World) (hy : IntKind.u64.wrap (-y) = (u : Int)) (hb : 2 ≤ base) (h36 : base ≤ 36) (h10 : base ≠ 10) (hu : u < 18446744073709551616) (k : Nat) (hk1 : 1 ≤ k) (hk5 : k ≤ 5) (hbk : base = 2 ^ k) (ht : DeBruijnAt w) :
    Calls Tryd.prog 65 #[.slice none 0 0, .int .u64 y, .int .i64 base, .bool true, .bool false] w fun e w' => e = .returned (.tuple #[.slice none 0 0, .string ⟨(45 :: inBase base u).toArray⟩]) ∧ Below w.heap.size w w' := by
  have hz : ∀ w, (zeroValue 103).run Tryd.prog w = .ok (.agg (Array.replicate 65 (.int .u8 0))) w := (zero_of_info info65).1
  have d1 : ((base : Int) == 10) = false := by simp; omega
  have CP := fun w => hide (isPow_any base w hb h36)
  rw [decide_eq_true (pow_cases base k hk1 hk5 hbk)] at CP
  have CT := hide (trailing_pow base k (w.alloc (.cells (rowEnd []) 103)) hk1 hk5 hbk (debruijn_stay ht ((Below.refl _ _).alloc (Nat.le_refl _) _)))
  have HBK := hide hbk
  clear h10 hbk ht
  go_enter Tryd.func65, Tryd.ntmps65
  go_wp2_with fail
  refine (unhide (CP _)).mono ?_
  rintro e w1 ⟨rfl, rfl⟩
  rw [← rowEnd_nil]
  have hrow := hide (heap_alloc_new w (.cells (rowEnd []) 103))
  have hb0 : Below w.heap.size w (w.alloc (.cells (rowEnd []) 103)) := (Below.refl _ _).alloc (Nat.le_refl _) _
  generalize w.alloc (.cells (rowEnd []) 103) = w1 at *
  clear hz
  go_wp2_with fail
  refine (unhide CT).mono ?_
  rintro e w1 ⟨rfl, rfl⟩
  have hkk : (k : Int) ≤ 5 := by omega
  clear CT
  go_wp2
  go_loopw [1, 13] (fun vu vi wr => ∃ (x : Nat) (ds : List UInt8), vu = .int .u64 x ∧ vi = .int .i64 ((65 - ds.length : Nat) : Int) ∧ x < 18446744073709551616 ∧ ds.length ≤ 63 ∧ wr.heap[w.heap.size]? = some (.cells (rowEnd ds) 103 (0, 0)) ∧ Hid (inBase base x ++ ds = inBase base u) ∧ Below w.heap.size w wr) (fun vu vi _ => (intOf vi).toNat)
  case atStart => exact ⟨u, [], rfl, rfl, hu, by simp, unhide hrow, hide (by simp), hb0⟩
  case round =>
    obtain ⟨x, ds, rfl, rfl, hx, hdl, hr, H, hbl⟩ := hrel
    have hcell : wr.cell? ⟨w.heap.size, 64 - ds.length, none⟩ = some (.int .u8 0) := by rw [cell_of_row wr _ _ _ _ _ hr]; exact rowEnd_at ds (by omega)
    have hfr := frozen_of_row wr w.heap.size (64 - ds.length) _ _ hr
    have hst := fun b => heap_setCell_same wr w.heap.size (64 - ds.length) _ _ (.int .u8 (UInt8.toNat b : Int)) hr
    have hi1 : (((65 - ds.length : Nat) : Int) - 1) = ((64 - ds.length : Nat) : Int) := by omega
    by_cases hge : base ≤ x
    · have hstep := inBase_step base x hb hx hge
      have hlen := inBase_len base u hb hu
      have hlen2 := inBase_len base (x / base) hb (Nat.lt_of_le_of_lt (Nat.div_le_self _ _) hx)
      have hle : (inBase base (x / base)).length + 1 + ds.length ≤ 64 := by
        have := congrArg List.length (unhide H)
        rw [hstep] at this
        simp at this
        omega
      have hd : x % base < base := Nat.mod_lt _ (by omega)
      have hdm := Nat.div_add_mod x base
      have hq1 : (x : Int) / 2 ^ k = ((x / base : Nat) : Int) := by rw [unhide HBK, Int.natCast_ediv, Int.natCast_pow]; rfl
      have hand : bits BinOp.and IntKind.u64 (x : Int) ((base : Int) - 1) = ((x % base : Nat) : Int) := and_pow x base k (by omega) (unhide HBK) hx
      have hqx : x / base ≤ x := Nat.div_le_self _ _
      have H2 := hide (show inBase base (x / base) ++ (digByte (x % base) :: ds) = inBase base u by rw [← unhide H, hstep]; simp)
      obtain ⟨q, hqq⟩ : ∃ q, q = x / base := ⟨_, rfl⟩
      obtain ⟨d, hdd⟩ : ∃ d, d = x % base := ⟨_, rfl⟩
      rw [← hqq] at hq1 hqx hdm hle H2 hlen2
      rw [← hdd] at hd hdm H2
      rw [← hdd] at hand
      have hd36 : (d : Int) < 36 := by omega
      have hst2 := hst (digByte d)
      rw [rowEnd_step ds (digByte d) (by omega)] at hst2
      have HST := hide hst2
      have hdn : d < 36 := by omega
      have hdt := hide (digTab_at d hdn)
      clear hstep hlen hqq hdd hst hst2 H hr hdm
      go_wp2
      rw [dig_lit d hdn]
      exact ⟨⟨q, digByte d :: ds, rfl, by congr 1; simp, by omega, by simp; omega, unhide HST, H2, hbl.setCell (by simp) _⟩, by simp [intOf]; omega⟩
    · have hL := hide (show digByte x :: ds = inBase base u by rw [← unhide H, inBase_small base x (by omega)]; rfl)
      have hxn : x < 36 := by omega
      have hx36 : (x : Int) < 36 := by omega
      have hst2 := hst (digByte x)
      rw [rowEnd_step ds (digByte x) (by omega)] at hst2
      have hcell2 : (wr.setCell ⟨w.heap.size, 64 - ds.length, none⟩ (.int .u8 ((digByte x).toNat : Int))).cell? ⟨w.heap.size, 63 - ds.length, none⟩ = some (.int .u8 0) := by
        rw [cell_of_row _ _ _ _ _ _ hst2]
        have := rowEnd_at (digByte x :: ds) (by simp; omega)
        rw [List.length_cons, show 64 - (ds.length + 1) = 63 - ds.length by omega] at this
        exact this
      have hfr2 := frozen_of_row _ w.heap.size (63 - ds.length) _ _ hst2
      have hst3 := heap_setCell_same _ w.heap.size (63 - ds.length) _ _ (.int .u8 45) hst2
      have hst4 := rowEnd_step (digByte x :: ds) 45 (by simp; omega)
      rw [List.length_cons, show 64 - (ds.length + 1) = 63 - ds.length by omega, show ((45 : UInt8).toNat : Int) = 45 from rfl] at hst4
      rw [hst4] at hst3
      have hcv := fmt_conv _ w.heap.size (65 - (63 - ds.length)) (45 :: digByte x :: ds) (by simp; omega) hst3
      rw [unhide hL] at hcv
      have hlL : (inBase base u).length = ds.length + 1 := by rw [← unhide hL]; simp
      rw [List.length_cons, hlL, show 65 - (ds.length + 1 + 1) = 63 - ds.length by omega] at hcv
      have hdig := dig_lit x hxn hxn
      have hsl := slice65 ((wr.setCell ⟨w.heap.size, 64 - ds.length, none⟩ (.int .u8 ((digByte x).toNat : Int))).setCell ⟨w.heap.size, 63 - ds.length, none⟩ (.int .u8 45)) w.heap.size (63 - ds.length) (by omega)
      rw [show 65 - (63 - ds.length) = ds.length + 1 + 1 by omega] at hsl hcv
      have hi2 : (((64 - ds.length : Nat) : Int) - 1) = ((63 - ds.length : Nat) : Int) := by omega
      have hbw := (hbl.setCell (p := ⟨w.heap.size, 64 - ds.length, none⟩) (Nat.le_refl _) (.int .u8 ((digByte x).toNat : Int))).setCell (p := ⟨w.heap.size, 63 - ds.length, none⟩) (Nat.le_refl _) (.int .u8 45)
      clear hst hst2 hst3 hst4 H hr hlL
      go_wp2
      go_ret2
      exact ⟨rfl, hbw⟩
end Go.Proofs.YtfjbafdgjpdbdaaDoor
