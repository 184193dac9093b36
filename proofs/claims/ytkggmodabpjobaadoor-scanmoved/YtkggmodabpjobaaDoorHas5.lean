/- What sets.Has and sets.with do, for every set and byte. -/
import Derived.Test.YtkggmodabpjobaaDoorRows
import Derived.Test.YtkggmodabpjobaaDoorSetPlain
import Derived.Test.YtkggmodabpjobaaDoorPatBase
import Derived.WalkKit
import Derived.WalkSpells
import Derived.WalkLawsBesides
import Derived.WalkSmall
import Derived.Deep.WholeRow
import Derived.Laws.Bits64b
import Derived.ChangeKeysEq
namespace Go.Proofs.YtkggmodabpjobaaDoor
open Go.RowKit

theorem info_set : (Tryd.prog.info? 106).map (fun i => (i.zero, i.size)) = some (some (.agg (Array.replicate 4 (.int .u64 0))), 4) := by kernel_rfl
/-- One element of an array that is a value. -/
theorem run_index_row {t e : TypeId} {n k : Nat} {C : Array Value} {v : Value} (w : World) (hu : Tryd.prog.underlying t = some (.array n e)) (he : Tryd.prog.plainKey e = true) (hs : (Tryd.prog.info? e).map (·.size) = some 1) (hk : k < n) (hc : C[k]? = some v) :
    (Instr.index t (.agg C) (.int .i64 (k : Int))).run Tryd.prog w = .ok v w := by
  have hp := run_part_plain (P := Tryd.prog) (w := w) he hc
  have h0 : (0 : Int) ≤ (k : Int) ∧ (k : Int) < (n : Int) := by omega
  cases hq : Tryd.prog.info? e with
  | none => simp [hq] at hs
  | some i =>
    have hz : i.size = 1 := by simpa [hq] using hs
    simp [Instr.index, asIntOf, run_underlying hu, h0, sizeOf, typeInfo, hq, hz, hp]
    intro h
    omega
theorem plain_u64 : Tryd.prog.plainKey 104 = true := by kernel_rfl
theorem size_u64 : (Tryd.prog.info? 104).map (·.size) = some 1 := by kernel_rfl
theorem plain_bool : Tryd.prog.plainKey 4 = true := by kernel_rfl
theorem size_bool : (Tryd.prog.info? 4).map (·.size) = some 1 := by kernel_rfl
/-- A bit as Go asks it. -/
theorem has_bit (x i : Nat) (hx : x < 18446744073709551616) : (bits BinOp.and IntKind.u64 ((x : Int) / 2 ^ i) 1 == 1) = x.testBit i := by
  have e : ((x : Int) / 2 ^ i) = ((x / 2 ^ i : Nat) : Int) := by simp
  have hd : x / 2 ^ i ≤ x := Nat.div_le_self _ _
  rw [e, Nat.testBit_eq_decide_div_mod_eq]
  generalize x / 2 ^ i = y at *
  rw [and_one_u64 _ (by omega) (by omega)]
  by_cases h : y % 2 = 1
  · simp only [h, decide_true]; rw [beq_iff_eq]; omega
  · simp only [h, decide_false]; rw [beq_eq_false_iff_ne]; omega

set_option maxHeartbeats 400000 in
theorem has_any (p : Nat → Bool) (b : Nat) (hb : b < 256) (w : World) :
    Calls Tryd.prog 50 #[sv p, .int .u8 (b : Int)] w fun e w' => e = .returned (.bool (p b)) ∧ Below w.heap.size w w' := by
  unfold sv
  have hcs := sc_size p
  have hat := sc_at p (b / 64) (by omega)
  have hbit := has_bit (wd p (b / 64)) (b % 64) (wd_lt _ _)
  have H := hide (show (bits BinOp.and IntKind.u64 (((wd p (b / 64) : Nat) : Int) / 2 ^ (b % 64)) 1 == 1) = p b by
    rw [hbit, wd_bit, show 64 * (b / 64) + b % 64 = b by omega]
    simp; omega)
  generalize sc p = C at *
  clear hbit
  go_enter Tryd.func50, Tryd.ntmps50
  go_wp2
  go_ret
  exact ⟨ret_bool (unhide H), (Below.refl _ _).alloc (Nat.le_refl _) _⟩

/-- A set with one byte more, cell by cell. -/
theorem sc_with (p : Nat → Bool) (b : Nat) :
    (sc p).setIfInBounds (b / 64) (.int .u64 (bits BinOp.or IntKind.u64 ((wd p (b / 64) : Nat) : Int) (IntKind.u64.wrap (2 ^ (b % 64))))) = sc fun c => p c || c == b := by
  have h64 : (2 : Nat) ^ (b % 64) < 18446744073709551616 := Nat.pow_lt_pow_right (a := 2) (by omega) (show b % 64 < 64 by omega)
  have e : IntKind.u64.wrap (2 ^ (b % 64)) = ((2 ^ (b % 64) : Nat) : Int) := by
    have : ((2 : Int) ^ (b % 64)) = ((2 ^ (b % 64) : Nat) : Int) := by simp
    rw [this]
    generalize 2 ^ (b % 64) = y at *
    rw [IntKind.wrap_u64]
    omega
  rw [e, bits_or_u64_nat _ _ (wd_lt _ _) h64]
  have hw : ∀ k, k < 4 → (if b / 64 = k then wd p (b / 64) ||| 2 ^ (b % 64) else wd p k) = wd (fun c => p c || c == b) k := by
    intro k hk
    apply Nat.eq_of_testBit_eq
    intro i
    rw [wd_bit]
    by_cases h : b / 64 = k
    · rw [if_pos h, Nat.testBit_or, wd_bit, Nat.testBit_two_pow, h]
      by_cases hi : i < 64
      · simp only [hi, decide_true, Bool.true_and]
        congr 1
        by_cases h2 : b % 64 = i
        · rw [decide_eq_true h2]; symm; rw [beq_iff_eq]; omega
        · rw [decide_eq_false h2]; symm; rw [beq_eq_false_iff_ne]; omega
      · simp only [hi, decide_false, Bool.false_and, Bool.false_or]
        rw [decide_eq_false_iff_not]; omega
    · rw [if_neg h, wd_bit]
      by_cases hi : i < 64
      · have : (64 * k + i == b) = false := by rw [beq_eq_false_iff_ne]; omega
        simp [this]
      · simp [hi]
  apply Array.ext_getElem?
  intro k
  by_cases hk : k < 4
  · rw [sc_at _ _ hk, Array.getElem?_setIfInBounds, ← hw k hk]
    by_cases h : b / 64 = k
    · rw [if_pos h, if_pos (by rw [sc_size]; omega), if_pos h]
    · rw [if_neg h, if_neg h, sc_at _ _ hk]
  · rw [Array.getElem?_eq_none (by simp [sc_size]; omega), Array.getElem?_eq_none (by rw [sc_size]; omega)]

def zerosS : Array Value := #[.int .u64 0, .int .u64 0, .int .u64 0, .int .u64 0]
theorem zerosS_eq : zerosS = sc fun _ => false := by
  have : ∀ k, wd (fun _ => false) k = 0 := fun k => Nat.eq_of_testBit_eq fun i => by rw [wd_bit]; simp
  unfold zerosS sc u64v
  rw [this, this, this, this]
  rfl
theorem size_set : (Tryd.prog.info? 106).map (·.size) = some 4 := (zero_of_info info_set).2

set_option maxHeartbeats 400000 in
theorem with_any (p : Nat → Bool) (b : Nat) (hb : b < 256) (w : World) :
    Calls Tryd.prog 55 #[sv p, .int .u8 (b : Int)] w fun e w' => e = .returned (sv fun c => p c || c == b) ∧ Below w.heap.size w w' := by
  unfold sv
  have hcs := sc_size p
  have hat := sc_at p (b / 64) (by omega)
  have hD := sc_with p b
  have hDs := sc_size fun c => p c || c == b
  have hD1 := sc_one fun c => p c || c == b
  generalize sc (fun c => p c || c == b) = D at *
  generalize sc p = C at *
  have HD := hide hD
  have hi := size_set
  rw [← hDs] at hi
  have HI := hide hi
  clear hD hi
  go_enter Tryd.func55, Tryd.ntmps55
  go_wp2_with (first
    | (rw [unhide HD]; refine wpList_load_row rfl 106 _ rfl w.heap.size rfl 106 D (0, 0) _ (heap_alloc2_old w _ _) Tryd.underlying106 rfl (unhide HI) ?_)
    | (refine wpList_store_row rfl 106 _ _ rfl (w.heap.size + 1) D rfl rfl 106 zerosS (heap_alloc2_new w _ _) (unhide HI) hDs.symm hD1 ?_))
  (try simp only [Exit.inBlock, Exit.then])
  exact bodyPost_ret (results_cell_row rfl _ _ (w.heap.size + 1) 106 D (0, 0) _ rfl (setRow_heap _ _ _ _ _ _ (heap_alloc2_new w _ _)) Tryd.underlying106 rfl (unhide HI)) rfl ⟨rfl, below_setRow (((Below.refl _ _).alloc (Nat.le_refl _) _).alloc (by simp) _) _ (by omega) _⟩
end Go.Proofs.YtkggmodabpjobaaDoor
