/- What sets.Union, Meet, Less and Not do, for every sets. What sets.Not does, for every set. -/
import Derived.Test.YtjfahpklemohgaaDoorOf5M
import Derived.Deep.RegionHeld3
namespace Go.Proofs.YtjfahpklemohgaaDoor
open Go.RowKit

theorem bits_andNot_u64_nat (a b : Nat) (ha : a < 18446744073709551616) (hb : b < 18446744073709551616) :
    bits .andNot .u64 (a : Int) (b : Int) = ((a &&& (18446744073709551615 ^^^ b) : Nat) : Int) := by
  have h1 : (BitVec.ofInt 64 (a : Int)).toNat = a := by
    rw [BitVec.ofInt_natCast, BitVec.toNat_ofNat]; exact Nat.mod_eq_of_lt (by omega)
  have h2 : (BitVec.ofInt 64 (b : Int)).toNat = b := by
    rw [BitVec.ofInt_natCast, BitVec.toNat_ofNat]; exact Nat.mod_eq_of_lt (by omega)
  have hx : a &&& (18446744073709551615 ^^^ b) < 2 ^ 64 := Nat.and_lt_two_pow _ (Nat.xor_lt_two_pow (by omega) (by omega))
  have e : (BitVec.ofInt 64 (a : Int) &&& ~~~ BitVec.ofInt 64 (b : Int)).toNat = a &&& (18446744073709551615 ^^^ b) := by
    rw [BitVec.toNat_and, h1]
    congr 1
    rw [← BitVec.allOnes_xor, BitVec.toNat_xor, h2, BitVec.toNat_allOnes]
  show IntKind.u64.wrap ((BitVec.ofInt 64 (a : Int) &&& ~~~ BitVec.ofInt 64 (b : Int)).toNat : Int) = _
  rw [e, IntKind.wrap_u64]
  omega
theorem wd_or (p q : Nat → Bool) (k : Nat) : wd p k ||| wd q k = wd (fun c => p c || q c) k := by
  apply Nat.eq_of_testBit_eq
  intro i
  rw [Nat.testBit_or, wd_bit, wd_bit, wd_bit]
  cases decide (i < 64) <;> simp
theorem wd_and (p q : Nat → Bool) (k : Nat) : wd p k &&& wd q k = wd (fun c => p c && q c) k := by
  apply Nat.eq_of_testBit_eq
  intro i
  rw [Nat.testBit_and, wd_bit, wd_bit, wd_bit]
  cases decide (i < 64) <;> simp
theorem wd_not (p : Nat → Bool) (k : Nat) : 18446744073709551615 ^^^ wd p k = wd (fun c => !p c) k := by
  apply Nat.eq_of_testBit_eq
  intro i
  rw [Nat.testBit_xor, wd_bit, wd_bit, show (18446744073709551615 : Nat) = 2 ^ 64 - 1 from rfl, Nat.testBit_two_pow_sub_one]
  cases decide (i < 64) <;> simp
theorem wd_less (p q : Nat → Bool) (k : Nat) : wd p k &&& (18446744073709551615 ^^^ wd q k) = wd (fun c => p c && !q c) k := by
  rw [wd_not, wd_and]


set_option maxHeartbeats 400000 in

theorem or_word (x y : Nat) (w : World) (hx : x < 18446744073709551616) (hy : y < 18446744073709551616) :
    Calls Tryd.prog 67 #[.int .u64 (x : Int), .int .u64 (y : Int)] w fun e w' => e = .returned (.int .u64 ((x ||| y : Nat) : Int)) ∧ w' = w := by
  rw [← bits_or_u64_nat x y hx hy]
  go_enter Tryd.func67, Tryd.ntmps67
  go_wp2
  go_ret
  exact ⟨rfl, rfl⟩

set_option maxHeartbeats 400000 in

theorem and_word (x y : Nat) (w : World) (hx : x < 18446744073709551616) (hy : y < 18446744073709551616) :
    Calls Tryd.prog 84 #[.int .u64 (x : Int), .int .u64 (y : Int)] w fun e w' => e = .returned (.int .u64 ((x &&& y : Nat) : Int)) ∧ w' = w := by
  rw [← bits_and_u64_nat x y hx hy]
  go_enter Tryd.func84, Tryd.ntmps84
  go_wp2
  go_ret
  exact ⟨rfl, rfl⟩

set_option maxHeartbeats 400000 in

set_option maxHeartbeats 1000000 in
theorem wordwise_or (f g h : Nat → Nat) (w : World) (hf : ∀ k, f k < 18446744073709551616) (hg : ∀ k, g k < 18446744073709551616) (hh : ∀ k, f k ||| g k = h k) :
    Calls Tryd.prog 66 #[.agg (wc f), .agg (wc g), .func (.func 67) #[] #[]] w fun e w' => e = .returned (.agg (wc h)) ∧ Below w.heap.size w w' := by
  have hz : (#[.int .u64 0, .int .u64 0, .int .u64 0, .int .u64 0] : Array Value) = wc (upTo 0 h) := rfl
  have hFs := wc_size f
  have hGs := wc_size g
  have hFa := wc_at f
  have hGa := wc_at g
  generalize wc f = F at *
  generalize wc g = G at *
  have H0 := hide hFa
  have H1 := hide hGa
  have H2 := hide hh
  have H3 := hide (fun k w => or_word (f k) (g k) w (hf k) (hg k))
  clear hFa hGa hh hf hg
  go_enter Tryd.func66, Tryd.ntmps66
  go_wp2
  go_loopw [9] (fun i wr => ∃ k : Nat, k ≤ 4 ∧ i = .int .i64 k ∧ wr.heap[w.heap.size]? = some (.cells F 29 (0, 0)) ∧ wr.heap[w.heap.size + 1]? = some (.cells G 29 (0, 0)) ∧ wr.heap[w.heap.size + 1 + 1]? = some (.cells (wc (upTo 0 h)) 29 (0, 0)) ∧ wr.heap[w.heap.size + 1 + 1 + 1]? = some (.cells (wc (upTo k h)) 29 (0, 0)) ∧ Below w.heap.size w wr) (fun i _ => 4 - (intOf i).toNat)
  case atStart => exact ⟨0, by omega, rfl, at_old (by simp only [World.size_alloc]; omega) (at_old (by simp only [World.size_alloc]; omega) (at_old (by simp only [World.size_alloc]; omega) (at_new rfl))), at_old (by simp only [World.size_alloc]; omega) (at_old (by simp only [World.size_alloc]; omega) (at_new (by simp only [World.size_alloc]))), at_old (by simp only [World.size_alloc]; omega) (at_new (by simp only [World.size_alloc])), at_new (by simp only [World.size_alloc]), ((((Below.refl _ _).alloc (Nat.le_refl _) _).alloc (by simp) _).alloc (by simp only [World.size_alloc]; omega) _).alloc (by simp only [World.size_alloc]; omega) _⟩
  case round =>
    obtain ⟨k, hk, rfl, hg0, hg1, hg2, hg3, hb⟩ := hrel
    by_cases hlt : k < 4
    · have h1 : (k : Int) < 4 := by omega
      have h0 : (0 : Int) ≤ (k : Int) := by omega
      have c0 : wr.cell? ⟨w.heap.size, k, none⟩ = some (.int .u64 (f k : Int)) := by rw [cell_of_row wr _ _ _ _ _ hg0, unhide H0 k hlt]
      have c1 : wr.cell? ⟨w.heap.size + 1, k, none⟩ = some (.int .u64 (g k : Int)) := by rw [cell_of_row wr _ _ _ _ _ hg1, unhide H1 k hlt]
      have c3 : wr.cell? ⟨w.heap.size + 1 + 1 + 1, k, none⟩ = some (.int .u64 (upTo k h k : Int)) := by rw [cell_of_row wr _ _ _ _ _ hg3, wc_at _ _ hlt]
      have hfr := frozen_of_row wr (w.heap.size + 1 + 1 + 1) k _ _ hg3
      have n3 := heap_setCell_same wr (w.heap.size + 1 + 1 + 1) k _ _ (.int .u64 (h k : Int)) hg3
      rw [upTo_step k h hlt] at n3
      have n0 := (heap_setCell_other wr ⟨w.heap.size + 1 + 1 + 1, k, none⟩ w.heap.size (.int .u64 (h k : Int)) (by simp only; omega)).trans hg0
      have n1 := (heap_setCell_other wr ⟨w.heap.size + 1 + 1 + 1, k, none⟩ (w.heap.size + 1) (.int .u64 (h k : Int)) (by simp only; omega)).trans hg1
      have n2 := (heap_setCell_other wr ⟨w.heap.size + 1 + 1 + 1, k, none⟩ (w.heap.size + 1 + 1) (.int .u64 (h k : Int)) (by simp only; omega)).trans hg2
      have hb' := (hb.setCell (p := ⟨w.heap.size + 1 + 1 + 1, k, none⟩) (by simp only; omega) (.int .u64 (h k : Int))).drew
      have k0 := (cell_of_row _ _ k _ _ _ n0).trans (unhide H0 k hlt)
      have k1 := (cell_of_row _ _ k _ _ _ n1).trans (unhide H1 k hlt)
      have N := hide (And.intro n0 (And.intro n1 (And.intro n2 (And.intro n3 hb'))))
      have C := hide (unhide H3 k)
      rw [unhide H2 k] at C
      clear n0 n1 n2 n3 hb' hg0 hg1 hg2 hg3 hb
      go_wp2
      go_region_held3 (fun w' => w'.cell? ⟨w.heap.size, k, none⟩ = some (.int .u64 (f k : Int)) ∧ w'.cell? ⟨w.heap.size + 1, k, none⟩ = some (.int .u64 (g k : Int))) (go_keep)
        (first
          | (go_at_call 67; refine (unhide C _).mono ?_; rintro e w1 ⟨rfl, rfl⟩))
      go_wp2
      go_roundw
      case rel => exact ⟨k + 1, by omega, by go_num, (unhide N).1, (unhide N).2.1, (unhide N).2.2.1, (unhide N).2.2.2.1, (unhide N).2.2.2.2⟩
      case measure => simp [intOf]; omega
    · obtain rfl : k = 4 := by omega
      rw [upTo_end] at hg3
      have hsz := wc_size h
      have hone := wc_one h
      have hzs : (wc (upTo 0 h)).size = (wc h).size := rfl
      have hi := size_set
      rw [← hsz] at hi
      generalize wc (upTo 0 h) = Z at *
      obtain ⟨D, hD⟩ : ∃ D, D = wc h := ⟨_, rfl⟩
      rw [← hD] at hg3 hsz hone hzs hi
      have HD := hide hD
      clear hD
      have G2 := hide (setRow_heap wr (w.heap.size + 1 + 1) Z D _ _ hg2)
      have B2 := hide (below_setRow hb (w.heap.size + 1 + 1) (by omega) D)
      have HI := hide hi
      clear hi hb hz
      go_wp2_with (first
        | (refine wpList_load_row rfl 29 _ rfl (w.heap.size + 1 + 1 + 1) rfl 29 D (0, 0) _ hg3 Tryd.underlying29 rfl (unhide HI) ?_)
        | (refine wpList_store_row rfl 29 _ _ rfl (w.heap.size + 1 + 1) D rfl rfl 29 Z hg2 (unhide HI) hzs hone ?_))
      (try simp only [Exit.inBlock, Exit.then])
      exact bodyPost_ret (results_cell_row rfl _ _ (w.heap.size + 1 + 1) 29 D (0, 0) _ rfl (unhide G2) Tryd.underlying29 rfl (unhide HI)) rfl ⟨by rw [unhide HD], unhide B2⟩

set_option maxHeartbeats 1000000 in
theorem wordwise_and (f g h : Nat → Nat) (w : World) (hf : ∀ k, f k < 18446744073709551616) (hg : ∀ k, g k < 18446744073709551616) (hh : ∀ k, f k &&& g k = h k) :
    Calls Tryd.prog 66 #[.agg (wc f), .agg (wc g), .func (.func 84) #[] #[]] w fun e w' => e = .returned (.agg (wc h)) ∧ Below w.heap.size w w' := by
  have hz : (#[.int .u64 0, .int .u64 0, .int .u64 0, .int .u64 0] : Array Value) = wc (upTo 0 h) := rfl
  have hFs := wc_size f
  have hGs := wc_size g
  have hFa := wc_at f
  have hGa := wc_at g
  generalize wc f = F at *
  generalize wc g = G at *
  have H0 := hide hFa
  have H1 := hide hGa
  have H2 := hide hh
  have H3 := hide (fun k w => and_word (f k) (g k) w (hf k) (hg k))
  clear hFa hGa hh hf hg
  go_enter Tryd.func66, Tryd.ntmps66
  go_wp2
  go_loopw [9] (fun i wr => ∃ k : Nat, k ≤ 4 ∧ i = .int .i64 k ∧ wr.heap[w.heap.size]? = some (.cells F 29 (0, 0)) ∧ wr.heap[w.heap.size + 1]? = some (.cells G 29 (0, 0)) ∧ wr.heap[w.heap.size + 1 + 1]? = some (.cells (wc (upTo 0 h)) 29 (0, 0)) ∧ wr.heap[w.heap.size + 1 + 1 + 1]? = some (.cells (wc (upTo k h)) 29 (0, 0)) ∧ Below w.heap.size w wr) (fun i _ => 4 - (intOf i).toNat)
  case atStart => exact ⟨0, by omega, rfl, at_old (by simp only [World.size_alloc]; omega) (at_old (by simp only [World.size_alloc]; omega) (at_old (by simp only [World.size_alloc]; omega) (at_new rfl))), at_old (by simp only [World.size_alloc]; omega) (at_old (by simp only [World.size_alloc]; omega) (at_new (by simp only [World.size_alloc]))), at_old (by simp only [World.size_alloc]; omega) (at_new (by simp only [World.size_alloc])), at_new (by simp only [World.size_alloc]), ((((Below.refl _ _).alloc (Nat.le_refl _) _).alloc (by simp) _).alloc (by simp only [World.size_alloc]; omega) _).alloc (by simp only [World.size_alloc]; omega) _⟩
  case round =>
    obtain ⟨k, hk, rfl, hg0, hg1, hg2, hg3, hb⟩ := hrel
    by_cases hlt : k < 4
    · have h1 : (k : Int) < 4 := by omega
      have h0 : (0 : Int) ≤ (k : Int) := by omega
      have c0 : wr.cell? ⟨w.heap.size, k, none⟩ = some (.int .u64 (f k : Int)) := by rw [cell_of_row wr _ _ _ _ _ hg0, unhide H0 k hlt]
      have c1 : wr.cell? ⟨w.heap.size + 1, k, none⟩ = some (.int .u64 (g k : Int)) := by rw [cell_of_row wr _ _ _ _ _ hg1, unhide H1 k hlt]
      have c3 : wr.cell? ⟨w.heap.size + 1 + 1 + 1, k, none⟩ = some (.int .u64 (upTo k h k : Int)) := by rw [cell_of_row wr _ _ _ _ _ hg3, wc_at _ _ hlt]
      have hfr := frozen_of_row wr (w.heap.size + 1 + 1 + 1) k _ _ hg3
      have n3 := heap_setCell_same wr (w.heap.size + 1 + 1 + 1) k _ _ (.int .u64 (h k : Int)) hg3
      rw [upTo_step k h hlt] at n3
      have n0 := (heap_setCell_other wr ⟨w.heap.size + 1 + 1 + 1, k, none⟩ w.heap.size (.int .u64 (h k : Int)) (by simp only; omega)).trans hg0
      have n1 := (heap_setCell_other wr ⟨w.heap.size + 1 + 1 + 1, k, none⟩ (w.heap.size + 1) (.int .u64 (h k : Int)) (by simp only; omega)).trans hg1
      have n2 := (heap_setCell_other wr ⟨w.heap.size + 1 + 1 + 1, k, none⟩ (w.heap.size + 1 + 1) (.int .u64 (h k : Int)) (by simp only; omega)).trans hg2
      have hb' := (hb.setCell (p := ⟨w.heap.size + 1 + 1 + 1, k, none⟩) (by simp only; omega) (.int .u64 (h k : Int))).drew
      have k0 := (cell_of_row _ _ k _ _ _ n0).trans (unhide H0 k hlt)
      have k1 := (cell_of_row _ _ k _ _ _ n1).trans (unhide H1 k hlt)
      have N := hide (And.intro n0 (And.intro n1 (And.intro n2 (And.intro n3 hb'))))
      have C := hide (unhide H3 k)
      rw [unhide H2 k] at C
      clear n0 n1 n2 n3 hb' hg0 hg1 hg2 hg3 hb
      go_wp2
      go_region_held3 (fun w' => w'.cell? ⟨w.heap.size, k, none⟩ = some (.int .u64 (f k : Int)) ∧ w'.cell? ⟨w.heap.size + 1, k, none⟩ = some (.int .u64 (g k : Int))) (go_keep)
        (first
          | (go_at_call 84; refine (unhide C _).mono ?_; rintro e w1 ⟨rfl, rfl⟩))
      go_wp2
      go_roundw
      case rel => exact ⟨k + 1, by omega, by go_num, (unhide N).1, (unhide N).2.1, (unhide N).2.2.1, (unhide N).2.2.2.1, (unhide N).2.2.2.2⟩
      case measure => simp [intOf]; omega
    · obtain rfl : k = 4 := by omega
      rw [upTo_end] at hg3
      have hsz := wc_size h
      have hone := wc_one h
      have hzs : (wc (upTo 0 h)).size = (wc h).size := rfl
      have hi := size_set
      rw [← hsz] at hi
      generalize wc (upTo 0 h) = Z at *
      obtain ⟨D, hD⟩ : ∃ D, D = wc h := ⟨_, rfl⟩
      rw [← hD] at hg3 hsz hone hzs hi
      have HD := hide hD
      clear hD
      have G2 := hide (setRow_heap wr (w.heap.size + 1 + 1) Z D _ _ hg2)
      have B2 := hide (below_setRow hb (w.heap.size + 1 + 1) (by omega) D)
      have HI := hide hi
      clear hi hb hz
      go_wp2_with (first
        | (refine wpList_load_row rfl 29 _ rfl (w.heap.size + 1 + 1 + 1) rfl 29 D (0, 0) _ hg3 Tryd.underlying29 rfl (unhide HI) ?_)
        | (refine wpList_store_row rfl 29 _ _ rfl (w.heap.size + 1 + 1) D rfl rfl 29 Z hg2 (unhide HI) hzs hone ?_))
      (try simp only [Exit.inBlock, Exit.then])
      exact bodyPost_ret (results_cell_row rfl _ _ (w.heap.size + 1 + 1) 29 D (0, 0) _ rfl (unhide G2) Tryd.underlying29 rfl (unhide HI)) rfl ⟨by rw [unhide HD], unhide B2⟩

theorem wd_all (p : Nat → Bool) : ∀ k, wd p k < 18446744073709551616 := fun k => wd_lt p k

set_option maxHeartbeats 400000 in
theorem union_any (p q : Nat → Bool) (w : World) :
    Calls Tryd.prog 44 #[sv p, sv q] w fun e w' => e = .returned (sv (fun c => p c || q c)) ∧ Below w.heap.size w w' := by
  unfold sv
  rw [sc_wc, sc_wc, sc_wc]
  have C := hide (fun W => wordwise_or (wd p) (wd q) (wd (fun c => p c || q c)) W (wd_all p) (wd_all q) (fun k => wd_or p q k))
  have hF := wc_size (wd p)
  have hG := wc_size (wd q)
  have hH := wc_size (wd (fun c => p c || q c))
  have h1 := wc_one (wd (fun c => p c || q c))
  have hi := size_set
  have hiF := hi
  have hiG := hi
  rw [← hH] at hi
  rw [← hF] at hiF
  rw [← hG] at hiG
  generalize wc (wd p) = F at *
  generalize wc (wd q) = G at *
  generalize wc (wd (fun c => p c || q c)) = H at *
  have I0 := hide hi
  have I1 := hide hiF
  have I2 := hide hiG
  clear hi hiF hiG
  go_enter Tryd.func44, Tryd.ntmps44
  go_wp2_with (first
    | (refine wpList_load_row rfl 29 _ rfl w.heap.size rfl 29 F (0, 0) _ (at_old (by simp only [World.size_alloc]; omega) (at_old (by simp only [World.size_alloc]; omega) (at_new rfl))) Tryd.underlying29 rfl (unhide I1) ?_)
    | (refine wpList_load_row rfl 29 _ rfl (w.heap.size + 1) rfl 29 G (0, 0) _ (at_old (by simp only [World.size_alloc]; omega) (at_new (by simp only [World.size_alloc]))) Tryd.underlying29 rfl (unhide I2) ?_)
    | fail)
  refine (unhide C _).mono ?_
  rintro e w1 ⟨rfl, hb⟩
  have hz : w1.heap[w.heap.size + 1 + 1]? = some (.cells zerosS 29 (0, 0)) := (hb.block _ (by simp only [World.size_alloc]; omega)).trans (at_new (by simp only [World.size_alloc]))
  have hb1 := bnext ((((Below.refl w.heap.size w).alloc (Nat.le_refl _) _).alloc (by simp only [World.size_alloc]; omega) _).alloc (by simp only [World.size_alloc]; omega) _) hb
  clear hb
  go_wp2_with (first
    | (refine wpList_store_row rfl 29 _ _ rfl (w.heap.size + 1 + 1) H rfl rfl 29 zerosS hz (unhide I0) hH.symm h1 ?_))
  (try simp only [Exit.inBlock, Exit.then])
  exact bodyPost_ret (results_cell_row rfl _ _ (w.heap.size + 1 + 1) 29 H (0, 0) _ rfl (setRow_heap _ _ _ _ _ _ hz) Tryd.underlying29 rfl (unhide I0)) rfl ⟨rfl, below_setRow hb1 _ (by omega) _⟩

set_option maxHeartbeats 400000 in
theorem meet_any (p q : Nat → Bool) (w : World) :
    Calls Tryd.prog 81 #[sv p, sv q] w fun e w' => e = .returned (sv (fun c => p c && q c)) ∧ Below w.heap.size w w' := by
  unfold sv
  rw [sc_wc, sc_wc, sc_wc]
  have C := hide (fun W => wordwise_and (wd p) (wd q) (wd (fun c => p c && q c)) W (wd_all p) (wd_all q) (fun k => wd_and p q k))
  have hF := wc_size (wd p)
  have hG := wc_size (wd q)
  have hH := wc_size (wd (fun c => p c && q c))
  have h1 := wc_one (wd (fun c => p c && q c))
  have hi := size_set
  have hiF := hi
  have hiG := hi
  rw [← hH] at hi
  rw [← hF] at hiF
  rw [← hG] at hiG
  generalize wc (wd p) = F at *
  generalize wc (wd q) = G at *
  generalize wc (wd (fun c => p c && q c)) = H at *
  have I0 := hide hi
  have I1 := hide hiF
  have I2 := hide hiG
  clear hi hiF hiG
  go_enter Tryd.func81, Tryd.ntmps81
  go_wp2_with (first
    | (refine wpList_load_row rfl 29 _ rfl w.heap.size rfl 29 F (0, 0) _ (at_old (by simp only [World.size_alloc]; omega) (at_old (by simp only [World.size_alloc]; omega) (at_new rfl))) Tryd.underlying29 rfl (unhide I1) ?_)
    | (refine wpList_load_row rfl 29 _ rfl (w.heap.size + 1) rfl 29 G (0, 0) _ (at_old (by simp only [World.size_alloc]; omega) (at_new (by simp only [World.size_alloc]))) Tryd.underlying29 rfl (unhide I2) ?_)
    | fail)
  refine (unhide C _).mono ?_
  rintro e w1 ⟨rfl, hb⟩
  have hz : w1.heap[w.heap.size + 1 + 1]? = some (.cells zerosS 29 (0, 0)) := (hb.block _ (by simp only [World.size_alloc]; omega)).trans (at_new (by simp only [World.size_alloc]))
  have hb1 := bnext ((((Below.refl w.heap.size w).alloc (Nat.le_refl _) _).alloc (by simp only [World.size_alloc]; omega) _).alloc (by simp only [World.size_alloc]; omega) _) hb
  clear hb
  go_wp2_with (first
    | (refine wpList_store_row rfl 29 _ _ rfl (w.heap.size + 1 + 1) H rfl rfl 29 zerosS hz (unhide I0) hH.symm h1 ?_))
  (try simp only [Exit.inBlock, Exit.then])
  exact bodyPost_ret (results_cell_row rfl _ _ (w.heap.size + 1 + 1) 29 H (0, 0) _ rfl (setRow_heap _ _ _ _ _ _ hz) Tryd.underlying29 rfl (unhide I0)) rfl ⟨rfl, below_setRow hb1 _ (by omega) _⟩

end Go.Proofs.YtjfahpklemohgaaDoor

namespace Go.Proofs.YtjfahpklemohgaaDoor
open Go.RowKit

/-- The first k words of one, the others of another. -/
def mixTo (k : Nat) (f g : Nat → Nat) : Nat → Nat := fun i => if i < k then f i else g i
theorem mixTo_at (k : Nat) (f g : Nat → Nat) (h : k < 4) : (wc (mixTo k f g))[k]? = some (.int .u64 (g k : Int)) := by
  rw [wc_at _ _ h]
  unfold mixTo
  rw [if_neg (by omega)]
theorem mixTo_step (k : Nat) (f g : Nat → Nat) (h : k < 4) : (wc (mixTo k f g)).setIfInBounds k (.int .u64 (f k : Int)) = wc (mixTo (k + 1) f g) := by
  rw [wc_set _ _ _ h]
  apply wc_congr
  intro i _
  unfold mixTo
  by_cases e : i = k
  · subst e; simp
  · rw [if_neg e]
    by_cases h2 : i < k
    · rw [if_pos h2, if_pos (by omega)]
    · rw [if_neg h2, if_neg (by omega)]
theorem mixTo_end (f g : Nat → Nat) : wc (mixTo 4 f g) = wc f := wc_congr fun i hi => by unfold mixTo; rw [if_pos hi]
theorem mixTo_zero (f g : Nat → Nat) : wc (mixTo 0 f g) = wc g := wc_congr fun i hi => by unfold mixTo; rw [if_neg (by omega)]

set_option maxHeartbeats 1000000 in
theorem not_any (p : Nat → Bool) (w : World) :
    Calls Tryd.prog 20 #[sv p] w fun e w' => e = .returned (sv fun c => !p c) ∧ Below w.heap.size w w' := by
  unfold sv
  rw [sc_wc, sc_wc]
  have hg := wd_all p
  have hx : ∀ k, bits .xor .u64 (if IntKind.u64.signed = true then -1 else IntKind.u64.max) (wd p k : Int) = (wd (fun c => !p c) k : Int) := fun k => by
    have := bits_xor_u64_nat 18446744073709551615 (wd p k) (by omega) (wd_lt p k)
    rw [wd_not] at this
    exact this
  generalize wd (fun c => !p c) = f at *
  generalize wd p = g at *
  rw [← mixTo_zero f g]
  have H1 := hide hx
  clear hx
  go_enter Tryd.func20, Tryd.ntmps20
  go_wp2
  go_loopw [4] (fun i wr => ∃ k : Nat, k ≤ 4 ∧ i = .int .i64 k ∧ wr.heap[w.heap.size]? = some (.cells (wc (mixTo k f g)) 29 (0, 0)) ∧ wr.heap[w.heap.size + 1]? = some (.cells zerosS 29 (0, 0)) ∧ Below w.heap.size w wr) (fun i _ => 4 - (intOf i).toNat)
  case atStart => exact ⟨0, by omega, rfl, at_old (by simp only [World.size_alloc]; omega) (at_new rfl), at_new (by simp only [World.size_alloc]), ((Below.refl _ _).alloc (Nat.le_refl _) _).alloc (by simp only [World.size_alloc]; omega) _⟩
  case round =>
    obtain ⟨k, hk, rfl, hg0, hg1, hb⟩ := hrel
    by_cases hlt : k < 4
    · have h1 : (k : Int) < 4 := by omega
      have c0 : wr.cell? ⟨w.heap.size, k, none⟩ = some (.int .u64 (g k : Int)) := by rw [cell_of_row wr _ _ _ _ _ hg0, mixTo_at k f g hlt]
      have hfr := frozen_of_row wr w.heap.size k _ _ hg0
      have n0 := heap_setCell_same wr w.heap.size k _ _ (.int .u64 (f k : Int)) hg0
      rw [mixTo_step k f g hlt] at n0
      have n1 := (heap_setCell_other wr ⟨w.heap.size, k, none⟩ (w.heap.size + 1) (.int .u64 (f k : Int)) (by simp only; omega)).trans hg1
      have hb' := hb.setCell (p := ⟨w.heap.size, k, none⟩) (Nat.le_refl _) (.int .u64 (f k : Int))
      have N := hide (And.intro n0 (And.intro n1 hb'))
      clear n0 n1 hb' hg0 hg1 hb
      go_wp2
      rw [unhide H1 k]
      go_roundw
      case rel => exact ⟨k + 1, by omega, by go_num, (unhide N).1, (unhide N).2.1, (unhide N).2.2⟩
      case measure => simp [intOf]; omega
    · obtain rfl : k = 4 := by omega
      rw [mixTo_end] at hg0
      have hsz := wc_size f
      have hone := wc_one f
      have hi := size_set
      rw [← hsz] at hi
      obtain ⟨D, hD⟩ : ∃ D, D = wc f := ⟨_, rfl⟩
      rw [← hD] at hg0 hsz hone hi
      have HD := hide hD
      have G2 := hide (setRow_heap wr (w.heap.size + 1) zerosS D _ _ hg1)
      have B2 := hide (below_setRow hb (w.heap.size + 1) (by omega) D)
      have HI := hide hi
      clear hi hb hD
      go_wp2_with (first
        | (refine wpList_load_row rfl 29 _ rfl w.heap.size rfl 29 D (0, 0) _ hg0 Tryd.underlying29 rfl (unhide HI) ?_)
        | (refine wpList_store_row rfl 29 _ _ rfl (w.heap.size + 1) D rfl rfl 29 zerosS hg1 (unhide HI) hsz.symm hone ?_))
      (try simp only [Exit.inBlock, Exit.then])
      exact bodyPost_ret (results_cell_row rfl _ _ (w.heap.size + 1) 29 D (0, 0) _ rfl (unhide G2) Tryd.underlying29 rfl (unhide HI)) rfl ⟨by rw [unhide HD], unhide B2⟩
end Go.Proofs.YtjfahpklemohgaaDoor
