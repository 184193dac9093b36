/- What sets.Text does: a set's bytes, rising. What sets.Union, Meet, Less and Not do, for every sets. -/
import Derived.Test.YtbmngbpillihaaaDoorScanSimM
import Derived.Deep.RegionHeld3
namespace Go.Proofs.YtbmngbpillihaaaDoor
open Go.RowKit

set_option maxHeartbeats 1000000 in
theorem text_any (p : Nat → Bool) (w : World) :
    Calls Tryd.prog 44 #[sv p] w fun e w' => e = .returned (.string ⟨(tx p 256).toArray⟩) ∧ Below w.heap.size w w' := by
  obtain ⟨i0, hi, hz0, hz1, hz2⟩ := info_parts info_byte
  unfold sv
  have hcs := sc_size p
  have H1 := hide (fun k hk W => has_any p k hk W)
  unfold sv at H1
  have hi4 := size_set
  rw [← hcs] at hi4
  generalize sc p = C at *
  have HI := hide hi4
  clear hi4
  go_enter Tryd.func44, Tryd.ntmps44
  go_wp2
  go_loopw [3, 5] (fun v i wr => ∃ k : Nat, k ≤ 256 ∧ i = .int .i64 k ∧ wr.ownsRow (w.heap.size + 1) 5 1 v (tx p k).length ((tx p k).map bc) ∧ wr.heap[w.heap.size]? = some (.cells C 33 (0, 0)) ∧ Below w.heap.size w wr ∧ w.heap.size + 1 ≤ wr.heap.size) (fun _ i _ => 256 - (intOf i).toNat)
  case atStart => exact ⟨0, by omega, rfl, World.ownsRow_nil _ _ _ _, at_new rfl, (Below.refl _ _).alloc (Nat.le_refl _) _, by simp only [World.size_alloc]; omega⟩
  case round =>
    obtain ⟨k, hk, rfl, ho, hg, hb, hsz⟩ := hrel
    by_cases hlt : k < 256
    · have h1 : (k : Int) < 256 := by omega
      have C1 := hide (unhide H1 k hlt)
      have hle := tx_le p k
      cases hp : p k with
      | true =>
        have HT := hide (tx_yes p k hlt hp)
        rw [hp] at C1
        generalize (tx p k).length = n at *
        generalize (tx p k).map bc = xs at *
        go_wp2_with (first
          | (refine wpList_load_row rfl 33 _ rfl w.heap.size rfl 33 C (0, 0) _ hg Tryd.underlying33 rfl (unhide HI) ?_)
          | (go_at_call 74; refine (unhide C1 _).mono ?_; rintro e w1 ⟨rfl, hb1⟩)
          | (at_builtin; refine wpList_append_own _ rfl _ _ 97 rfl (w.heap.size + 1) 5 i0 (.int .u8 0) 1 1 Tryd.underlying97 hi hz0 hz1 hz2 rfl (by decide) _ _ _ rfl ((own_below ho hb1).alloc _) ⟨w1.heap.size, 0, none⟩ 1 1 [.int .u8 (k : Int)] rfl rfl (cell_one_new _ _ _) (by intro u hu; simp at hu; subst hu; rfl) (by unfold maxLen; omega) (by omega) (by have := hb1.size; simp; omega) ?_; intro v' w2 hown' hgrow _))
        have ho1 := (own_below ho hb1).alloc (.cells #[.int .u8 (k : Int)] 5)
        have hb2 := ((bnext hb hb1).alloc (by have := hb1.size; have := hb.size; omega) (.cells #[.int .u8 (k : Int)] 5)).grown hgrow (by simp; have := hb1.size; omega) (fun g hg => by have := ho1.lt g hg; omega)
        have hs2 : w.heap.size + 1 ≤ w2.heap.size := by have := hgrow.size; have := hb1.size; simp at *; omega
        have hg2 : w2.heap[w.heap.size]? = some (.cells C 33 (0, 0)) := (hgrow.block w.heap.size (by simp only [World.size_alloc]; have := hb1.size; omega) (fun e => by have := ho1.lt _ e.symm; omega)).trans (at_old (by have := hb1.size; omega) (row_below hg hb1))
        go_roundw
        case rel => exact ⟨k + 1, by omega, by go_num, by rw [(unhide HT).1, (unhide HT).2]; exact hown', hg2, hb2, hs2⟩
        case measure => simp [intOf]; omega
      | false =>
        have HT := hide (tx_no p k hp)
        rw [hp] at C1
        go_wp2_with (first
          | (refine wpList_load_row rfl 33 _ rfl w.heap.size rfl 33 C (0, 0) _ hg Tryd.underlying33 rfl (unhide HI) ?_)
          | (go_at_call 74; refine (unhide C1 _).mono ?_; rintro e w1 ⟨rfl, hb1⟩))
        go_roundw
        case rel => exact ⟨k + 1, by omega, by go_num, by rw [unhide HT]; exact own_below ho hb1, row_below hg hb1, bnext hb hb1, by have := hb1.size; omega⟩
        case measure => simp [intOf]; omega
    · obtain rfl : k = 256 := by omega
      obtain ⟨l, hl⟩ : ∃ l, l = tx p 256 := ⟨_, rfl⟩
      rw [← hl] at ho
      have hcv := out_string _ _ _ _ ho
      have HL := hide hl
      have HB := hide hb
      clear ho hg hb hl
      go_wp2
      go_ret
      exact ⟨by rw [← unhide HL]; rfl, unhide HB⟩
end Go.Proofs.YtbmngbpillihaaaDoor

namespace Go.Proofs.YtbmngbpillihaaaDoor
open Go.RowKit

theorem wd_or (p q : Nat → Bool) (k : Nat) : wd p k ||| wd q k = wd (fun c => p c || q c) k := by
  apply Nat.eq_of_testBit_eq
  intro i
  rw [Nat.testBit_or, wd_bit, wd_bit, wd_bit]
  cases decide (i < 64) <;> simp
theorem wd_and (p q : Nat → Bool) (k : Nat) : wd p k &&& wd q k = wd (fun c => p c && q c) k := by
  apply Nat.eq_of_testBit_eq
  intro i
  rw [Nat.testBit_and, wd_bit, wd_bit, wd_bit]
  cases decide (i < 64) <;> simp
set_option maxHeartbeats 400000 in

theorem or_word (x y : Nat) (w : World) (hx : x < 18446744073709551616) (hy : y < 18446744073709551616) :
    Calls Tryd.prog 107 #[.int .u64 (x : Int), .int .u64 (y : Int)] w fun e w' => e = .returned (.int .u64 ((x ||| y : Nat) : Int)) ∧ w' = w := by
  rw [← bits_or_u64_nat x y hx hy]
  go_enter Tryd.func107, Tryd.ntmps107
  go_wp2
  go_ret
  exact ⟨rfl, rfl⟩
set_option maxHeartbeats 400000 in

theorem and_word (x y : Nat) (w : World) (hx : x < 18446744073709551616) (hy : y < 18446744073709551616) :
    Calls Tryd.prog 117 #[.int .u64 (x : Int), .int .u64 (y : Int)] w fun e w' => e = .returned (.int .u64 ((x &&& y : Nat) : Int)) ∧ w' = w := by
  rw [← bits_and_u64_nat x y hx hy]
  go_enter Tryd.func117, Tryd.ntmps117
  go_wp2
  go_ret
  exact ⟨rfl, rfl⟩
set_option maxHeartbeats 400000 in

set_option maxHeartbeats 1000000 in
theorem wordwise_or (f g h : Nat → Nat) (w : World) (hf : ∀ k, f k < 18446744073709551616) (hg : ∀ k, g k < 18446744073709551616) (hh : ∀ k, f k ||| g k = h k) :
    Calls Tryd.prog 106 #[.agg (wc f), .agg (wc g), .func (.func 107) #[] #[]] w fun e w' => e = .returned (.agg (wc h)) ∧ Below w.heap.size w w' := by
  have hz : (#[.int .u64 0, .int .u64 0, .int .u64 0, .int .u64 0] : Array Value) = wc (upTo 0 h) := rfl
  have hFs := wc_size f
  have hGs := wc_size g
  have hFa := wc_at f
  have hGa := wc_at g
  generalize wc f = F at *
  generalize wc g = G at *
  have H0 := hide hFa
  have H1 := hide hGa
  have H2 := hide hh
  have H3 := hide (fun k w => or_word (f k) (g k) w (hf k) (hg k))
  clear hFa hGa hh hf hg
  go_enter Tryd.func106, Tryd.ntmps106
  go_wp2
  go_loopw [9] (fun i wr => ∃ k : Nat, k ≤ 4 ∧ i = .int .i64 k ∧ wr.heap[w.heap.size]? = some (.cells F 33 (0, 0)) ∧ wr.heap[w.heap.size + 1]? = some (.cells G 33 (0, 0)) ∧ wr.heap[w.heap.size + 1 + 1]? = some (.cells (wc (upTo 0 h)) 33 (0, 0)) ∧ wr.heap[w.heap.size + 1 + 1 + 1]? = some (.cells (wc (upTo k h)) 33 (0, 0)) ∧ Below w.heap.size w wr) (fun i _ => 4 - (intOf i).toNat)
  case atStart => exact ⟨0, by omega, rfl, at_old (by simp only [World.size_alloc]; omega) (at_old (by simp only [World.size_alloc]; omega) (at_old (by simp only [World.size_alloc]; omega) (at_new rfl))), at_old (by simp only [World.size_alloc]; omega) (at_old (by simp only [World.size_alloc]; omega) (at_new (by simp only [World.size_alloc]))), at_old (by simp only [World.size_alloc]; omega) (at_new (by simp only [World.size_alloc])), at_new (by simp only [World.size_alloc]), ((((Below.refl _ _).alloc (Nat.le_refl _) _).alloc (by simp) _).alloc (by simp only [World.size_alloc]; omega) _).alloc (by simp only [World.size_alloc]; omega) _⟩
  case round =>
    obtain ⟨k, hk, rfl, hg0, hg1, hg2, hg3, hb⟩ := hrel
    by_cases hlt : k < 4
    · have h1 : (k : Int) < 4 := by omega
      have h0 : (0 : Int) ≤ (k : Int) := by omega
      have c0 : wr.cell? ⟨w.heap.size, k, none⟩ = some (.int .u64 (f k : Int)) := by rw [cell_of_row wr _ _ _ _ _ hg0, unhide H0 k hlt]
      have c1 : wr.cell? ⟨w.heap.size + 1, k, none⟩ = some (.int .u64 (g k : Int)) := by rw [cell_of_row wr _ _ _ _ _ hg1, unhide H1 k hlt]
      have c3 : wr.cell? ⟨w.heap.size + 1 + 1 + 1, k, none⟩ = some (.int .u64 (upTo k h k : Int)) := by rw [cell_of_row wr _ _ _ _ _ hg3, wc_at _ _ hlt]
      have hfr := frozen_of_row wr (w.heap.size + 1 + 1 + 1) k _ _ hg3
      have n3 := heap_setCell_same wr (w.heap.size + 1 + 1 + 1) k _ _ (.int .u64 (h k : Int)) hg3
      rw [upTo_step k h hlt] at n3
      have n0 := (heap_setCell_other wr ⟨w.heap.size + 1 + 1 + 1, k, none⟩ w.heap.size (.int .u64 (h k : Int)) (by simp only; omega)).trans hg0
      have n1 := (heap_setCell_other wr ⟨w.heap.size + 1 + 1 + 1, k, none⟩ (w.heap.size + 1) (.int .u64 (h k : Int)) (by simp only; omega)).trans hg1
      have n2 := (heap_setCell_other wr ⟨w.heap.size + 1 + 1 + 1, k, none⟩ (w.heap.size + 1 + 1) (.int .u64 (h k : Int)) (by simp only; omega)).trans hg2
      have hb' := (hb.setCell (p := ⟨w.heap.size + 1 + 1 + 1, k, none⟩) (by simp only; omega) (.int .u64 (h k : Int))).drew
      have k0 := (cell_of_row _ _ k _ _ _ n0).trans (unhide H0 k hlt)
      have k1 := (cell_of_row _ _ k _ _ _ n1).trans (unhide H1 k hlt)
      have N := hide (And.intro n0 (And.intro n1 (And.intro n2 (And.intro n3 hb'))))
      have C := hide (unhide H3 k)
      rw [unhide H2 k] at C
      clear n0 n1 n2 n3 hb' hg0 hg1 hg2 hg3 hb
      go_wp2
      go_region_held3 (fun w' => w'.cell? ⟨w.heap.size, k, none⟩ = some (.int .u64 (f k : Int)) ∧ w'.cell? ⟨w.heap.size + 1, k, none⟩ = some (.int .u64 (g k : Int))) (go_keep)
        (first
          | (go_at_call 107; refine (unhide C _).mono ?_; rintro e w1 ⟨rfl, rfl⟩))
      go_wp2
      go_roundw
      case rel => exact ⟨k + 1, by omega, by go_num, (unhide N).1, (unhide N).2.1, (unhide N).2.2.1, (unhide N).2.2.2.1, (unhide N).2.2.2.2⟩
      case measure => simp [intOf]; omega
    · obtain rfl : k = 4 := by omega
      rw [upTo_end] at hg3
      have hsz := wc_size h
      have hone := wc_one h
      have hzs : (wc (upTo 0 h)).size = (wc h).size := rfl
      have hi := size_set
      rw [← hsz] at hi
      generalize wc (upTo 0 h) = Z at *
      obtain ⟨D, hD⟩ : ∃ D, D = wc h := ⟨_, rfl⟩
      rw [← hD] at hg3 hsz hone hzs hi
      have HD := hide hD
      clear hD
      have G2 := hide (setRow_heap wr (w.heap.size + 1 + 1) Z D _ _ hg2)
      have B2 := hide (below_setRow hb (w.heap.size + 1 + 1) (by omega) D)
      have HI := hide hi
      clear hi hb hz
      go_wp2_with (first
        | (refine wpList_load_row rfl 33 _ rfl (w.heap.size + 1 + 1 + 1) rfl 33 D (0, 0) _ hg3 Tryd.underlying33 rfl (unhide HI) ?_)
        | (refine wpList_store_row rfl 33 _ _ rfl (w.heap.size + 1 + 1) D rfl rfl 33 Z hg2 (unhide HI) hzs hone ?_))
      (try simp only [Exit.inBlock, Exit.then])
      exact bodyPost_ret (results_cell_row rfl _ _ (w.heap.size + 1 + 1) 33 D (0, 0) _ rfl (unhide G2) Tryd.underlying33 rfl (unhide HI)) rfl ⟨by rw [unhide HD], unhide B2⟩
set_option maxHeartbeats 1000000 in
theorem wordwise_and (f g h : Nat → Nat) (w : World) (hf : ∀ k, f k < 18446744073709551616) (hg : ∀ k, g k < 18446744073709551616) (hh : ∀ k, f k &&& g k = h k) :
    Calls Tryd.prog 106 #[.agg (wc f), .agg (wc g), .func (.func 117) #[] #[]] w fun e w' => e = .returned (.agg (wc h)) ∧ Below w.heap.size w w' := by
  have hz : (#[.int .u64 0, .int .u64 0, .int .u64 0, .int .u64 0] : Array Value) = wc (upTo 0 h) := rfl
  have hFs := wc_size f
  have hGs := wc_size g
  have hFa := wc_at f
  have hGa := wc_at g
  generalize wc f = F at *
  generalize wc g = G at *
  have H0 := hide hFa
  have H1 := hide hGa
  have H2 := hide hh
  have H3 := hide (fun k w => and_word (f k) (g k) w (hf k) (hg k))
  clear hFa hGa hh hf hg
  go_enter Tryd.func106, Tryd.ntmps106
  go_wp2
  go_loopw [9] (fun i wr => ∃ k : Nat, k ≤ 4 ∧ i = .int .i64 k ∧ wr.heap[w.heap.size]? = some (.cells F 33 (0, 0)) ∧ wr.heap[w.heap.size + 1]? = some (.cells G 33 (0, 0)) ∧ wr.heap[w.heap.size + 1 + 1]? = some (.cells (wc (upTo 0 h)) 33 (0, 0)) ∧ wr.heap[w.heap.size + 1 + 1 + 1]? = some (.cells (wc (upTo k h)) 33 (0, 0)) ∧ Below w.heap.size w wr) (fun i _ => 4 - (intOf i).toNat)
  case atStart => exact ⟨0, by omega, rfl, at_old (by simp only [World.size_alloc]; omega) (at_old (by simp only [World.size_alloc]; omega) (at_old (by simp only [World.size_alloc]; omega) (at_new rfl))), at_old (by simp only [World.size_alloc]; omega) (at_old (by simp only [World.size_alloc]; omega) (at_new (by simp only [World.size_alloc]))), at_old (by simp only [World.size_alloc]; omega) (at_new (by simp only [World.size_alloc])), at_new (by simp only [World.size_alloc]), ((((Below.refl _ _).alloc (Nat.le_refl _) _).alloc (by simp) _).alloc (by simp only [World.size_alloc]; omega) _).alloc (by simp only [World.size_alloc]; omega) _⟩
  case round =>
    obtain ⟨k, hk, rfl, hg0, hg1, hg2, hg3, hb⟩ := hrel
    by_cases hlt : k < 4
    · have h1 : (k : Int) < 4 := by omega
      have h0 : (0 : Int) ≤ (k : Int) := by omega
      have c0 : wr.cell? ⟨w.heap.size, k, none⟩ = some (.int .u64 (f k : Int)) := by rw [cell_of_row wr _ _ _ _ _ hg0, unhide H0 k hlt]
      have c1 : wr.cell? ⟨w.heap.size + 1, k, none⟩ = some (.int .u64 (g k : Int)) := by rw [cell_of_row wr _ _ _ _ _ hg1, unhide H1 k hlt]
      have c3 : wr.cell? ⟨w.heap.size + 1 + 1 + 1, k, none⟩ = some (.int .u64 (upTo k h k : Int)) := by rw [cell_of_row wr _ _ _ _ _ hg3, wc_at _ _ hlt]
      have hfr := frozen_of_row wr (w.heap.size + 1 + 1 + 1) k _ _ hg3
      have n3 := heap_setCell_same wr (w.heap.size + 1 + 1 + 1) k _ _ (.int .u64 (h k : Int)) hg3
      rw [upTo_step k h hlt] at n3
      have n0 := (heap_setCell_other wr ⟨w.heap.size + 1 + 1 + 1, k, none⟩ w.heap.size (.int .u64 (h k : Int)) (by simp only; omega)).trans hg0
      have n1 := (heap_setCell_other wr ⟨w.heap.size + 1 + 1 + 1, k, none⟩ (w.heap.size + 1) (.int .u64 (h k : Int)) (by simp only; omega)).trans hg1
      have n2 := (heap_setCell_other wr ⟨w.heap.size + 1 + 1 + 1, k, none⟩ (w.heap.size + 1 + 1) (.int .u64 (h k : Int)) (by simp only; omega)).trans hg2
      have hb' := (hb.setCell (p := ⟨w.heap.size + 1 + 1 + 1, k, none⟩) (by simp only; omega) (.int .u64 (h k : Int))).drew
      have k0 := (cell_of_row _ _ k _ _ _ n0).trans (unhide H0 k hlt)
      have k1 := (cell_of_row _ _ k _ _ _ n1).trans (unhide H1 k hlt)
      have N := hide (And.intro n0 (And.intro n1 (And.intro n2 (And.intro n3 hb'))))
      have C := hide (unhide H3 k)
      rw [unhide H2 k] at C
      clear n0 n1 n2 n3 hb' hg0 hg1 hg2 hg3 hb
      go_wp2
      go_region_held3 (fun w' => w'.cell? ⟨w.heap.size, k, none⟩ = some (.int .u64 (f k : Int)) ∧ w'.cell? ⟨w.heap.size + 1, k, none⟩ = some (.int .u64 (g k : Int))) (go_keep)
        (first
          | (go_at_call 117; refine (unhide C _).mono ?_; rintro e w1 ⟨rfl, rfl⟩))
      go_wp2
      go_roundw
      case rel => exact ⟨k + 1, by omega, by go_num, (unhide N).1, (unhide N).2.1, (unhide N).2.2.1, (unhide N).2.2.2.1, (unhide N).2.2.2.2⟩
      case measure => simp [intOf]; omega
    · obtain rfl : k = 4 := by omega
      rw [upTo_end] at hg3
      have hsz := wc_size h
      have hone := wc_one h
      have hzs : (wc (upTo 0 h)).size = (wc h).size := rfl
      have hi := size_set
      rw [← hsz] at hi
      generalize wc (upTo 0 h) = Z at *
      obtain ⟨D, hD⟩ : ∃ D, D = wc h := ⟨_, rfl⟩
      rw [← hD] at hg3 hsz hone hzs hi
      have HD := hide hD
      clear hD
      have G2 := hide (setRow_heap wr (w.heap.size + 1 + 1) Z D _ _ hg2)
      have B2 := hide (below_setRow hb (w.heap.size + 1 + 1) (by omega) D)
      have HI := hide hi
      clear hi hb hz
      go_wp2_with (first
        | (refine wpList_load_row rfl 33 _ rfl (w.heap.size + 1 + 1 + 1) rfl 33 D (0, 0) _ hg3 Tryd.underlying33 rfl (unhide HI) ?_)
        | (refine wpList_store_row rfl 33 _ _ rfl (w.heap.size + 1 + 1) D rfl rfl 33 Z hg2 (unhide HI) hzs hone ?_))
      (try simp only [Exit.inBlock, Exit.then])
      exact bodyPost_ret (results_cell_row rfl _ _ (w.heap.size + 1 + 1) 33 D (0, 0) _ rfl (unhide G2) Tryd.underlying33 rfl (unhide HI)) rfl ⟨by rw [unhide HD], unhide B2⟩
theorem wd_all (p : Nat → Bool) : ∀ k, wd p k < 18446744073709551616 := fun k => wd_lt p k
set_option maxHeartbeats 400000 in
theorem union_any (p q : Nat → Bool) (w : World) :
    Calls Tryd.prog 89 #[sv p, sv q] w fun e w' => e = .returned (sv (fun c => p c || q c)) ∧ Below w.heap.size w w' := by
  unfold sv
  rw [sc_wc, sc_wc, sc_wc]
  have C := hide (fun W => wordwise_or (wd p) (wd q) (wd (fun c => p c || q c)) W (wd_all p) (wd_all q) (fun k => wd_or p q k))
  have hF := wc_size (wd p)
  have hG := wc_size (wd q)
  have hH := wc_size (wd (fun c => p c || q c))
  have h1 := wc_one (wd (fun c => p c || q c))
  have hi := size_set
  have hiF := hi
  have hiG := hi
  rw [← hH] at hi
  rw [← hF] at hiF
  rw [← hG] at hiG
  generalize wc (wd p) = F at *
  generalize wc (wd q) = G at *
  generalize wc (wd (fun c => p c || q c)) = H at *
  have I0 := hide hi
  have I1 := hide hiF
  have I2 := hide hiG
  clear hi hiF hiG
  go_enter Tryd.func89, Tryd.ntmps89
  go_wp2_with (first
    | (refine wpList_load_row rfl 33 _ rfl w.heap.size rfl 33 F (0, 0) _ (at_old (by simp only [World.size_alloc]; omega) (at_old (by simp only [World.size_alloc]; omega) (at_new rfl))) Tryd.underlying33 rfl (unhide I1) ?_)
    | (refine wpList_load_row rfl 33 _ rfl (w.heap.size + 1) rfl 33 G (0, 0) _ (at_old (by simp only [World.size_alloc]; omega) (at_new (by simp only [World.size_alloc]))) Tryd.underlying33 rfl (unhide I2) ?_)
    | fail)
  refine (unhide C _).mono ?_
  rintro e w1 ⟨rfl, hb⟩
  have hz : w1.heap[w.heap.size + 1 + 1]? = some (.cells zerosS 33 (0, 0)) := (hb.block _ (by simp only [World.size_alloc]; omega)).trans (at_new (by simp only [World.size_alloc]))
  have hb1 := bnext ((((Below.refl w.heap.size w).alloc (Nat.le_refl _) _).alloc (by simp only [World.size_alloc]; omega) _).alloc (by simp only [World.size_alloc]; omega) _) hb
  clear hb
  go_wp2_with (first
    | (refine wpList_store_row rfl 33 _ _ rfl (w.heap.size + 1 + 1) H rfl rfl 33 zerosS hz (unhide I0) hH.symm h1 ?_))
  (try simp only [Exit.inBlock, Exit.then])
  exact bodyPost_ret (results_cell_row rfl _ _ (w.heap.size + 1 + 1) 33 H (0, 0) _ rfl (setRow_heap _ _ _ _ _ _ hz) Tryd.underlying33 rfl (unhide I0)) rfl ⟨rfl, below_setRow hb1 _ (by omega) _⟩
set_option maxHeartbeats 400000 in
theorem meet_any (p q : Nat → Bool) (w : World) :
    Calls Tryd.prog 104 #[sv p, sv q] w fun e w' => e = .returned (sv (fun c => p c && q c)) ∧ Below w.heap.size w w' := by
  unfold sv
  rw [sc_wc, sc_wc, sc_wc]
  have C := hide (fun W => wordwise_and (wd p) (wd q) (wd (fun c => p c && q c)) W (wd_all p) (wd_all q) (fun k => wd_and p q k))
  have hF := wc_size (wd p)
  have hG := wc_size (wd q)
  have hH := wc_size (wd (fun c => p c && q c))
  have h1 := wc_one (wd (fun c => p c && q c))
  have hi := size_set
  have hiF := hi
  have hiG := hi
  rw [← hH] at hi
  rw [← hF] at hiF
  rw [← hG] at hiG
  generalize wc (wd p) = F at *
  generalize wc (wd q) = G at *
  generalize wc (wd (fun c => p c && q c)) = H at *
  have I0 := hide hi
  have I1 := hide hiF
  have I2 := hide hiG
  clear hi hiF hiG
  go_enter Tryd.func104, Tryd.ntmps104
  go_wp2_with (first
    | (refine wpList_load_row rfl 33 _ rfl w.heap.size rfl 33 F (0, 0) _ (at_old (by simp only [World.size_alloc]; omega) (at_old (by simp only [World.size_alloc]; omega) (at_new rfl))) Tryd.underlying33 rfl (unhide I1) ?_)
    | (refine wpList_load_row rfl 33 _ rfl (w.heap.size + 1) rfl 33 G (0, 0) _ (at_old (by simp only [World.size_alloc]; omega) (at_new (by simp only [World.size_alloc]))) Tryd.underlying33 rfl (unhide I2) ?_)
    | fail)
  refine (unhide C _).mono ?_
  rintro e w1 ⟨rfl, hb⟩
  have hz : w1.heap[w.heap.size + 1 + 1]? = some (.cells zerosS 33 (0, 0)) := (hb.block _ (by simp only [World.size_alloc]; omega)).trans (at_new (by simp only [World.size_alloc]))
  have hb1 := bnext ((((Below.refl w.heap.size w).alloc (Nat.le_refl _) _).alloc (by simp only [World.size_alloc]; omega) _).alloc (by simp only [World.size_alloc]; omega) _) hb
  clear hb
  go_wp2_with (first
    | (refine wpList_store_row rfl 33 _ _ rfl (w.heap.size + 1 + 1) H rfl rfl 33 zerosS hz (unhide I0) hH.symm h1 ?_))
  (try simp only [Exit.inBlock, Exit.then])
  exact bodyPost_ret (results_cell_row rfl _ _ (w.heap.size + 1 + 1) 33 H (0, 0) _ rfl (setRow_heap _ _ _ _ _ _ hz) Tryd.underlying33 rfl (unhide I0)) rfl ⟨rfl, below_setRow hb1 _ (by omega) _⟩
end Go.Proofs.YtbmngbpillihaaaDoor
