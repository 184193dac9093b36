/- What the document's Back does: the set of some bools. -/
import Derived.Test.YtgamnhmkimonnaaBytes3
namespace Go.Proofs.Ytgamnhmkimonnaa
open Go.RowKit

/-- The words when all bytes from m on have been put. -/
def bk (p : Nat → Bool) (m : Nat) : Nat → Nat := fun k => wd p k / 2 ^ (m - 64 * k)
theorem bk_start (p : Nat → Bool) : wc (bk p 256) = zerosS := by
  have h : ∀ k, k < 4 → bk p 256 k = 0 := fun k hk => by
    unfold bk
    apply Nat.div_eq_of_lt
    refine Nat.lt_of_lt_of_le (wd_lt p k) ?_
    show 2 ^ 64 ≤ _
    exact Nat.pow_le_pow_right (by omega) (by omega)
  unfold wc zerosS
  rw [h 0 (by omega), h 1 (by omega), h 2 (by omega), h 3 (by omega)]
  rfl
theorem bk_end (p : Nat → Bool) : wc (bk p 0) = sc p := by
  rw [sc_wc]
  apply wc_congr
  intro k _
  unfold bk
  rw [Nat.zero_sub]
  simp
theorem bk_lt (p : Nat → Bool) (m k : Nat) : bk p m k < 18446744073709551616 := Nat.lt_of_le_of_lt (Nat.div_le_self _ _) (wd_lt p k)
theorem bk_new (p : Nat → Bool) (b : Nat) : bk p b (b / 64) = bk p (b + 1) (b / 64) * 2 + (if p b then 1 else 0) := by
  unfold bk
  have e1 : b - 64 * (b / 64) = b % 64 := by omega
  have e2 : b + 1 - 64 * (b / 64) = b % 64 + 1 := by omega
  rw [e1, e2, Nat.pow_succ, ← Nat.div_div_eq_div_mul]
  have e := Nat.testBit_eq_decide_div_mod_eq (x := wd p (b / 64)) (i := b % 64)
  rw [wd_bit, show 64 * (b / 64) + b % 64 = b by omega, decide_eq_true (show b % 64 < 64 by omega), Bool.true_and] at e
  rw [e]
  generalize wd p (b / 64) / 2 ^ (b % 64) = y
  by_cases h : y % 2 = 1
  · rw [decide_eq_true h]
    show y = y / 2 * 2 + 1
    omega
  · rw [decide_eq_false h]
    show y = y / 2 * 2 + 0
    omega
theorem bk_other (p : Nat → Bool) (b k : Nat) (h : k ≠ b / 64) : bk p b k = bk p (b + 1) k := by
  unfold bk
  by_cases h1 : b / 64 < k
  · rw [show b - 64 * k = 0 by omega, show b + 1 - 64 * k = 0 by omega]
  · have hz : ∀ e, 64 ≤ e → wd p k / 2 ^ e = 0 := fun e he => by
      apply Nat.div_eq_of_lt
      refine Nat.lt_of_lt_of_le (wd_lt p k) ?_
      show 2 ^ 64 ≤ _
      exact Nat.pow_le_pow_right (by omega) he
    rw [hz _ (by omega), hz _ (by omega)]
theorem bk_step (p : Nat → Bool) (b v : Nat) (hb : b < 256) (hv : v = bk p b (b / 64)) : (wc (bk p (b + 1))).setIfInBounds (b / 64) (.int .u64 (v : Int)) = wc (bk p b) := by
  rw [wc_set _ _ _ (by omega)]
  apply wc_congr
  intro k _
  by_cases e : k = b / 64
  · rw [if_pos e, hv, e]
  · rw [if_neg e, bk_other p b k e]

set_option maxHeartbeats 1000000 in
theorem back_any (p : Nat → Bool) (w : World) :
    Calls Try.prog 29 #[.agg (bl p)] w fun e w' => e = .returned (sv p) ∧ Below w.heap.size w w' := by
  unfold sv
  have hls := bl_size p
  have H0 := hide (bl_at p)
  have HZ := hide (bk_start p)
  have HE := hide (bk_end p)
  generalize bl p = C at *
  go_enter Try.func29, Try.ntmps29
  go_wp2
  go_loopw [4] (fun i wr => ∃ m : Nat, m ≤ 256 ∧ i = .int .i64 ((m : Int) - 1) ∧ wr.heap[w.heap.size]? = some (.cells C 25 (0, 0)) ∧ wr.heap[w.heap.size + 1]? = some (.cells zerosS 24 (0, 0)) ∧ wr.heap[w.heap.size + 1 + 1]? = some (.cells (wc (bk p m)) 24 (0, 0)) ∧ Below w.heap.size w wr) (fun i _ => (intOf i + 1).toNat)
  case atStart => exact ⟨256, by omega, by go_num, at_old (by simp only [World.size_alloc]; omega) (at_old (by simp only [World.size_alloc]; omega) (at_new rfl)), at_old (by simp only [World.size_alloc]; omega) (at_new (by simp only [World.size_alloc])), by rw [unhide HZ]; exact at_new (by simp only [World.size_alloc]), (((Below.refl _ _).alloc (Nat.le_refl _) _).alloc (by simp only [World.size_alloc]; omega) _).alloc (by simp only [World.size_alloc]; omega) _⟩
  case round =>
    obtain ⟨m, hm, rfl, hg0, hg1, hg2, hb⟩ := hrel
    by_cases hm0 : m = 0
    · subst hm0
      rw [unhide HE] at hg2
      have hsz := sc_size p
      have hone := sc_one p
      have hi := size_set
      rw [← hsz] at hi
      obtain ⟨D, hD⟩ : ∃ D, D = sc p := ⟨_, rfl⟩
      rw [← hD] at hg2 hsz hone hi
      have HD := hide hD
      have G2 := hide (setRow_heap wr (w.heap.size + 1) zerosS D _ _ hg1)
      have B2 := hide (below_setRow hb (w.heap.size + 1) (by omega) D)
      have HI := hide hi
      clear hi hb hD
      go_wp2_with (first
        | (refine wpList_load_row rfl 24 _ rfl (w.heap.size + 1 + 1) rfl 24 D (0, 0) _ hg2 Try.underlying24 rfl (unhide HI) ?_)
        | (refine wpList_store_row rfl 24 _ _ rfl (w.heap.size + 1) D rfl rfl 24 zerosS hg1 (unhide HI) hsz.symm hone ?_))
      (try simp only [Exit.inBlock, Exit.then])
      exact bodyPost_ret (results_cell_row rfl _ _ (w.heap.size + 1) 24 D (0, 0) _ rfl (unhide G2) Try.underlying24 rfl (unhide HI)) rfl ⟨by rw [unhide HD], unhide B2⟩
    · obtain ⟨b, rfl⟩ : ∃ b, m = b + 1 := ⟨m - 1, by omega⟩
      have e1 : ((b + 1 : Nat) : Int) - 1 = (b : Int) := by omega
      rw [e1]
      have hlt : b < 256 := by omega
      have h1 : (b : Int) < 256 := by omega
      have hd : (b : Int) / 64 < 4 := by omega
      have hnew := bk_new p b
      have hl1 := bk_lt p b (b / 64)
      have hl2 := bk_lt p (b + 1) (b / 64)
      have cl0 : wr.cell? ⟨w.heap.size, b, none⟩ = some (.bool (p b)) := by rw [cell_of_row wr _ _ _ _ _ hg0, unhide H0 b hlt]
      have c2 : wr.cell? ⟨w.heap.size + 1 + 1, b / 64, none⟩ = some (.int .u64 (bk p (b + 1) (b / 64) : Int)) := by rw [cell_of_row wr _ _ _ _ _ hg2, wc_at _ _ (by omega)]
      have hfr := frozen_of_row wr (w.heap.size + 1 + 1) (b / 64) _ _ hg2
      have hw1 : IntKind.u64.wrap ((bk p (b + 1) (b / 64) : Int) * 2) = ((bk p (b + 1) (b / 64) * 2 : Nat) : Int) := by
        rw [IntKind.wrap_u64]
        omega
      cases hp : p b with
      | false =>
        rw [hp] at hnew cl0
        have HS := hide (bk_step p b (bk p (b + 1) (b / 64) * 2) hlt (by rw [hnew]; simp))
        have n2 := heap_setCell_same wr (w.heap.size + 1 + 1) (b / 64) _ _ (.int .u64 ((bk p (b + 1) (b / 64) * 2 : Nat) : Int)) hg2
        rw [unhide HS] at n2
        have n0 := (heap_setCell_other wr ⟨w.heap.size + 1 + 1, b / 64, none⟩ w.heap.size (.int .u64 ((bk p (b + 1) (b / 64) * 2 : Nat) : Int)) (by simp only; omega)).trans hg0
        have n1 := (heap_setCell_other wr ⟨w.heap.size + 1 + 1, b / 64, none⟩ (w.heap.size + 1) (.int .u64 ((bk p (b + 1) (b / 64) * 2 : Nat) : Int)) (by simp only; omega)).trans hg1
        have hb' := hb.setCell (p := ⟨w.heap.size + 1 + 1, b / 64, none⟩) (by simp only; omega) (.int .u64 ((bk p (b + 1) (b / 64) * 2 : Nat) : Int))
        have k0 := (cell_of_row _ _ b _ _ _ n0).trans ((unhide H0 b hlt).trans (by rw [hp]))
        have N := hide (And.intro n0 (And.intro n1 (And.intro n2 hb')))
        clear n0 n1 n2 hb' hg0 hg1 hg2 hb hnew e1
        generalize bk p (b + 1) (b / 64) = Y at *
        go_wp2
        have N2 := unhide N
        rw [show ((Y * 2 : Nat) : Int) = (Y : Int) * 2 by omega] at N2
        go_roundw
        case rel => exact ⟨b, by omega, rfl, N2.1, N2.2.1, N2.2.2.1, N2.2.2.2⟩
        case measure => simp [intOf]
      | true =>
        rw [hp] at hnew cl0
        have HS := hide (bk_step p b (bk p (b + 1) (b / 64) * 2 + 1) hlt (by rw [hnew]; simp))
        have hYl : bk p (b + 1) (b / 64) * 2 + 1 < 18446744073709551616 := by rw [hnew] at hl1; simpa using hl1
        generalize bk p (b + 1) (b / 64) = Y at *
        have n2 := heap_setCell_same wr (w.heap.size + 1 + 1) (b / 64) _ _ (.int .u64 ((Y : Int) * 2)) hg2
        have n0 := (heap_setCell_other wr ⟨w.heap.size + 1 + 1, b / 64, none⟩ w.heap.size (.int .u64 ((Y : Int) * 2)) (by simp only; omega)).trans hg0
        have n1 := (heap_setCell_other wr ⟨w.heap.size + 1 + 1, b / 64, none⟩ (w.heap.size + 1) (.int .u64 ((Y : Int) * 2)) (by simp only; omega)).trans hg1
        have hb' := hb.setCell (p := ⟨w.heap.size + 1 + 1, b / 64, none⟩) (by simp only; omega) (.int .u64 ((Y : Int) * 2))
        have k0 := (cell_of_row _ _ b _ _ _ n0).trans ((unhide H0 b hlt).trans (by rw [hp]))
        have m2 := heap_setCell_same _ (w.heap.size + 1 + 1) (b / 64) _ _ (.int .u64 ((Y : Int) * 2 + 1)) n2
        rw [Array.setIfInBounds_setIfInBounds, show (Y : Int) * 2 + 1 = ((Y * 2 + 1 : Nat) : Int) by omega, unhide HS, show ((Y * 2 + 1 : Nat) : Int) = (Y : Int) * 2 + 1 by omega] at m2
        have m0 := (heap_setCell_other _ ⟨w.heap.size + 1 + 1, b / 64, none⟩ w.heap.size (.int .u64 ((Y : Int) * 2 + 1)) (by simp only; omega)).trans n0
        have m1 := (heap_setCell_other _ ⟨w.heap.size + 1 + 1, b / 64, none⟩ (w.heap.size + 1) (.int .u64 ((Y : Int) * 2 + 1)) (by simp only; omega)).trans n1
        have hb2 := hb'.setCell (p := ⟨w.heap.size + 1 + 1, b / 64, none⟩) (by simp only; omega) (.int .u64 ((Y : Int) * 2 + 1))
        have N := hide (And.intro m0 (And.intro m1 (And.intro m2 hb2)))
        have hw2 : IntKind.u64.wrap ((Y : Int) * 2 + 1) = (Y : Int) * 2 + 1 := by rw [IntKind.wrap_u64]; omega
        have hw3 : IntKind.u64.wrap ((Y : Int) * 2) = (Y : Int) * 2 := by rw [IntKind.wrap_u64]; omega
        clear n0 n1 n2 m0 m1 m2 hb' hb2 hg0 hg1 hg2 hb hnew e1 hl1 hw1
        go_wp2
        go_roundw
        case rel => exact ⟨b, by omega, rfl, (unhide N).1, (unhide N).2.1, (unhide N).2.2.1, (unhide N).2.2.2⟩
        case measure => simp [intOf]
end Go.Proofs.Ytgamnhmkimonnaa
