/- What sets.Not does, for every set. -/
import Derived.Test.YtgamnhmkimonnaaWords
namespace Go.Proofs.Ytgamnhmkimonnaa
open Go.RowKit

/-- The first k words of one, the others of another. -/
def mixTo (k : Nat) (f g : Nat → Nat) : Nat → Nat := fun i => if i < k then f i else g i
theorem mixTo_at (k : Nat) (f g : Nat → Nat) (h : k < 4) : (wc (mixTo k f g))[k]? = some (.int .u64 (g k : Int)) := by
  rw [wc_at _ _ h]
  unfold mixTo
  rw [if_neg (by omega)]
theorem mixTo_step (k : Nat) (f g : Nat → Nat) (h : k < 4) : (wc (mixTo k f g)).setIfInBounds k (.int .u64 (f k : Int)) = wc (mixTo (k + 1) f g) := by
  rw [wc_set _ _ _ h]
  apply wc_congr
  intro i _
  unfold mixTo
  by_cases e : i = k
  · subst e; simp
  · rw [if_neg e]
    by_cases h2 : i < k
    · rw [if_pos h2, if_pos (by omega)]
    · rw [if_neg h2, if_neg (by omega)]
theorem mixTo_end (f g : Nat → Nat) : wc (mixTo 4 f g) = wc f := wc_congr fun i hi => by unfold mixTo; rw [if_pos hi]
theorem mixTo_zero (f g : Nat → Nat) : wc (mixTo 0 f g) = wc g := wc_congr fun i hi => by unfold mixTo; rw [if_neg (by omega)]

set_option maxHeartbeats 1000000 in
theorem not_any (p : Nat → Bool) (w : World) :
    Calls Try.prog 21 #[sv p] w fun e w' => e = .returned (sv fun c => !p c) ∧ Below w.heap.size w w' := by
  unfold sv
  rw [sc_wc, sc_wc]
  have hg := wd_all p
  have hx : ∀ k, bits .xor .u64 (if IntKind.u64.signed = true then -1 else IntKind.u64.max) (wd p k : Int) = (wd (fun c => !p c) k : Int) := fun k => by
    have := bits_xor_u64_nat 18446744073709551615 (wd p k) (by omega) (wd_lt p k)
    rw [wd_not] at this
    exact this
  generalize wd (fun c => !p c) = f at *
  generalize wd p = g at *
  rw [← mixTo_zero f g]
  have H1 := hide hx
  clear hx
  go_enter Try.func21, Try.ntmps21
  go_wp2
  go_loopw [4] (fun i wr => ∃ k : Nat, k ≤ 4 ∧ i = .int .i64 k ∧ wr.heap[w.heap.size]? = some (.cells (wc (mixTo k f g)) 24 (0, 0)) ∧ wr.heap[w.heap.size + 1]? = some (.cells zerosS 24 (0, 0)) ∧ Below w.heap.size w wr) (fun i _ => 4 - (intOf i).toNat)
  case atStart => exact ⟨0, by omega, rfl, at_old (by simp only [World.size_alloc]; omega) (at_new rfl), at_new (by simp only [World.size_alloc]), ((Below.refl _ _).alloc (Nat.le_refl _) _).alloc (by simp only [World.size_alloc]; omega) _⟩
  case round =>
    obtain ⟨k, hk, rfl, hg0, hg1, hb⟩ := hrel
    by_cases hlt : k < 4
    · have h1 : (k : Int) < 4 := by omega
      have c0 : wr.cell? ⟨w.heap.size, k, none⟩ = some (.int .u64 (g k : Int)) := by rw [cell_of_row wr _ _ _ _ _ hg0, mixTo_at k f g hlt]
      have hfr := frozen_of_row wr w.heap.size k _ _ hg0
      have n0 := heap_setCell_same wr w.heap.size k _ _ (.int .u64 (f k : Int)) hg0
      rw [mixTo_step k f g hlt] at n0
      have n1 := (heap_setCell_other wr ⟨w.heap.size, k, none⟩ (w.heap.size + 1) (.int .u64 (f k : Int)) (by simp only; omega)).trans hg1
      have hb' := hb.setCell (p := ⟨w.heap.size, k, none⟩) (Nat.le_refl _) (.int .u64 (f k : Int))
      have N := hide (And.intro n0 (And.intro n1 hb'))
      clear n0 n1 hb' hg0 hg1 hb
      go_wp2
      rw [unhide H1 k]
      go_roundw
      case rel => exact ⟨k + 1, by omega, by go_num, (unhide N).1, (unhide N).2.1, (unhide N).2.2⟩
      case measure => simp [intOf]; omega
    · obtain rfl : k = 4 := by omega
      rw [mixTo_end] at hg0
      have hsz := wc_size f
      have hone := wc_one f
      have hi := size_set
      rw [← hsz] at hi
      obtain ⟨D, hD⟩ : ∃ D, D = wc f := ⟨_, rfl⟩
      rw [← hD] at hg0 hsz hone hi
      have HD := hide hD
      have G2 := hide (setRow_heap wr (w.heap.size + 1) zerosS D _ _ hg1)
      have B2 := hide (below_setRow hb (w.heap.size + 1) (by omega) D)
      have HI := hide hi
      clear hi hb hD
      go_wp2_with (first
        | (refine wpList_load_row rfl 24 _ rfl w.heap.size rfl 24 D (0, 0) _ hg0 Try.underlying24 rfl (unhide HI) ?_)
        | (refine wpList_store_row rfl 24 _ _ rfl (w.heap.size + 1) D rfl rfl 24 zerosS hg1 (unhide HI) hsz.symm hone ?_))
      (try simp only [Exit.inBlock, Exit.then])
      exact bodyPost_ret (results_cell_row rfl _ _ (w.heap.size + 1) 24 D (0, 0) _ rfl (unhide G2) Try.underlying24 rfl (unhide HI)) rfl ⟨by rw [unhide HD], unhide B2⟩
end Go.Proofs.Ytgamnhmkimonnaa
