/- What the document's Of does. -/
import Derived.Test.YtgamnhmkimonnaaBack3
import Derived.Test.YtgamnhmkimonnaaOf
namespace Go.Proofs.Ytgamnhmkimonnaa
open Go.RowKit

theorem inT_step (t : ByteArray) (k : Nat) (h : k < t.size) : (bl (inT t k)).setIfInBounds (t[k]).toNat (.bool true) = bl (inT t (k + 1)) := by
  rw [bl_set]
  apply bl_congr
  intro c _
  show _ = (inT t k c || c == (t.data.toList.getD k 0).toNat)
  rw [← getD_at t k h]
  by_cases e : c = (t[k]).toNat
  · rw [if_pos e, e]; simp
  · have : (c == (t[k]).toNat) = false := by rw [beq_eq_false_iff_ne]; exact e
    rw [if_neg e, this, Bool.or_false]

set_option maxHeartbeats 1000000 in
theorem refOf_any (t : ByteArray) (w : World) (ht : t.size ≤ maxLen) :
    Calls Try.prog 9 #[.string t] w fun e w' => e = .returned (sv (inT t t.size)) ∧ Below w.heap.size w w' := by
  unfold maxLen at ht
  have hz : ∀ w, (zeroValue 25).run Try.prog w = .ok (.agg zerosB) w := (zero_of_info info_bools).1
  have hcv := fun W => run_bytes_of_string (P := Try.prog) W 9 45 5 t Try.underlying9 Try.underlying45 Try.underlying5
  have HZ := hide (show zerosB = bl (inT t 0) by rw [zerosB_eq]; rfl)
  have C := hide (fun W => back_any (inT t t.size) W)
  unfold sv at C
  go_enter Try.func9, Try.ntmps9
  go_wp2
  generalize grownCap ((w.alloc (.cells #[.int .u64 0, .int .u64 0, .int .u64 0, .int .u64 0] 24)).alloc (.cells zerosB 25)) t.size 0 5 = G
  obtain ⟨W0, hW0⟩ : ∃ W0, W0 = (((w.alloc (.cells #[.int .u64 0, .int .u64 0, .int .u64 0, .int .u64 0] 24)).alloc (.cells zerosB 25)).alloc (.cells (bytesRow t G) 5 ((bytesRow t G).size, (bytesRow t G).size + 1))).drew := ⟨_, rfl⟩
  rw [← hW0]
  have q0 : W0.heap[w.heap.size]? = some (.cells zerosS 24 (0, 0)) := by rw [hW0, heap_drew]; exact at_old (by simp only [World.size_alloc]; omega) (at_old (by simp only [World.size_alloc]; omega) (at_new rfl))
  have q1 : W0.heap[w.heap.size + 1]? = some (.cells (bl (inT t 0)) 25 (0, 0)) := by rw [hW0, heap_drew, ← unhide HZ]; exact at_old (by simp only [World.size_alloc]; omega) (at_new (by simp only [World.size_alloc]))
  have q2 : W0.heap[w.heap.size + 1 + 1]? = some (.cells (bytesRow t G) 5 ((bytesRow t G).size, (bytesRow t G).size + 1)) := by rw [hW0, heap_drew]; exact at_new (by simp only [World.size_alloc])
  have qb : Below w.heap.size w W0 := by rw [hW0]; exact ((((Below.refl _ _).alloc (Nat.le_refl _) _).alloc (by simp only [World.size_alloc]; omega) _).alloc (by simp only [World.size_alloc]; omega) _).drew
  have HB := hide (bytesRow_at t G)
  clear hW0 hz hcv
  generalize bytesRow t G = R at *
  go_loopw [9] (fun i wr => ∃ k : Nat, k ≤ t.size ∧ i = .int .i64 k ∧ wr.heap[w.heap.size]? = some (.cells zerosS 24 (0, 0)) ∧ wr.heap[w.heap.size + 1]? = some (.cells (bl (inT t k)) 25 (0, 0)) ∧ wr.heap[w.heap.size + 1 + 1]? = some (.cells R 5 (R.size, R.size + 1)) ∧ Below w.heap.size w wr) (fun i _ => t.size - (intOf i).toNat)
  case atStart => exact ⟨0, by omega, rfl, q0, q1, q2, qb⟩
  case round =>
    obtain ⟨k, hk, rfl, hg0, hg1, hg2, hb⟩ := hrel
    clear q0 q1 q2 qb
    by_cases hlt : k < t.size
    · have h1 : (k : Int) < (t.size : Int) := by omega
      have hx := UInt8.toNat_lt t[k]
      have hx2 : ((t[k]).toNat : Int) < 256 := by omega
      have c2 : wr.cell? ⟨w.heap.size + 1 + 1, k, none⟩ = some (.int .u8 ((t[k]).toNat : Int)) := by rw [cell_of_row wr _ _ _ _ _ hg2, unhide HB k hlt]; rfl
      have c1 : wr.cell? ⟨w.heap.size + 1, (t[k]).toNat, none⟩ = some (.bool (inT t k (t[k]).toNat)) := by rw [cell_of_row wr _ _ _ _ _ hg1, bl_at _ _ hx]
      have hfr := frozen_of_row wr (w.heap.size + 1) (t[k]).toNat _ _ hg1
      have n1 := heap_setCell_same wr (w.heap.size + 1) (t[k]).toNat _ _ (.bool true) hg1
      rw [inT_step t k hlt] at n1
      have n0 := (heap_setCell_other wr ⟨w.heap.size + 1, (t[k]).toNat, none⟩ w.heap.size (.bool true) (by simp only; omega)).trans hg0
      have n2 := (heap_setCell_other wr ⟨w.heap.size + 1, (t[k]).toNat, none⟩ (w.heap.size + 1 + 1) (.bool true) (by simp only; omega)).trans hg2
      have hb' := hb.setCell (p := ⟨w.heap.size + 1, (t[k]).toNat, none⟩) (by simp only; omega) (.bool true)
      have N := hide (And.intro n0 (And.intro n1 (And.intro n2 hb')))
      clear n0 n1 n2 hb' hg0 hg1 hg2 hb
      go_wp2
      go_roundw
      case rel => exact ⟨k + 1, by omega, by go_num, (unhide N).1, (unhide N).2.1, (unhide N).2.2.1, (unhide N).2.2.2⟩
      case measure => simp [intOf]; omega
    · obtain rfl : k = t.size := by omega
      have ls := bl_size (inT t t.size)
      have hsz := sc_size (inT t t.size)
      have hone := sc_one (inT t t.size)
      have hi := size_set
      rw [← hsz] at hi
      have hi2 := size_bools
      rw [← ls] at hi2
      generalize bl (inT t t.size) = LB at *
      obtain ⟨D, hD⟩ : ∃ D, D = sc (inT t t.size) := ⟨_, rfl⟩
      rw [← hD] at hsz hone hi C
      have HD := hide hD
      have HI := hide hi
      have HI2 := hide hi2
      clear hi hi2 hD
      go_wp2_with (first
        | (refine wpList_load_row rfl 25 _ rfl (w.heap.size + 1) rfl 25 LB (0, 0) _ hg1 Try.underlying25 rfl (unhide HI2) ?_)
        | (go_at_call 29; refine (unhide C _).mono ?_; rintro e w1 ⟨rfl, hb1⟩; have m0 := row_below hg0 hb1)
        | (refine wpList_store_row rfl 24 _ _ rfl w.heap.size D rfl rfl 24 zerosS m0 (unhide HI) hsz.symm hone ?_))
      (try simp only [Exit.inBlock, Exit.then])
      exact bodyPost_ret (results_cell_row rfl _ _ w.heap.size 24 D (0, 0) _ rfl (setRow_heap _ _ _ _ _ _ m0) Try.underlying24 rfl (unhide HI)) rfl ⟨by rw [unhide HD]; rfl, below_setRow (bnext hb hb1) _ (Nat.le_refl _) _⟩
end Go.Proofs.Ytgamnhmkimonnaa
