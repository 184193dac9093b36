/- What the document's Two does, way 3. -/
import Derived.Test.YtgamnhmkimonnaaTwoBase
namespace Go.Proofs.Ytgamnhmkimonnaa
open Go.RowKit

set_option maxHeartbeats 8000000 in
set_option maxRecDepth 100000 in
theorem two_3 (x0 x1 x2 x3 y0 y1 y2 y3 : Nat) (LA LB : Array Value) (w : World) (hA1 : LA.size = 256) (hB1 : LB.size = 256) (oA : LA.all (·.oneCell') = true) (oB : LB.all (·.oneCell') = true)
    (pa pb : Nat → Bool) (aA : ∀ i, i < 256 → LA[i]? = some (.bool (pa i))) (aB : ∀ i, i < 256 → LB[i]? = some (.bool (pb i)))
    (ka : ∀ W, Calls Try.prog 7 #[.agg #[.int .u64 (x0 : Int), .int .u64 (x1 : Int), .int .u64 (x2 : Int), .int .u64 (x3 : Int)]] W fun e w' => e = .returned (.agg LA) ∧ Below W.heap.size W w')
    (kb : ∀ W, Calls Try.prog 7 #[.agg #[.int .u64 (y0 : Int), .int .u64 (y1 : Int), .int .u64 (y2 : Int), .int .u64 (y3 : Int)]] W fun e w' => e = .returned (.agg LB) ∧ Below W.heap.size W w') :
    Calls Try.prog 15 #[.agg #[.int .u64 (x0 : Int), .int .u64 (x1 : Int), .int .u64 (x2 : Int), .int .u64 (x3 : Int)], .agg #[.int .u64 (y0 : Int), .int .u64 (y1 : Int), .int .u64 (y2 : Int), .int .u64 (y3 : Int)], .func (.func 20) #[] #[]] w fun e w' => e = .returned (sv fun c => pa c && !pb c) ∧ Below w.heap.size w w' := by
  have hz : ∀ w, (zeroValue 25).run Try.prog w = .ok (.agg zerosB) w := (zero_of_info info_bools).1
  have HKA := hide ka
  have HKB := hide kb
  have HAA := hide aA
  have HAB := hide aB
  clear ka kb aA aB
  have KC := hide (fun k W => clos_3 (pa k) (pb k) W)
  have KB := hide (fun W => back_any (fun c => pa c && !pb c) W)
  unfold sv at KB
  go_enter Try.func15, Try.ntmps15
  go_wp2
  obtain ⟨W, hW⟩ : ∃ W, W = ((w.alloc (.cells #[.int .u64 (x0 : Int), .int .u64 (x1 : Int), .int .u64 (x2 : Int), .int .u64 (x3 : Int)] 24)).alloc (.cells #[.int .u64 (y0 : Int), .int .u64 (y1 : Int), .int .u64 (y2 : Int), .int .u64 (y3 : Int)] 24)).alloc (.cells #[.int .u64 0, .int .u64 0, .int .u64 0, .int .u64 0] 24) := ⟨_, rfl⟩
  rw [← hW]
  have hsz : W.heap.size = w.heap.size + 3 := by rw [hW]; simp only [World.size_alloc]
  have g0 : W.heap[w.heap.size]? = some (.cells #[.int .u64 (x0 : Int), .int .u64 (x1 : Int), .int .u64 (x2 : Int), .int .u64 (x3 : Int)] 24 (0, 0)) := by rw [hW]; exact at_old (by simp only [World.size_alloc]; omega) (at_old (by simp only [World.size_alloc]; omega) (at_new rfl))
  have g1 : W.heap[w.heap.size + 1]? = some (.cells #[.int .u64 (y0 : Int), .int .u64 (y1 : Int), .int .u64 (y2 : Int), .int .u64 (y3 : Int)] 24 (0, 0)) := by rw [hW]; exact at_old (by simp only [World.size_alloc]; omega) (at_new (by simp only [World.size_alloc]))
  have g2 : W.heap[w.heap.size + 1 + 1]? = some (.cells zerosS 24 (0, 0)) := by rw [hW]; exact at_new (by simp only [World.size_alloc])
  have gb : Below w.heap.size w W := by rw [hW]; exact (((Below.refl _ _).alloc (Nat.le_refl _) _).alloc (by simp only [World.size_alloc]; omega) _).alloc (by simp only [World.size_alloc]; omega) _
  clear hW
  have lt0 : w.heap.size + 2 < W.heap.size := by omega
  have HG2 := hide (And.intro g2 gb)
  have hH : Held8 w.heap.size x0 x1 x2 x3 y0 y1 y2 y3 W := ⟨(cell_of_row _ _ 0 _ _ _ g0).trans rfl, (cell_of_row _ _ 1 _ _ _ g0).trans rfl, (cell_of_row _ _ 2 _ _ _ g0).trans rfl, (cell_of_row _ _ 3 _ _ _ g0).trans rfl, (cell_of_row _ _ 0 _ _ _ g1).trans rfl, (cell_of_row _ _ 1 _ _ _ g1).trans rfl, (cell_of_row _ _ 2 _ _ _ g1).trans rfl, (cell_of_row _ _ 3 _ _ _ g1).trans rfl⟩
  obtain ⟨c0, c1, c2, c3, d0, d1, d2, d3⟩ := hH
  clear hsz g0 g1 g2 gb
  have mA : ∀ v ∈ LA.toList, v.oneCell' = true := fun v hv => by rw [Array.all_eq_true_iff_forall_mem] at oA; exact oA v (Array.mem_toList_iff.1 hv)
  have mB : ∀ v ∈ LB.toList, v.oneCell' = true := fun v hv => by rw [Array.all_eq_true_iff_forall_mem] at oB; exact oB v (Array.mem_toList_iff.1 hv)
  have lA : LA.toList.length = 256 := by simpa using hA1
  have lB : LB.toList.length = 256 := by simpa using hB1
  have hi256 := size_bools
  have hu := Try.underlying25
  go_cut [7, 8] from 11 (fun s7 s8 wx => ∃ g7 g8, s7 = .pointer (some ⟨g7, 0, none⟩) ∧ s8 = .pointer (some ⟨g8, 0, none⟩) ∧ w.heap.size + 2 < g7 ∧ w.heap.size + 2 < g8 ∧ (∀ i, i < 256 → wx.cell? ⟨g7, i, none⟩ = LA[i]?) ∧ (∀ i, i < 256 → wx.cell? ⟨g8, i, none⟩ = LB[i]?) ∧ wx.heap[w.heap.size + 1 + 1]? = some (.cells zerosS 24 (0, 0)) ∧ Below w.heap.size w wx)
  case first =>
    go_region_held3 (fun w' => w'.cell? ⟨w.heap.size, 0, none⟩ = some (.int .u64 (x0 : Int)) ∧ w'.cell? ⟨w.heap.size, 1, none⟩ = some (.int .u64 (x1 : Int)) ∧ w'.cell? ⟨w.heap.size, 2, none⟩ = some (.int .u64 (x2 : Int)) ∧ w'.cell? ⟨w.heap.size, 3, none⟩ = some (.int .u64 (x3 : Int)) ∧ w'.cell? ⟨w.heap.size + 1, 0, none⟩ = some (.int .u64 (y0 : Int)) ∧ w'.cell? ⟨w.heap.size + 1, 1, none⟩ = some (.int .u64 (y1 : Int)) ∧ w'.cell? ⟨w.heap.size + 1, 2, none⟩ = some (.int .u64 (y2 : Int)) ∧ w'.cell? ⟨w.heap.size + 1, 3, none⟩ = some (.int .u64 (y3 : Int)))
      (first | go_keep | exact held8_below (by assumption) (by first | omega | (simp only [heap_drew]; omega) | (simp only [World.size_alloc]; omega) | (simp only [heap_drew, World.size_alloc]; omega)) hb2 | exact held8_below (by assumption) (by first | omega | (simp only [heap_drew]; omega) | (simp only [World.size_alloc]; omega) | (simp only [heap_drew, World.size_alloc]; omega)) hb1 | exact held8_alloc _ (by assumption) (by first | omega | (simp only [heap_drew]; omega) | (simp only [World.size_alloc]; omega) | (simp only [heap_drew, World.size_alloc]; omega)) | exact held8_cells _ _ (by assumption) (by omega))
      (first
        | (go_at_call 7; (with_reducible refine (unhide HKA _).mono ?_); rintro e w1 ⟨rfl, hb1⟩; have z1 := hb1.size; (try simp only [heap_drew] at z1); (try simp only [World.size_alloc] at z1); (try have qa := rowB_below hb1 W.heap.size (by first | exact rowB_new W | exact rowB_alloc _ _ _ (rowB_new W))); (try have qb := rowB_below hb1 (W.heap.size + 1) (rowB_new1 W _)))
        | (go_at_call 7; (with_reducible refine (unhide HKB _).mono ?_); rintro e w2 ⟨rfl, hb2⟩; have z2 := hb2.size; (try simp only [heap_drew] at z2); (try simp only [World.size_alloc] at z2); (try have qc := rowB_below hb2 W.heap.size (by first | exact qa | exact rowB_alloc _ _ _ qa | exact rowB_alloc _ _ _ (rowB_alloc _ _ _ qa))); (try have qd := rowB_below hb2 (W.heap.size + 1) qb); (try have qe := rowB_below hb2 w1.heap.size (by first | exact rowB_new w1 | exact rowB_alloc _ _ _ (rowB_new w1))); (try have qf := rowB_below hb2 (w1.heap.size + 1) (rowB_new1 w1 _)); (try have tqc := there_row qc); (try have uqc := World.there_alloc tqc (.cells zerosB 25)); (try have tqd := there_row qd); (try have uqd := World.there_alloc tqd (.cells zerosB 25)); (try have tqe := there_row qe); (try have uqe := World.there_alloc tqe (.cells zerosB 25)); (try have tqf := there_row qf); (try have uqf := World.there_alloc tqf (.cells zerosB 25)); (try have vqcqd := World.there_setCells tqc (W.heap.size + 1) 0 LA.toList); (try have vqdqc := World.there_setCells tqd W.heap.size 0 LA.toList); (try have vqcqe := World.there_setCells tqc w1.heap.size 0 LA.toList); (try have vqeqc := World.there_setCells tqe W.heap.size 0 LA.toList); (try have vqeqf := World.there_setCells tqe (w1.heap.size + 1) 0 LA.toList); (try have vqfqe := World.there_setCells tqf w1.heap.size 0 LA.toList); have tn := there_row (rowB_new w2); (try have xqc := World.there_setCells uqc w2.heap.size 0 LA.toList); (try have yqc := World.there_setCells tn W.heap.size 0 LA.toList); (try have xqe := World.there_setCells uqe w2.heap.size 0 LA.toList); (try have yqe := World.there_setCells tn w1.heap.size 0 LA.toList); have tm := there_row (rowB_alloc _ (.cells zerosB 25) _ (rowB_new w2)); have tk := there_row (rowB_new1 w2 (.cells zerosB 25)); have vm := World.there_setCells tm (w2.heap.size + 1) 0 LA.toList; have vk := World.there_setCells tk w2.heap.size 0 LA.toList))
    all_goals go_wp2_with fail
    all_goals go_meet
    all_goals refine ⟨_, _, rfl, rfl, ?_, ?_, ?_, ?_, ?_, ?_⟩
    all_goals first
      | omega
      | exact (two_put LA LB hA1 hB1 (by assumption) (by assumption) (by omega)).1
      | exact (two_put LA LB hA1 hB1 (by assumption) (by assumption) (by omega)).2
      | (rw [heap_cells, heap_cells] <;> first
          | omega
          | exact row_below (rowd (unhide HG2).1 hb1) hb2
          | exact row_below (rowd (at_keep (unhide HG2).1) hb1) hb2
          | exact row_below (rowd (at_keep (at_keep (unhide HG2).1)) hb1) hb2
          | exact row_below (at_keep (rowd (unhide HG2).1 hb1)) hb2
          | exact row_below (at_keep (rowd (at_keep (unhide HG2).1) hb1)) hb2
          | exact row_below (at_keep (at_keep (rowd (unhide HG2).1 hb1))) hb2
          | exact at_keep (row_below (rowd (unhide HG2).1 hb1) hb2)
          | exact at_keep (row_below (rowd (at_keep (unhide HG2).1) hb1) hb2)
          | exact at_keep (row_below (at_keep (rowd (unhide HG2).1 hb1)) hb2)
          | exact at_keep (at_keep (row_below (rowd (unhide HG2).1 hb1) hb2)))
      | (refine below_cells _ (by omega) _ _ _ (below_cells _ (by omega) _ _ _ ?_); first
          | exact bnext (bnext (unhide HG2).2.drew hb1) hb2
          | exact bnext (bnext ((unhide HG2).2.alloc (by omega) _).drew hb1) hb2
          | exact bnext (bnext (((unhide HG2).2.alloc (by omega) _).alloc (by simp only [World.size_alloc]; omega) _).drew hb1) hb2
          | exact bnext ((bnext (unhide HG2).2.drew hb1).alloc (by omega) _) hb2
          | exact bnext ((bnext ((unhide HG2).2.alloc (by omega) _).drew hb1).alloc (by omega) _) hb2
          | exact bnext (((bnext (unhide HG2).2.drew hb1).alloc (by omega) _).alloc (by simp only [World.size_alloc]; omega) _) hb2
          | exact (bnext (bnext (unhide HG2).2.drew hb1) hb2).alloc (by omega) _
          | exact (bnext (bnext ((unhide HG2).2.alloc (by omega) _).drew hb1) hb2).alloc (by omega) _
          | exact (bnext ((bnext (unhide HG2).2.drew hb1).alloc (by omega) _) hb2).alloc (by omega) _
          | exact ((bnext (bnext (unhide HG2).2.drew hb1) hb2).alloc (by omega) _).alloc (by simp only [World.size_alloc]; omega) _)
  case rest =>
  obtain ⟨g7, g8, rfl, rfl, l7, l8, cA, cB, hz2, hbx⟩ := hcut
  have CA := hide cA
  have CB := hide cB
  have HZB := hide (show zerosB = bl (mixB 0 (fun c => pa c && !pb c) fun _ => false) by rw [mixB_zero, zerosB_eq])
  clear cA cB c0 c1 c2 c3 d0 d1 d2 d3 HG2 lt0 mA mB lA lB hi256 hu HKA HKB
  have n7 : g7 < wc.heap.size := block_lt_of_cell ((unhide CA 0 (by omega)).trans (unhide HAA 0 (by omega)))
  have n8 : g8 < wc.heap.size := block_lt_of_cell ((unhide CB 0 (by omega)).trans (unhide HAB 0 (by omega)))
  have nz := lt_of_block hz2
  go_wp2
  go_loopw [15] (fun v wr => ∃ k : Nat, k ≤ 256 ∧ v = .int .i64 k ∧ wr.heap[w.heap.size + 1 + 1]? = some (.cells zerosS 24 (0, 0)) ∧ wr.heap[wc.heap.size]? = some (.cells (bl (mixB k (fun c => pa c && !pb c) fun _ => false)) 25 (0, 0)) ∧ Below w.heap.size w wr ∧ Below wc.heap.size wc wr) (fun v _ => 256 - (intOf v).toNat)
  case atStart => exact ⟨0, by omega, rfl, at_keep hz2, by rw [← unhide HZB]; exact at_new rfl, hbx.alloc hbx.size _, (Below.refl _ _).alloc (Nat.le_refl _) _⟩
  case round =>
    obtain ⟨k, hk, rfl, hg0, hg1, hb, hbc⟩ := hrel
    by_cases hlt : k < 256
    · have h1 : (k : Int) < 256 := by omega
      have h0 : (0 : Int) ≤ (k : Int) := by omega
      have e7 : wr.cell? ⟨g7, k, none⟩ = some (.bool (pa k)) := (hbc.cell (p := ⟨g7, k, none⟩) n7).trans ((unhide CA k hlt).trans (unhide HAA k hlt))
      have e8 : wr.cell? ⟨g8, k, none⟩ = some (.bool (pb k)) := (hbc.cell (p := ⟨g8, k, none⟩) n8).trans ((unhide CB k hlt).trans (unhide HAB k hlt))
      have e9 : wr.cell? ⟨wc.heap.size, k, none⟩ = some (.bool (mixB k (fun c => pa c && !pb c) (fun _ => false) k)) := by rw [cell_of_row wr _ _ _ _ _ hg1, bl_at _ _ hlt]
      have hfr := frozen_of_row wr wc.heap.size k _ _ hg1
      have n1 := heap_setCell_same wr wc.heap.size k _ _ (.bool (pa k && !pb k)) hg1
      rw [show (.bool (pa k && !pb k) : Value) = .bool ((fun c => pa c && !pb c) k) from rfl, mixB_step] at n1
      have n1 : (wr.setCell ⟨wc.heap.size, k, none⟩ (.bool (pa k && !pb k))).heap[wc.heap.size]? = some (.cells (bl (mixB (k + 1) (fun c => pa c && !pb c) fun _ => false)) 25 (0, 0)) := n1
      have n0 := (heap_setCell_other wr ⟨wc.heap.size, k, none⟩ (w.heap.size + 1 + 1) (.bool (pa k && !pb k)) (by simp only; omega)).trans hg0
      have nb := (hb.setCell (p := ⟨wc.heap.size, k, none⟩) (by have := hbx.size; simp only; omega) (.bool (pa k && !pb k))).drew
      have nc := (hbc.setCell (p := ⟨wc.heap.size, k, none⟩) (Nat.le_refl _) (.bool (pa k && !pb k))).drew
      have k7 := (nc.cell (p := ⟨g7, k, none⟩) n7).trans ((unhide CA k hlt).trans (unhide HAA k hlt))
      have k8 := (nc.cell (p := ⟨g8, k, none⟩) n8).trans ((unhide CB k hlt).trans (unhide HAB k hlt))
      have NN := hide (And.intro n0 (And.intro n1 (And.intro nb nc)))
      have C := hide (unhide KC k)
      have m7 : ¬ g7 = wc.heap.size := by omega
      have m8 : ¬ g8 = wc.heap.size := by omega
      have m9 : ¬ wc.heap.size = g7 := by omega
      have m10 : ¬ wc.heap.size = g8 := by omega
      clear n0 n1 nb nc hg0 hg1 hb hbc
      generalize pa k = u at *
      generalize pb k = v at *
      generalize mixB k (fun c => pa c && !pb c) (fun _ => false) k = old at *
      go_wp2
      go_region_held3 (fun w' => w'.cell? ⟨g7, k, none⟩ = some (.bool u) ∧ w'.cell? ⟨g8, k, none⟩ = some (.bool v)) (go_keep)
        (first
          | (go_at_call 20; refine (unhide C _).mono ?_; rintro e w1 ⟨rfl, rfl⟩))
      go_wp2
      go_roundw
      case rel => exact ⟨k + 1, by omega, by go_num, (unhide NN).1, (unhide NN).2.1, (unhide NN).2.2.1, (unhide NN).2.2.2⟩
      case measure => simp [intOf]; omega
    · obtain rfl : k = 256 := by omega
      rw [mixB_end] at hg1
      have ls := bl_size (fun c => pa c && !pb c)
      have hsz := sc_size (fun c => pa c && !pb c)
      have hone := sc_one (fun c => pa c && !pb c)
      have hi := size_set
      rw [← hsz] at hi
      have hi2 := size_bools
      rw [← ls] at hi2
      generalize bl (fun c => pa c && !pb c) = LC at *
      obtain ⟨D, hD⟩ : ∃ D, D = sc (fun c => pa c && !pb c) := ⟨_, rfl⟩
      rw [← hD] at hsz hone hi KB
      have HD := hide hD
      have HI := hide hi
      have HI2 := hide hi2
      clear hi hi2 hD
      go_wp2_with (first
        | (refine wpList_load_row rfl 25 _ rfl wc.heap.size rfl 25 LC (0, 0) _ hg1 Try.underlying25 rfl (unhide HI2) ?_)
        | (go_at_call 29; refine (unhide KB _).mono ?_; rintro e w1 ⟨rfl, hb1⟩; have m0 := row_below hg0 hb1)
        | (refine wpList_store_row rfl 24 _ _ rfl (w.heap.size + 1 + 1) D rfl rfl 24 zerosS m0 (unhide HI) hsz.symm hone ?_))
      (try simp only [Exit.inBlock, Exit.then])
      exact bodyPost_ret (results_cell_row rfl _ _ (w.heap.size + 1 + 1) 24 D (0, 0) _ rfl (setRow_heap _ _ _ _ _ _ m0) Try.underlying24 rfl (unhide HI)) rfl ⟨by rw [unhide HD]; rfl, below_setRow (bnext hb hb1) _ (by omega) _⟩
end Go.Proofs.Ytgamnhmkimonnaa
