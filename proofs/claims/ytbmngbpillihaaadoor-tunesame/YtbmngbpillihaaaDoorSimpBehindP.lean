/- Two that stand one behind the other: what tune.behind makes of them. -/
import Derived.Test.YtbmngbpillihaaaDoorSimpWalkBP
namespace Go.Proofs.YtbmngbpillihaaaDoor
open Go.RowKit

set_option maxRecDepth 100000 in
set_option maxHeartbeats 6000000 in
theorem behind_any (a b : PT) (w : World) (ha : a.t.size ≤ 65536) (hb : b.t.size ≤ 65536) (hna : -65536 ≤ a.n ∧ a.n ≤ 65536) (hnb : -65536 ≤ b.n ∧ b.n ≤ 65536) : Calls Tryd.prog 79 #[pv a, pv b] w fun e w' => e = .returned (joinV (behindP a b)) ∧ Below w.heap.size w w' := by
  have HL := hide (fun W => literalS (a.t ++ b.t) W)
  have HC := hide (fun W => counted_any 2 (a.n + b.n) W)
  have hB := below3 w (.cells (patO a) 24) (.cells (patO b) 24) (.cells zeroP 24)
  have hz : (((w.alloc (.cells (patO a) 24)).alloc (.cells (patO b) 24)).alloc (.cells zeroP 24)).heap[w.heap.size + 1 + 1]? = some (.cells zeroP 24 (0, 0)) := at_new (by simp)
  have HZ := hide (And.intro hB hz)
  unfold pv
  unfold behindP
  by_cases h1 : a.k ≠ b.k
  · rw [if_pos h1]
    have q1 : (a.k == b.k) = false := by rw [beq_eq_false_iff_ne]; exact h1
    have q2 : (a.k != b.k) = true := by rw [bne_iff_ne]; exact h1
    unfold joinV
    clear HL HC ha hb hna hnb hB hz
    unfold patO at HZ
    go_enter Tryd.func79, Tryd.ntmps79
    go_wp2_with (first
      | (refine wpList_store_row rfl 24 _ _ rfl (w.heap.size + 1 + 1) zeroP rfl rfl 24 zeroP (unhide HZ).2 (leafO_info _ _ _) rfl (leafO_one _ _ _) ?_)
      | fail)
    (try simp only [Exit.inBlock, Exit.then])
    exact bodyPost_ret (results_patS rfl _ _ (w.heap.size + 1 + 1) zeroP rfl (setRow_heap _ _ _ _ _ _ (unhide HZ).2) (leafO_info _ _ _)) rfl ⟨rfl, below_setRow (unhide HZ).1 _ (by omega) _⟩
  · rw [if_neg h1]
    have h1 : a.k = b.k := Classical.not_not.1 h1
    rw [h1]
    by_cases k1 : b.k = 1
    · rw [k1]
      have hw1 : wrap64 ((a.t.size : Int) + (b.t.size : Int)) = (a.t.size : Int) + (b.t.size : Int) := IntWalk.wrap64_in _ (by omega)
      have hw2 : IntKind.i64.wrap ((a.t.size : Int) + (b.t.size : Int)) = (a.t.size : Int) + (b.t.size : Int) := (IntWalk.i64_left _).trans hw1
      by_cases hs : a.t.size + b.t.size ≤ 65536
      · rw [if_pos ⟨rfl, hs⟩]
        have hs' : (a.t.size : Int) + (b.t.size : Int) ≤ 65536 := by omega
        show Calls _ _ _ _ fun e w' => e = .returned (.tuple #[.agg (leafO 1 0 (a.t ++ b.t)), .bool true]) ∧ _
        have hZ := unhide HZ
        unfold patO at hZ
        rw [h1, k1] at hZ
        have HZ1 := hide hZ
        clear HC ha hb hna hnb hB hz hZ HZ h1 k1 hs
        go_enter Tryd.func79, Tryd.ntmps79
        go_wp2_with fail
        refine (unhide HL _).mono ?_
        rintro e w1 ⟨rfl, hb1⟩
        have g := row_below (unhide HZ1).2 hb1
        have HB := hide (bnext (unhide HZ1).1 hb1)
        clear hb1
        go_wp2_with (first
          | (refine wpList_store_row rfl 24 _ _ rfl (w.heap.size + 1 + 1) (leafO 1 0 (a.t ++ b.t)) rfl rfl 24 zeroP g (leafO_info _ _ _) rfl (leafO_one _ _ _) ?_)
          | fail)
        (try simp only [Exit.inBlock, Exit.then])
        exact bodyPost_ret (results_patS rfl _ _ (w.heap.size + 1 + 1) (leafO 1 0 (a.t ++ b.t)) rfl (setRow_heap _ _ _ _ _ _ g) (leafO_info _ _ _)) rfl ⟨rfl, below_setRow (unhide HB) _ (by omega) _⟩
      · rw [if_neg (fun e => hs e.2), if_neg (by omega)]
        have hs' : ((a.t.size : Int) + (b.t.size : Int) ≤ 65536) = False := eq_false (by omega)
        show Calls _ _ _ _ fun e w' => e = .returned (.tuple #[.agg zeroP, .bool false]) ∧ _
        have hZ := unhide HZ
        unfold patO at hZ
        rw [h1, k1] at hZ
        have HZ1 := hide hZ
        clear HC HL ha hb hna hnb hB hz hZ HZ h1 k1 hs
        go_enter Tryd.func79, Tryd.ntmps79
        go_wp2_with (first
          | (refine wpList_store_row rfl 24 _ _ rfl (w.heap.size + 1 + 1) zeroP rfl rfl 24 zeroP (unhide HZ1).2 (leafO_info _ _ _) rfl (leafO_one _ _ _) ?_)
          | fail)
        (try simp only [Exit.inBlock, Exit.then])
        exact bodyPost_ret (results_patS rfl _ _ (w.heap.size + 1 + 1) zeroP rfl (setRow_heap _ _ _ _ _ _ (unhide HZ1).2) (leafO_info _ _ _)) rfl ⟨rfl, below_setRow (unhide HZ1).1 _ (by omega) _⟩
    · by_cases k2 : b.k = 2
      · rw [k2, if_neg (by omega)]
        have hw1 : wrap64 (a.n + b.n) = a.n + b.n := IntWalk.wrap64_in _ (by omega)
        have hw2 : IntKind.i64.wrap (a.n + b.n) = a.n + b.n := (IntWalk.i64_left _).trans hw1
        have hZ := unhide HZ
        unfold patO at hZ
        rw [h1, k2] at hZ
        have HZ1 := hide hZ
        by_cases hs : a.n + b.n ≤ 65536
        · rw [if_pos ⟨rfl, hs⟩]
          obtain ⟨y, hy⟩ : ∃ y, y = cntP 2 (a.n + b.n) := ⟨_, rfl⟩
          rw [← hy] at HC ⊢
          show Calls _ _ _ _ fun e w' => e = .returned (.tuple #[.agg (patO y), .bool true]) ∧ _
          rw [show pv y = .agg (patO y) from rfl] at HC
          have HI := hide (show (Tryd.prog.info? 24).map (·.size) = some (patO y).size from size_pat)
          have HO := hide (show (patO y).all (·.oneCell') = true by simp [patO, Value.oneCell'])
          have hY : (patO y).size = 5 := rfl
          obtain ⟨Y, hYY⟩ : ∃ Y, Y = patO y := ⟨_, rfl⟩
          rw [← hYY] at HC HI HO hY ⊢
          clear HL ha hb hna hnb hB hz hZ HZ h1 k1 k2 hy hYY
          go_enter Tryd.func79, Tryd.ntmps79
          go_wp2_with fail
          refine (unhide HC _).mono ?_
          rintro e w1 ⟨rfl, hb1⟩
          have g := row_below (unhide HZ1).2 hb1
          have HB := hide (bnext (unhide HZ1).1 hb1)
          clear hb1
          go_wp2_with (first
            | (refine wpList_store_row rfl 24 _ _ rfl (w.heap.size + 1 + 1) Y rfl rfl 24 zeroP g (unhide HI) hY.symm (unhide HO) ?_)
            | fail)
          (try simp only [Exit.inBlock, Exit.then])
          exact bodyPost_ret (results_patS rfl _ _ (w.heap.size + 1 + 1) Y rfl (setRow_heap _ _ _ _ _ _ g) (unhide HI)) rfl ⟨rfl, below_setRow (unhide HB) _ (by omega) _⟩
        · rw [if_neg (fun e => hs e.2)]
          have hs' : (a.n + b.n ≤ 65536) = False := eq_false hs
          show Calls _ _ _ _ fun e w' => e = .returned (.tuple #[.agg zeroP, .bool false]) ∧ _
          clear HC HL ha hb hna hnb hB hz hZ HZ h1 k1 k2 hs
          go_enter Tryd.func79, Tryd.ntmps79
          go_wp2_with (first
            | (refine wpList_store_row rfl 24 _ _ rfl (w.heap.size + 1 + 1) zeroP rfl rfl 24 zeroP (unhide HZ1).2 (leafO_info _ _ _) rfl (leafO_one _ _ _) ?_)
            | fail)
          (try simp only [Exit.inBlock, Exit.then])
          exact bodyPost_ret (results_patS rfl _ _ (w.heap.size + 1 + 1) zeroP rfl (setRow_heap _ _ _ _ _ _ (unhide HZ1).2) (leafO_info _ _ _)) rfl ⟨rfl, below_setRow (unhide HZ1).1 _ (by omega) _⟩
      · rw [if_neg (by omega), if_neg (by omega)]
        have q1 : (b.k == 1) = false := by rw [beq_eq_false_iff_ne]; exact k1
        have q2 : (b.k == 2) = false := by rw [beq_eq_false_iff_ne]; exact k2
        show Calls _ _ _ _ fun e w' => e = .returned (.tuple #[.agg zeroP, .bool false]) ∧ _
        have hZ := unhide HZ
        unfold patO at hZ
        rw [h1] at hZ
        have HZ1 := hide hZ
        clear HC HL ha hb hna hnb hB hz hZ HZ h1 k1 k2
        go_enter Tryd.func79, Tryd.ntmps79
        go_wp2_with (first
          | (refine wpList_store_row rfl 24 _ _ rfl (w.heap.size + 1 + 1) zeroP rfl rfl 24 zeroP (unhide HZ1).2 (leafO_info _ _ _) rfl (leafO_one _ _ _) ?_)
          | fail)
        (try simp only [Exit.inBlock, Exit.then])
        exact bodyPost_ret (results_patS rfl _ _ (w.heap.size + 1 + 1) zeroP rfl (setRow_heap _ _ _ _ _ _ (unhide HZ1).2) (leafO_info _ _ _)) rfl ⟨rfl, below_setRow (unhide HZ1).1 _ (by omega) _⟩
end Go.Proofs.YtbmngbpillihaaaDoor
