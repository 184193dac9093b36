/- tune.firstOf, by the kinds. -/
import Derived.Test.YtjfahpklemohgaaDoorFirstHead
namespace Go.Proofs.YtjfahpklemohgaaDoor
open Go.RowKit

set_option maxRecDepth 100000 in
set_option maxHeartbeats 1000000 in
theorem fst_k15 (T : PT) (q : T.k = 15) (w : World) :
    Calls Tryd.prog 10 #[pv T] w (FstPost T.fst w) := by
  have HX := hide (fst_15 (T := T) (.inl q))
  unfold pv
  rw [unhide HX, q]
  unfold FstPost
  unfold fsNo
  obtain ⟨A, hA⟩ : ∃ A, A = sc (fun _ => true) := ⟨_, rfl⟩
  have hAs : A.size = 4 := by rw [hA]; rfl
  have hA1 : A.all (·.oneCell') = true := by rw [hA]; exact sc_one _
  have HN := hide (fun W => not_says (fun _ => false) W)
  rw [← zerosS_eq, show (fun c : Nat => !(fun _ => false : Nat → Bool) c) = fun _ => true from rfl, ← hA] at HN
  have hiA : (Tryd.prog.info? 29).map (·.size) = some A.size := by rw [hAs]; exact size_set
  have HIA := hide hiA
  have HA := hide hA
  clear hiA hA
  unfold zerosS at HN
  clear q HX
  go_enter Tryd.func10, Tryd.ntmps10
  go_wp2_with fail
  refine (unhide HN _).mono ?_
  rintro e w1 ⟨rfl, hb1⟩
  obtain ⟨W, hW⟩ : ∃ W, W = preW w1 A := ⟨_, rfl⟩
  have HP : Hid (Pre w W w1.heap.size #[.int .i64 15, .string T.t, .int .i64 T.n, .string T.nm, .slice T.xa T.len T.cap] A) := hide (by rw [hW]; exact pre_of hb1)
  have HW := hide hW
  clear hb1 hW HN
  obtain ⟨y0, y1, y2, y3, y4⟩ := cells5 (unhide HP).pat
  go_wp2_with (first
    | (refine wpList_store_row rfl 29 _ _ rfl w1.heap.size zerosS rfl rfl 29 zerosS (at_keep3 (at_new rfl)) zerosS_info rfl zerosS_one ?_)
    | (refine wpList_store_eq rfl 29 _ _ rfl (w1.heap.size + 1) A rfl rfl 29 zerosS ((setRow_other _ _ _ _ (by omega)).trans (at_new (by simp only [World.size_alloc]))) (unhide HIA) hAs.symm hA1 (unhide HW) ?_)
    | (refine wpList_load_row rfl 29 _ rfl w1.heap.size rfl 29 zerosS (0, 0) _ (unhide HP).none Tryd.underlying29 rfl zerosS_info ?_)
    | (refine wpList_store_row rfl 29 _ _ rfl (w.heap.size + 1) zerosS rfl rfl 29 zerosS (unhide HP).res zerosS_info rfl zerosS_one ?_))
  (try simp only [Exit.inBlock, Exit.then])
  exact bodyPost_ret (results_set rfl _ _ (w.heap.size + 1) zerosS rfl (setRow_heap _ _ _ _ _ _ (unhide HP).res) zerosS_info) rfl ⟨by rw [zerosS_eq]; rfl, below_setRow (unhide HP).bel _ (by omega) _⟩

set_option maxRecDepth 100000 in
set_option maxHeartbeats 1000000 in
theorem fst_k17 (T : PT) (q : T.k = 17) (w : World) :
    Calls Tryd.prog 10 #[pv T] w (FstPost T.fst w) := by
  have HX := hide (fst_15 (T := T) (.inr q))
  unfold pv
  rw [unhide HX, q]
  unfold FstPost
  unfold fsNo
  obtain ⟨A, hA⟩ : ∃ A, A = sc (fun _ => true) := ⟨_, rfl⟩
  have hAs : A.size = 4 := by rw [hA]; rfl
  have hA1 : A.all (·.oneCell') = true := by rw [hA]; exact sc_one _
  have HN := hide (fun W => not_says (fun _ => false) W)
  rw [← zerosS_eq, show (fun c : Nat => !(fun _ => false : Nat → Bool) c) = fun _ => true from rfl, ← hA] at HN
  have hiA : (Tryd.prog.info? 29).map (·.size) = some A.size := by rw [hAs]; exact size_set
  have HIA := hide hiA
  have HA := hide hA
  clear hiA hA
  unfold zerosS at HN
  clear q HX
  go_enter Tryd.func10, Tryd.ntmps10
  go_wp2_with fail
  refine (unhide HN _).mono ?_
  rintro e w1 ⟨rfl, hb1⟩
  obtain ⟨W, hW⟩ : ∃ W, W = preW w1 A := ⟨_, rfl⟩
  have HP : Hid (Pre w W w1.heap.size #[.int .i64 17, .string T.t, .int .i64 T.n, .string T.nm, .slice T.xa T.len T.cap] A) := hide (by rw [hW]; exact pre_of hb1)
  have HW := hide hW
  clear hb1 hW HN
  obtain ⟨y0, y1, y2, y3, y4⟩ := cells5 (unhide HP).pat
  go_wp2_with (first
    | (refine wpList_store_row rfl 29 _ _ rfl w1.heap.size zerosS rfl rfl 29 zerosS (at_keep3 (at_new rfl)) zerosS_info rfl zerosS_one ?_)
    | (refine wpList_store_eq rfl 29 _ _ rfl (w1.heap.size + 1) A rfl rfl 29 zerosS ((setRow_other _ _ _ _ (by omega)).trans (at_new (by simp only [World.size_alloc]))) (unhide HIA) hAs.symm hA1 (unhide HW) ?_)
    | (refine wpList_load_row rfl 29 _ rfl w1.heap.size rfl 29 zerosS (0, 0) _ (unhide HP).none Tryd.underlying29 rfl zerosS_info ?_)
    | (refine wpList_store_row rfl 29 _ _ rfl (w.heap.size + 1) zerosS rfl rfl 29 zerosS (unhide HP).res zerosS_info rfl zerosS_one ?_))
  (try simp only [Exit.inBlock, Exit.then])
  exact bodyPost_ret (results_set rfl _ _ (w.heap.size + 1) zerosS rfl (setRow_heap _ _ _ _ _ _ (unhide HP).res) zerosS_info) rfl ⟨by rw [zerosS_eq]; rfl, below_setRow (unhide HP).bel _ (by omega) _⟩

set_option maxRecDepth 100000 in
set_option maxHeartbeats 1000000 in
theorem fst_k10 (T : PT) (q : T.k = 10) (w : World) :
    Calls Tryd.prog 10 #[pv T] w (FstPost T.fst w) := by
  have HX := hide (fst_10 (T := T) (by omega))
  unfold pv
  rw [unhide HX, q]
  unfold FstPost
  obtain ⟨A, hA⟩ : ∃ A, A = sc (fun _ => true) := ⟨_, rfl⟩
  have hAs : A.size = 4 := by rw [hA]; rfl
  have hA1 : A.all (·.oneCell') = true := by rw [hA]; exact sc_one _
  have HN := hide (fun W => not_says (fun _ => false) W)
  rw [← zerosS_eq, show (fun c : Nat => !(fun _ => false : Nat → Bool) c) = fun _ => true from rfl, ← hA] at HN
  have hiA : (Tryd.prog.info? 29).map (·.size) = some A.size := by rw [hAs]; exact size_set
  have HIA := hide hiA
  have HA := hide hA
  clear hiA hA
  unfold zerosS at HN
  clear q HX
  go_enter Tryd.func10, Tryd.ntmps10
  go_wp2_with fail
  refine (unhide HN _).mono ?_
  rintro e w1 ⟨rfl, hb1⟩
  obtain ⟨W, hW⟩ : ∃ W, W = preW w1 A := ⟨_, rfl⟩
  have HP : Hid (Pre w W w1.heap.size #[.int .i64 10, .string T.t, .int .i64 T.n, .string T.nm, .slice T.xa T.len T.cap] A) := hide (by rw [hW]; exact pre_of hb1)
  have HW := hide hW
  clear hb1 hW HN
  obtain ⟨y0, y1, y2, y3, y4⟩ := cells5 (unhide HP).pat
  go_wp2_with (first
    | (refine wpList_store_row rfl 29 _ _ rfl w1.heap.size zerosS rfl rfl 29 zerosS (at_keep3 (at_new rfl)) zerosS_info rfl zerosS_one ?_)
    | (refine wpList_store_eq rfl 29 _ _ rfl (w1.heap.size + 1) A rfl rfl 29 zerosS ((setRow_other _ _ _ _ (by omega)).trans (at_new (by simp only [World.size_alloc]))) (unhide HIA) hAs.symm hA1 (unhide HW) ?_)
    | (refine wpList_load_row rfl 29 _ rfl w1.heap.size rfl 29 zerosS (0, 0) _ (unhide HP).none Tryd.underlying29 rfl zerosS_info ?_)
    | (refine wpList_store_row rfl 29 _ _ rfl (w.heap.size + 1) zerosS rfl rfl 29 zerosS (unhide HP).res zerosS_info rfl zerosS_one ?_))
  (try simp only [Exit.inBlock, Exit.then])
  exact bodyPost_ret (results_set rfl _ _ (w.heap.size + 1) zerosS rfl (setRow_heap _ _ _ _ _ _ (unhide HP).res) zerosS_info) rfl ⟨by rw [zerosS_eq]; rfl, below_setRow (unhide HP).bel _ (by omega) _⟩

set_option maxRecDepth 100000 in
set_option maxHeartbeats 1000000 in
theorem fst_k11 (T : PT) (q : T.k = 11) (w : World) :
    Calls Tryd.prog 10 #[pv T] w (FstPost T.fst w) := by
  have HX := hide (fst_10 (T := T) (by omega))
  unfold pv
  rw [unhide HX, q]
  unfold FstPost
  obtain ⟨A, hA⟩ : ∃ A, A = sc (fun _ => true) := ⟨_, rfl⟩
  have hAs : A.size = 4 := by rw [hA]; rfl
  have hA1 : A.all (·.oneCell') = true := by rw [hA]; exact sc_one _
  have HN := hide (fun W => not_says (fun _ => false) W)
  rw [← zerosS_eq, show (fun c : Nat => !(fun _ => false : Nat → Bool) c) = fun _ => true from rfl, ← hA] at HN
  have hiA : (Tryd.prog.info? 29).map (·.size) = some A.size := by rw [hAs]; exact size_set
  have HIA := hide hiA
  have HA := hide hA
  clear hiA hA
  unfold zerosS at HN
  clear q HX
  go_enter Tryd.func10, Tryd.ntmps10
  go_wp2_with fail
  refine (unhide HN _).mono ?_
  rintro e w1 ⟨rfl, hb1⟩
  obtain ⟨W, hW⟩ : ∃ W, W = preW w1 A := ⟨_, rfl⟩
  have HP : Hid (Pre w W w1.heap.size #[.int .i64 11, .string T.t, .int .i64 T.n, .string T.nm, .slice T.xa T.len T.cap] A) := hide (by rw [hW]; exact pre_of hb1)
  have HW := hide hW
  clear hb1 hW HN
  obtain ⟨y0, y1, y2, y3, y4⟩ := cells5 (unhide HP).pat
  go_wp2_with (first
    | (refine wpList_store_row rfl 29 _ _ rfl w1.heap.size zerosS rfl rfl 29 zerosS (at_keep3 (at_new rfl)) zerosS_info rfl zerosS_one ?_)
    | (refine wpList_store_eq rfl 29 _ _ rfl (w1.heap.size + 1) A rfl rfl 29 zerosS ((setRow_other _ _ _ _ (by omega)).trans (at_new (by simp only [World.size_alloc]))) (unhide HIA) hAs.symm hA1 (unhide HW) ?_)
    | (refine wpList_load_row rfl 29 _ rfl w1.heap.size rfl 29 zerosS (0, 0) _ (unhide HP).none Tryd.underlying29 rfl zerosS_info ?_)
    | (refine wpList_store_row rfl 29 _ _ rfl (w.heap.size + 1) zerosS rfl rfl 29 zerosS (unhide HP).res zerosS_info rfl zerosS_one ?_))
  (try simp only [Exit.inBlock, Exit.then])
  exact bodyPost_ret (results_set rfl _ _ (w.heap.size + 1) zerosS rfl (setRow_heap _ _ _ _ _ _ (unhide HP).res) zerosS_info) rfl ⟨by rw [zerosS_eq]; rfl, below_setRow (unhide HP).bel _ (by omega) _⟩

set_option maxRecDepth 100000 in
set_option maxHeartbeats 1000000 in
theorem fst_k16 (T : PT) (q : T.k = 16) (w : World) :
    Calls Tryd.prog 10 #[pv T] w (FstPost T.fst w) := by
  have HX := hide (fst_10 (T := T) (by omega))
  unfold pv
  rw [unhide HX, q]
  unfold FstPost
  obtain ⟨A, hA⟩ : ∃ A, A = sc (fun _ => true) := ⟨_, rfl⟩
  have hAs : A.size = 4 := by rw [hA]; rfl
  have hA1 : A.all (·.oneCell') = true := by rw [hA]; exact sc_one _
  have HN := hide (fun W => not_says (fun _ => false) W)
  rw [← zerosS_eq, show (fun c : Nat => !(fun _ => false : Nat → Bool) c) = fun _ => true from rfl, ← hA] at HN
  have hiA : (Tryd.prog.info? 29).map (·.size) = some A.size := by rw [hAs]; exact size_set
  have HIA := hide hiA
  have HA := hide hA
  clear hiA hA
  unfold zerosS at HN
  clear q HX
  go_enter Tryd.func10, Tryd.ntmps10
  go_wp2_with fail
  refine (unhide HN _).mono ?_
  rintro e w1 ⟨rfl, hb1⟩
  obtain ⟨W, hW⟩ : ∃ W, W = preW w1 A := ⟨_, rfl⟩
  have HP : Hid (Pre w W w1.heap.size #[.int .i64 16, .string T.t, .int .i64 T.n, .string T.nm, .slice T.xa T.len T.cap] A) := hide (by rw [hW]; exact pre_of hb1)
  have HW := hide hW
  clear hb1 hW HN
  obtain ⟨y0, y1, y2, y3, y4⟩ := cells5 (unhide HP).pat
  go_wp2_with (first
    | (refine wpList_store_row rfl 29 _ _ rfl w1.heap.size zerosS rfl rfl 29 zerosS (at_keep3 (at_new rfl)) zerosS_info rfl zerosS_one ?_)
    | (refine wpList_store_eq rfl 29 _ _ rfl (w1.heap.size + 1) A rfl rfl 29 zerosS ((setRow_other _ _ _ _ (by omega)).trans (at_new (by simp only [World.size_alloc]))) (unhide HIA) hAs.symm hA1 (unhide HW) ?_)
    | (refine wpList_load_row rfl 29 _ rfl w1.heap.size rfl 29 zerosS (0, 0) _ (unhide HP).none Tryd.underlying29 rfl zerosS_info ?_)
    | (refine wpList_store_row rfl 29 _ _ rfl (w.heap.size + 1) zerosS rfl rfl 29 zerosS (unhide HP).res zerosS_info rfl zerosS_one ?_))
  (try simp only [Exit.inBlock, Exit.then])
  exact bodyPost_ret (results_set rfl _ _ (w.heap.size + 1) zerosS rfl (setRow_heap _ _ _ _ _ _ (unhide HP).res) zerosS_info) rfl ⟨by rw [zerosS_eq]; rfl, below_setRow (unhide HP).bel _ (by omega) _⟩

set_option maxRecDepth 100000 in
set_option maxHeartbeats 1000000 in
theorem fst_k23 (T : PT) (q : T.k = 23) (w : World) :
    Calls Tryd.prog 10 #[pv T] w (FstPost T.fst w) := by
  have HX := hide (fst_10 (T := T) (by omega))
  unfold pv
  rw [unhide HX, q]
  unfold FstPost
  obtain ⟨A, hA⟩ : ∃ A, A = sc (fun _ => true) := ⟨_, rfl⟩
  have hAs : A.size = 4 := by rw [hA]; rfl
  have hA1 : A.all (·.oneCell') = true := by rw [hA]; exact sc_one _
  have HN := hide (fun W => not_says (fun _ => false) W)
  rw [← zerosS_eq, show (fun c : Nat => !(fun _ => false : Nat → Bool) c) = fun _ => true from rfl, ← hA] at HN
  have hiA : (Tryd.prog.info? 29).map (·.size) = some A.size := by rw [hAs]; exact size_set
  have HIA := hide hiA
  have HA := hide hA
  clear hiA hA
  unfold zerosS at HN
  clear q HX
  go_enter Tryd.func10, Tryd.ntmps10
  go_wp2_with fail
  refine (unhide HN _).mono ?_
  rintro e w1 ⟨rfl, hb1⟩
  obtain ⟨W, hW⟩ : ∃ W, W = preW w1 A := ⟨_, rfl⟩
  have HP : Hid (Pre w W w1.heap.size #[.int .i64 23, .string T.t, .int .i64 T.n, .string T.nm, .slice T.xa T.len T.cap] A) := hide (by rw [hW]; exact pre_of hb1)
  have HW := hide hW
  clear hb1 hW HN
  obtain ⟨y0, y1, y2, y3, y4⟩ := cells5 (unhide HP).pat
  go_wp2_with (first
    | (refine wpList_store_row rfl 29 _ _ rfl w1.heap.size zerosS rfl rfl 29 zerosS (at_keep3 (at_new rfl)) zerosS_info rfl zerosS_one ?_)
    | (refine wpList_store_eq rfl 29 _ _ rfl (w1.heap.size + 1) A rfl rfl 29 zerosS ((setRow_other _ _ _ _ (by omega)).trans (at_new (by simp only [World.size_alloc]))) (unhide HIA) hAs.symm hA1 (unhide HW) ?_)
    | (refine wpList_load_row rfl 29 _ rfl w1.heap.size rfl 29 zerosS (0, 0) _ (unhide HP).none Tryd.underlying29 rfl zerosS_info ?_)
    | (refine wpList_store_row rfl 29 _ _ rfl (w.heap.size + 1) zerosS rfl rfl 29 zerosS (unhide HP).res zerosS_info rfl zerosS_one ?_))
  (try simp only [Exit.inBlock, Exit.then])
  exact bodyPost_ret (results_set rfl _ _ (w.heap.size + 1) zerosS rfl (setRow_heap _ _ _ _ _ _ (unhide HP).res) zerosS_info) rfl ⟨by rw [zerosS_eq]; rfl, below_setRow (unhide HP).bel _ (by omega) _⟩

end Go.Proofs.YtjfahpklemohgaaDoor
