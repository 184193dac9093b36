/- tune.firstOf, by the kinds. -/
import Derived.Test.YtjfahpklemohgaaDoorFirstHead
namespace Go.Proofs.YtjfahpklemohgaaDoor
open Go.RowKit

set_option maxRecDepth 100000 in
set_option maxHeartbeats 1000000 in
theorem fst_k2a (T : PT) (q : T.k = 2) (hn : T.n = 0) (w : World) :
    Calls Tryd.prog 10 #[pv T] w (FstPost T.fst w) := by
  have HX := hide (fst_2 (T := T) q)
  unfold pv
  rw [unhide HX, q]
  unfold FstPost
  rw [if_pos hn, hn]
  clear hn
  obtain ⟨A, hA⟩ : ∃ A, A = sc (fun _ => true) := ⟨_, rfl⟩
  have hAs : A.size = 4 := by rw [hA]; rfl
  have hA1 : A.all (·.oneCell') = true := by rw [hA]; exact sc_one _
  have HN := hide (fun W => not_says (fun _ => false) W)
  rw [← zerosS_eq, show (fun c : Nat => !(fun _ => false : Nat → Bool) c) = fun _ => true from rfl, ← hA] at HN
  have hiA : (Tryd.prog.info? 29).map (·.size) = some A.size := by rw [hAs]; exact size_set
  have HIA := hide hiA
  have HA := hide hA
  clear hiA hA
  unfold zerosS at HN
  clear q HX
  go_enter Tryd.func10, Tryd.ntmps10
  go_wp2_with fail
  refine (unhide HN _).mono ?_
  rintro e w1 ⟨rfl, hb1⟩
  obtain ⟨W, hW⟩ : ∃ W, W = preW w1 A := ⟨_, rfl⟩
  have HP : Hid (Pre w W w1.heap.size #[.int .i64 2, .string T.t, .int .i64 0, .string T.nm, .slice T.xa T.len T.cap] A) := hide (by rw [hW]; exact pre_of hb1)
  have HW := hide hW
  clear hb1 hW HN
  obtain ⟨y0, y1, y2, y3, y4⟩ := cells5 (unhide HP).pat
  go_wp2_with (first
    | (refine wpList_store_row rfl 29 _ _ rfl w1.heap.size zerosS rfl rfl 29 zerosS (at_keep3 (at_new rfl)) zerosS_info rfl zerosS_one ?_)
    | (refine wpList_store_eq rfl 29 _ _ rfl (w1.heap.size + 1) A rfl rfl 29 zerosS ((setRow_other _ _ _ _ (by omega)).trans (at_new (by simp only [World.size_alloc]))) (unhide HIA) hAs.symm hA1 (unhide HW) ?_)
    | (refine wpList_load_row rfl 29 _ rfl w1.heap.size rfl 29 zerosS (0, 0) _ (unhide HP).none Tryd.underlying29 rfl zerosS_info ?_)
    | (refine wpList_store_row rfl 29 _ _ rfl (w.heap.size + 1) zerosS rfl rfl 29 zerosS (unhide HP).res zerosS_info rfl zerosS_one ?_))
  (try simp only [Exit.inBlock, Exit.then])
  exact bodyPost_ret (results_set rfl _ _ (w.heap.size + 1) zerosS rfl (setRow_heap _ _ _ _ _ _ (unhide HP).res) zerosS_info) rfl ⟨by rw [zerosS_eq]; rfl, below_setRow (unhide HP).bel _ (by omega) _⟩

set_option maxRecDepth 100000 in
set_option maxHeartbeats 1000000 in
theorem fst_k2b (T : PT) (q : T.k = 2) (hn : ¬ T.n = 0) (w : World) :
    Calls Tryd.prog 10 #[pv T] w (FstPost T.fst w) := by
  have HX := hide (fst_2 (T := T) q)
  unfold pv
  rw [unhide HX, q]
  unfold FstPost
  rw [if_neg hn]
  have hnb : (T.n == 0) = false := by simp [hn]
  obtain ⟨A, hA⟩ : ∃ A, A = sc (fun _ => true) := ⟨_, rfl⟩
  have hAs : A.size = 4 := by rw [hA]; rfl
  have hA1 : A.all (·.oneCell') = true := by rw [hA]; exact sc_one _
  have HN := hide (fun W => not_says (fun _ => false) W)
  rw [← zerosS_eq, show (fun c : Nat => !(fun _ => false : Nat → Bool) c) = fun _ => true from rfl, ← hA] at HN
  have hiA : (Tryd.prog.info? 29).map (·.size) = some A.size := by rw [hAs]; exact size_set
  have HIA := hide hiA
  have HA := hide hA
  clear hiA hA
  unfold zerosS at HN
  clear q HX
  go_enter Tryd.func10, Tryd.ntmps10
  go_wp2_with fail
  refine (unhide HN _).mono ?_
  rintro e w1 ⟨rfl, hb1⟩
  obtain ⟨W, hW⟩ : ∃ W, W = preW w1 A := ⟨_, rfl⟩
  have HP : Hid (Pre w W w1.heap.size #[.int .i64 2, .string T.t, .int .i64 T.n, .string T.nm, .slice T.xa T.len T.cap] A) := hide (by rw [hW]; exact pre_of hb1)
  have HW := hide hW
  clear hb1 hW HN
  obtain ⟨y0, y1, y2, y3, y4⟩ := cells5 (unhide HP).pat
  go_wp2_with (first
    | (refine wpList_store_row rfl 29 _ _ rfl w1.heap.size zerosS rfl rfl 29 zerosS (at_keep3 (at_new rfl)) zerosS_info rfl zerosS_one ?_)
    | (refine wpList_store_eq rfl 29 _ _ rfl (w1.heap.size + 1) A rfl rfl 29 zerosS ((setRow_other _ _ _ _ (by omega)).trans (at_new (by simp only [World.size_alloc]))) (unhide HIA) hAs.symm hA1 (unhide HW) ?_)
    | (refine wpList_load_row rfl 29 _ rfl (w1.heap.size + 1) rfl 29 A (0, 0) _ (unhide HP).all Tryd.underlying29 rfl (unhide HIA) ?_)
    | (refine wpList_store_row rfl 29 _ _ rfl (w.heap.size + 1) A rfl rfl 29 zerosS (unhide HP).res (unhide HIA) hAs.symm hA1 ?_))
  (try simp only [Exit.inBlock, Exit.then])
  exact bodyPost_ret (results_set rfl _ _ (w.heap.size + 1) A rfl (setRow_heap _ _ _ _ _ _ (unhide HP).res) (unhide HIA)) rfl ⟨by rw [unhide HA]; rfl, below_setRow (unhide HP).bel _ (by omega) _⟩

set_option maxRecDepth 100000 in
set_option maxHeartbeats 1000000 in
theorem fst_k3 (T : PT) (q : T.k = 3) (w : World) (ht : T.t.size ≤ maxLen) :
    Calls Tryd.prog 10 #[pv T] w (FstPost T.fst w) := by
  have HX := hide (fst_3 (T := T) (.inl q))
  unfold pv
  rw [unhide HX, q]
  unfold FstPost
  dsimp only
  obtain ⟨D, hD⟩ : ∃ D, D = sc (inB T.t) := ⟨_, rfl⟩
  have hDs : D.size = 4 := by rw [hD]; rfl
  have hD1 : D.all (·.oneCell') = true := by rw [hD]; exact sc_one _
  have hiD : (Tryd.prog.info? 29).map (·.size) = some D.size := by rw [hDs]; exact size_set
  have HID := hide hiD
  have HO := hide (fun W => of_says T.t ht W)
  have e0 : (sc fun x => inB T.t x) = sc (inB T.t) := rfl
  rw [e0]
  clear e0
  rw [← hD] at HO ⊢
  clear hD hiD ht
  obtain ⟨A, hA⟩ : ∃ A, A = sc (fun _ => true) := ⟨_, rfl⟩
  have hAs : A.size = 4 := by rw [hA]; rfl
  have hA1 : A.all (·.oneCell') = true := by rw [hA]; exact sc_one _
  have HN := hide (fun W => not_says (fun _ => false) W)
  rw [← zerosS_eq, show (fun c : Nat => !(fun _ => false : Nat → Bool) c) = fun _ => true from rfl, ← hA] at HN
  have hiA : (Tryd.prog.info? 29).map (·.size) = some A.size := by rw [hAs]; exact size_set
  have HIA := hide hiA
  have HA := hide hA
  clear hiA hA
  unfold zerosS at HN
  clear q HX
  go_enter Tryd.func10, Tryd.ntmps10
  go_wp2_with fail
  refine (unhide HN _).mono ?_
  rintro e w1 ⟨rfl, hb1⟩
  obtain ⟨W, hW⟩ : ∃ W, W = preW w1 A := ⟨_, rfl⟩
  have HP : Hid (Pre w W w1.heap.size #[.int .i64 3, .string T.t, .int .i64 T.n, .string T.nm, .slice T.xa T.len T.cap] A) := hide (by rw [hW]; exact pre_of hb1)
  have HW := hide hW
  clear hb1 hW HN
  obtain ⟨y0, y1, y2, y3, y4⟩ := cells5 (unhide HP).pat
  go_wp2_with (first
    | (refine wpList_store_row rfl 29 _ _ rfl w1.heap.size zerosS rfl rfl 29 zerosS (at_keep3 (at_new rfl)) zerosS_info rfl zerosS_one ?_)
    | (refine wpList_store_eq rfl 29 _ _ rfl (w1.heap.size + 1) A rfl rfl 29 zerosS ((setRow_other _ _ _ _ (by omega)).trans (at_new (by simp only [World.size_alloc]))) (unhide HIA) hAs.symm hA1 (unhide HW) ?_)
    | fail)
  refine (unhide HO _).mono ?_
  rintro e w2 ⟨rfl, hb2⟩
  have r2 := row_below (unhide HP).res hb2
  have HB2 := hide (bnext (unhide HP).bel hb2)
  clear hb2 y0 y1 y2 y3 y4
  go_wp2_with (first
    | (refine wpList_store_row rfl 29 _ _ rfl (w.heap.size + 1) D rfl rfl 29 zerosS r2 (unhide HID) hDs.symm hD1 ?_))
  (try simp only [Exit.inBlock, Exit.then])
  exact bodyPost_ret (results_set rfl _ _ (w.heap.size + 1) D rfl (setRow_heap _ _ _ _ _ _ r2) (unhide HID)) rfl ⟨rfl, below_setRow (unhide HB2) _ (by omega) _⟩

set_option maxRecDepth 100000 in
set_option maxHeartbeats 1000000 in
theorem fst_k5 (T : PT) (q : T.k = 5) (w : World) (ht : T.t.size ≤ maxLen) :
    Calls Tryd.prog 10 #[pv T] w (FstPost T.fst w) := by
  have HX := hide (fst_3 (T := T) (.inr q))
  unfold pv
  rw [unhide HX, q]
  unfold FstPost
  dsimp only
  obtain ⟨D, hD⟩ : ∃ D, D = sc (inB T.t) := ⟨_, rfl⟩
  have hDs : D.size = 4 := by rw [hD]; rfl
  have hD1 : D.all (·.oneCell') = true := by rw [hD]; exact sc_one _
  have hiD : (Tryd.prog.info? 29).map (·.size) = some D.size := by rw [hDs]; exact size_set
  have HID := hide hiD
  have HO := hide (fun W => of_says T.t ht W)
  have e0 : (sc fun x => inB T.t x) = sc (inB T.t) := rfl
  rw [e0]
  clear e0
  rw [← hD] at HO ⊢
  clear hD hiD ht
  obtain ⟨A, hA⟩ : ∃ A, A = sc (fun _ => true) := ⟨_, rfl⟩
  have hAs : A.size = 4 := by rw [hA]; rfl
  have hA1 : A.all (·.oneCell') = true := by rw [hA]; exact sc_one _
  have HN := hide (fun W => not_says (fun _ => false) W)
  rw [← zerosS_eq, show (fun c : Nat => !(fun _ => false : Nat → Bool) c) = fun _ => true from rfl, ← hA] at HN
  have hiA : (Tryd.prog.info? 29).map (·.size) = some A.size := by rw [hAs]; exact size_set
  have HIA := hide hiA
  have HA := hide hA
  clear hiA hA
  unfold zerosS at HN
  clear q HX
  go_enter Tryd.func10, Tryd.ntmps10
  go_wp2_with fail
  refine (unhide HN _).mono ?_
  rintro e w1 ⟨rfl, hb1⟩
  obtain ⟨W, hW⟩ : ∃ W, W = preW w1 A := ⟨_, rfl⟩
  have HP : Hid (Pre w W w1.heap.size #[.int .i64 5, .string T.t, .int .i64 T.n, .string T.nm, .slice T.xa T.len T.cap] A) := hide (by rw [hW]; exact pre_of hb1)
  have HW := hide hW
  clear hb1 hW HN
  obtain ⟨y0, y1, y2, y3, y4⟩ := cells5 (unhide HP).pat
  go_wp2_with (first
    | (refine wpList_store_row rfl 29 _ _ rfl w1.heap.size zerosS rfl rfl 29 zerosS (at_keep3 (at_new rfl)) zerosS_info rfl zerosS_one ?_)
    | (refine wpList_store_eq rfl 29 _ _ rfl (w1.heap.size + 1) A rfl rfl 29 zerosS ((setRow_other _ _ _ _ (by omega)).trans (at_new (by simp only [World.size_alloc]))) (unhide HIA) hAs.symm hA1 (unhide HW) ?_)
    | fail)
  refine (unhide HO _).mono ?_
  rintro e w2 ⟨rfl, hb2⟩
  have r2 := row_below (unhide HP).res hb2
  have HB2 := hide (bnext (unhide HP).bel hb2)
  clear hb2 y0 y1 y2 y3 y4
  go_wp2_with (first
    | (refine wpList_store_row rfl 29 _ _ rfl (w.heap.size + 1) D rfl rfl 29 zerosS r2 (unhide HID) hDs.symm hD1 ?_))
  (try simp only [Exit.inBlock, Exit.then])
  exact bodyPost_ret (results_set rfl _ _ (w.heap.size + 1) D rfl (setRow_heap _ _ _ _ _ _ r2) (unhide HID)) rfl ⟨rfl, below_setRow (unhide HB2) _ (by omega) _⟩

set_option maxRecDepth 100000 in
set_option maxHeartbeats 1000000 in
theorem fst_k14 (T : PT) (q : T.k = 14) (w : World) :
    Calls Tryd.prog 10 #[pv T] w (FstPost T.fst w) := by
  have HX := hide (fst_14 (T := T) q)
  unfold pv
  rw [unhide HX, q]
  unfold FstPost
  dsimp only
  obtain ⟨D, hD⟩ : ∃ D, D = sc (fun x => decide (x ≠ 41)) := ⟨_, rfl⟩
  have hDs : D.size = 4 := by rw [hD]; rfl
  have hD1 : D.all (·.oneCell') = true := by rw [hD]; exact sc_one _
  have hiD : (Tryd.prog.info? 29).map (·.size) = some D.size := by rw [hDs]; exact size_set
  have HID := hide hiD
  have e0 : (fun c => !inB ⟨#[41]⟩ c) = fun x : Nat => decide (x ≠ 41) := funext fun x => by
    rw [show inB ⟨#[41]⟩ x = ((41 : Nat) == x || false) from rfl, Bool.or_false]
    by_cases h : x = 41
    · subst h; rfl
    · rw [decide_eq_true h, show ((41 : Nat) == x) = false from beq_eq_false_iff_ne.2 fun e => h e.symm]; rfl
  have HO := hide (fun W => of_says ⟨#[41]⟩ (by decide) W)
  have HO2 := hide (fun W => not_says (inB ⟨#[41]⟩) W)
  rw [e0] at HO2
  rw [← hD] at HO2 ⊢
  obtain ⟨E, hE⟩ : ∃ E, E = sc (inB ⟨#[41]⟩) := ⟨_, rfl⟩
  rw [← hE] at HO HO2
  clear hD hiD e0 hE
  obtain ⟨A, hA⟩ : ∃ A, A = sc (fun _ => true) := ⟨_, rfl⟩
  have hAs : A.size = 4 := by rw [hA]; rfl
  have hA1 : A.all (·.oneCell') = true := by rw [hA]; exact sc_one _
  have HN := hide (fun W => not_says (fun _ => false) W)
  rw [← zerosS_eq, show (fun c : Nat => !(fun _ => false : Nat → Bool) c) = fun _ => true from rfl, ← hA] at HN
  have hiA : (Tryd.prog.info? 29).map (·.size) = some A.size := by rw [hAs]; exact size_set
  have HIA := hide hiA
  have HA := hide hA
  clear hiA hA
  unfold zerosS at HN
  clear q HX
  go_enter Tryd.func10, Tryd.ntmps10
  go_wp2_with fail
  refine (unhide HN _).mono ?_
  rintro e w1 ⟨rfl, hb1⟩
  obtain ⟨W, hW⟩ : ∃ W, W = preW w1 A := ⟨_, rfl⟩
  have HP : Hid (Pre w W w1.heap.size #[.int .i64 14, .string T.t, .int .i64 T.n, .string T.nm, .slice T.xa T.len T.cap] A) := hide (by rw [hW]; exact pre_of hb1)
  have HW := hide hW
  clear hb1 hW HN
  obtain ⟨y0, y1, y2, y3, y4⟩ := cells5 (unhide HP).pat
  go_wp2_with (first
    | (refine wpList_store_row rfl 29 _ _ rfl w1.heap.size zerosS rfl rfl 29 zerosS (at_keep3 (at_new rfl)) zerosS_info rfl zerosS_one ?_)
    | (refine wpList_store_eq rfl 29 _ _ rfl (w1.heap.size + 1) A rfl rfl 29 zerosS ((setRow_other _ _ _ _ (by omega)).trans (at_new (by simp only [World.size_alloc]))) (unhide HIA) hAs.symm hA1 (unhide HW) ?_)
    | fail)
  refine (unhide HO _).mono ?_
  rintro e w2 ⟨rfl, hb2⟩
  have r1 := row_below (unhide HP).res hb2
  have HB1 := hide (bnext (unhide HP).bel hb2)
  clear hb2 y0 y1 y2 y3 y4
  go_wp2_with fail
  refine (unhide HO2 _).mono ?_
  rintro e w3 ⟨rfl, hb3⟩
  have r2 := row_below r1 hb3
  have HB2 := hide (bnext (unhide HB1) hb3)
  clear hb3 r1
  go_wp2_with (first
    | (refine wpList_store_row rfl 29 _ _ rfl (w.heap.size + 1) D rfl rfl 29 zerosS r2 (unhide HID) hDs.symm hD1 ?_))
  (try simp only [Exit.inBlock, Exit.then])
  exact bodyPost_ret (results_set rfl _ _ (w.heap.size + 1) D rfl (setRow_heap _ _ _ _ _ _ r2) (unhide HID)) rfl ⟨rfl, below_setRow (unhide HB2) _ (by omega) _⟩

end Go.Proofs.YtjfahpklemohgaaDoor
