/- tune.firstOf, by the kinds. -/
import Derived.Test.YtjfahpklemohgaaDoorFirstHead
namespace Go.Proofs.YtjfahpklemohgaaDoor
open Go.RowKit

set_option maxRecDepth 100000 in
set_option maxHeartbeats 1000000 in
theorem fst_k18 (T : PT) (q : T.k = 18) (w : World) (hT : T.In w) (hF : FineS T) (hs : FCatSays T) :
    Calls Tryd.prog 10 #[pv T] w (FstPost T.fst w) := by
  have HX := hide (fst_18 (T := T) q)
  unfold pv
  rw [unhide HX, q]
  unfold FstPost
  obtain ⟨x, hx⟩ : ∃ x, x = fsCatTo (fun i => (T.kid i).fst) T.len := ⟨_, rfl⟩
  have H := hide (fun W (h : Below w.heap.size w W) => hs W (PT.In.later h hT) hF)
  rw [← hx] at H ⊢
  obtain ⟨x0, x1⟩ := x
  unfold FstPost at H
  dsimp only at H ⊢
  obtain ⟨D, hD⟩ : ∃ D, D = sc x0 := ⟨_, rfl⟩
  have hDs : D.size = 4 := by rw [hD]; rfl
  have hD1 : D.all (·.oneCell') = true := by rw [hD]; exact sc_one _
  have hiD : (Tryd.prog.info? 29).map (·.size) = some D.size := by rw [hDs]; exact size_set
  have HID := hide hiD
  rw [← hD] at H ⊢
  clear hD hiD hT hF hs hx
  obtain ⟨A, hA⟩ : ∃ A, A = sc (fun _ => true) := ⟨_, rfl⟩
  have hAs : A.size = 4 := by rw [hA]; rfl
  have hA1 : A.all (·.oneCell') = true := by rw [hA]; exact sc_one _
  have HN := hide (fun W => not_says (fun _ => false) W)
  rw [← zerosS_eq, show (fun c : Nat => !(fun _ => false : Nat → Bool) c) = fun _ => true from rfl, ← hA] at HN
  have hiA : (Tryd.prog.info? 29).map (·.size) = some A.size := by rw [hAs]; exact size_set
  have HIA := hide hiA
  have HA := hide hA
  clear hiA hA
  unfold zerosS at HN
  clear q HX
  go_enter Tryd.func10, Tryd.ntmps10
  go_wp2_with fail
  refine (unhide HN _).mono ?_
  rintro e w1 ⟨rfl, hb1⟩
  obtain ⟨W, hW⟩ : ∃ W, W = preW w1 A := ⟨_, rfl⟩
  have HP : Hid (Pre w W w1.heap.size #[.int .i64 18, .string T.t, .int .i64 T.n, .string T.nm, .slice T.xa T.len T.cap] A) := hide (by rw [hW]; exact pre_of hb1)
  have HW := hide hW
  clear hb1 hW HN
  obtain ⟨y0, y1, y2, y3, y4⟩ := cells5 (unhide HP).pat
  go_wp2_with (first
    | (refine wpList_store_row rfl 29 _ _ rfl w1.heap.size zerosS rfl rfl 29 zerosS (at_keep3 (at_new rfl)) zerosS_info rfl zerosS_one ?_)
    | (refine wpList_store_eq rfl 29 _ _ rfl (w1.heap.size + 1) A rfl rfl 29 zerosS ((setRow_other _ _ _ _ (by omega)).trans (at_new (by simp only [World.size_alloc]))) (unhide HIA) hAs.symm hA1 (unhide HW) ?_)
    | fail)
  refine (unhide H _ (unhide HP).bel).mono ?_
  rintro e w2 ⟨rfl, hb2⟩
  have r2 := row_below (unhide HP).res hb2
  have HB2 := hide (bnext (unhide HP).bel hb2)
  clear hb2 y0 y1 y2 y3 y4
  go_wp2_with (first
    | (refine wpList_store_row rfl 29 _ _ rfl (w.heap.size + 1) D rfl rfl 29 zerosS r2 (unhide HID) hDs.symm hD1 ?_))
  (try simp only [Exit.inBlock, Exit.then])
  exact bodyPost_ret (results_set rfl _ _ (w.heap.size + 1) D rfl (setRow_heap _ _ _ _ _ _ r2) (unhide HID)) rfl ⟨rfl, below_setRow (unhide HB2) _ (by omega) _⟩

set_option maxRecDepth 100000 in
set_option maxHeartbeats 1000000 in
theorem fst_k19 (T : PT) (q : T.k = 19) (w : World) (hT : T.In w) (hF : FineS T) (hs : FAltSays T) :
    Calls Tryd.prog 10 #[pv T] w (FstPost T.fst w) := by
  have HX := hide (fst_19 (T := T) q)
  unfold pv
  rw [unhide HX, q]
  unfold FstPost
  obtain ⟨x, hx⟩ : ∃ x, x = fsAltTo (fun i => (T.kid i).fst) T.len := ⟨_, rfl⟩
  have H := hide (fun W (h : Below w.heap.size w W) => hs W (PT.In.later h hT) hF)
  rw [← hx] at H ⊢
  obtain ⟨x0, x1⟩ := x
  unfold FstPost at H
  dsimp only at H ⊢
  obtain ⟨D, hD⟩ : ∃ D, D = sc x0 := ⟨_, rfl⟩
  have hDs : D.size = 4 := by rw [hD]; rfl
  have hD1 : D.all (·.oneCell') = true := by rw [hD]; exact sc_one _
  have hiD : (Tryd.prog.info? 29).map (·.size) = some D.size := by rw [hDs]; exact size_set
  have HID := hide hiD
  rw [← hD] at H ⊢
  clear hD hiD hT hF hs hx
  obtain ⟨A, hA⟩ : ∃ A, A = sc (fun _ => true) := ⟨_, rfl⟩
  have hAs : A.size = 4 := by rw [hA]; rfl
  have hA1 : A.all (·.oneCell') = true := by rw [hA]; exact sc_one _
  have HN := hide (fun W => not_says (fun _ => false) W)
  rw [← zerosS_eq, show (fun c : Nat => !(fun _ => false : Nat → Bool) c) = fun _ => true from rfl, ← hA] at HN
  have hiA : (Tryd.prog.info? 29).map (·.size) = some A.size := by rw [hAs]; exact size_set
  have HIA := hide hiA
  have HA := hide hA
  clear hiA hA
  unfold zerosS at HN
  clear q HX
  go_enter Tryd.func10, Tryd.ntmps10
  go_wp2_with fail
  refine (unhide HN _).mono ?_
  rintro e w1 ⟨rfl, hb1⟩
  obtain ⟨W, hW⟩ : ∃ W, W = preW w1 A := ⟨_, rfl⟩
  have HP : Hid (Pre w W w1.heap.size #[.int .i64 19, .string T.t, .int .i64 T.n, .string T.nm, .slice T.xa T.len T.cap] A) := hide (by rw [hW]; exact pre_of hb1)
  have HW := hide hW
  clear hb1 hW HN
  obtain ⟨y0, y1, y2, y3, y4⟩ := cells5 (unhide HP).pat
  go_wp2_with (first
    | (refine wpList_store_row rfl 29 _ _ rfl w1.heap.size zerosS rfl rfl 29 zerosS (at_keep3 (at_new rfl)) zerosS_info rfl zerosS_one ?_)
    | (refine wpList_store_eq rfl 29 _ _ rfl (w1.heap.size + 1) A rfl rfl 29 zerosS ((setRow_other _ _ _ _ (by omega)).trans (at_new (by simp only [World.size_alloc]))) (unhide HIA) hAs.symm hA1 (unhide HW) ?_)
    | fail)
  refine (unhide H _ (unhide HP).bel).mono ?_
  rintro e w2 ⟨rfl, hb2⟩
  have r2 := row_below (unhide HP).res hb2
  have HB2 := hide (bnext (unhide HP).bel hb2)
  clear hb2 y0 y1 y2 y3 y4
  go_wp2_with (first
    | (refine wpList_store_row rfl 29 _ _ rfl (w.heap.size + 1) D rfl rfl 29 zerosS r2 (unhide HID) hDs.symm hD1 ?_))
  (try simp only [Exit.inBlock, Exit.then])
  exact bodyPost_ret (results_set rfl _ _ (w.heap.size + 1) D rfl (setRow_heap _ _ _ _ _ _ r2) (unhide HID)) rfl ⟨rfl, below_setRow (unhide HB2) _ (by omega) _⟩

set_option maxRecDepth 100000 in
set_option maxHeartbeats 1000000 in
theorem fst_k21 (T : PT) (q : T.k = 21) (w : World) (hT : T.In w) (hF : FineS T) (ih : FstSays (T.kid 0)) :
    Calls Tryd.prog 10 #[pv T] w (FstPost T.fst w) := by
  have HX := hide (fst_21 (T := T) (.inl q) (hF.ok.2.2.2.2 (by omega)))
  unfold pv
  rw [unhide HX, q]
  unfold FstPost
  have hl := hF.ok.2.2.2.2 (by omega)
  obtain ⟨U, hU⟩ : ∃ U, U = T.kid 0 := ⟨_, rfl⟩
  have H := hide (fun W (h : Below w.heap.size w W) => ih W (PT.In.later h (hT.kids (by omega))) (hF.kid (by omega)))
  have hia : ∀ W, (Instr.indexAt 23 (.slice T.xa T.len T.cap) (.int .i64 0)).run Tryd.prog W = .ok (.pointer (some ⟨T.b, T.o, none⟩)) W := fun W => by
    have := kid_at hT (k := 0) (by omega) W
    simpa using this
  have HK := hide (hT.cells (i := 0) (by omega))
  rw [← hU] at H HK ⊢
  unfold PT.kv at HK
  obtain ⟨x, hx⟩ : ∃ x, x = U.fst := ⟨_, rfl⟩
  rw [← hx] at H ⊢
  unfold pv FstPost at H
  obtain ⟨x0, x1⟩ := x
  dsimp only at H ⊢
  obtain ⟨D, hD⟩ : ∃ D, D = sc x0 := ⟨_, rfl⟩
  have hDs : D.size = 4 := by rw [hD]; rfl
  have hD1 : D.all (·.oneCell') = true := by rw [hD]; exact sc_one _
  have hiD : (Tryd.prog.info? 29).map (·.size) = some D.size := by rw [hDs]; exact size_set
  have HID := hide hiD
  rw [← hD] at H ⊢
  clear hD hiD hT hF ih hU hx
  rw [hl] at hia ⊢
  clear hl
  obtain ⟨A, hA⟩ : ∃ A, A = sc (fun _ => true) := ⟨_, rfl⟩
  have hAs : A.size = 4 := by rw [hA]; rfl
  have hA1 : A.all (·.oneCell') = true := by rw [hA]; exact sc_one _
  have HN := hide (fun W => not_says (fun _ => false) W)
  rw [← zerosS_eq, show (fun c : Nat => !(fun _ => false : Nat → Bool) c) = fun _ => true from rfl, ← hA] at HN
  have hiA : (Tryd.prog.info? 29).map (·.size) = some A.size := by rw [hAs]; exact size_set
  have HIA := hide hiA
  have HA := hide hA
  clear hiA hA
  unfold zerosS at HN
  clear q HX
  go_enter Tryd.func10, Tryd.ntmps10
  go_wp2_with fail
  refine (unhide HN _).mono ?_
  rintro e w1 ⟨rfl, hb1⟩
  obtain ⟨W, hW⟩ : ∃ W, W = preW w1 A := ⟨_, rfl⟩
  have HP : Hid (Pre w W w1.heap.size #[.int .i64 21, .string T.t, .int .i64 T.n, .string T.nm, .slice T.xa 1 T.cap] A) := hide (by rw [hW]; exact pre_of hb1)
  have HW := hide hW
  clear hb1 hW HN
  obtain ⟨y0, y1, y2, y3, y4⟩ := cells5 (unhide HP).pat
  obtain ⟨k0, k1, k2, k3, k4⟩ := unhide HK
  have k0 := cell_later (unhide HP).bel k0
  have k1 := cell_later (unhide HP).bel k1
  have k2 := cell_later (unhide HP).bel k2
  have k3 := cell_later (unhide HP).bel k3
  have k4 := cell_later (unhide HP).bel k4
  simp only [Nat.zero_mul, Nat.add_zero] at k0 k1 k2 k3 k4
  clear HK
  go_wp2_with (first
    | (refine wpList_store_row rfl 29 _ _ rfl w1.heap.size zerosS rfl rfl 29 zerosS (at_keep3 (at_new rfl)) zerosS_info rfl zerosS_one ?_)
    | (refine wpList_store_eq rfl 29 _ _ rfl (w1.heap.size + 1) A rfl rfl 29 zerosS ((setRow_other _ _ _ _ (by omega)).trans (at_new (by simp only [World.size_alloc]))) (unhide HIA) hAs.symm hA1 (unhide HW) ?_)
    | fail)
  refine (unhide H _ (unhide HP).bel).mono ?_
  rintro e w2 ⟨rfl, hb2⟩
  have r2 := row_below (unhide HP).res hb2
  have HB2 := hide (bnext (unhide HP).bel hb2)
  clear hb2 y0 y1 y2 y3 y4 k0 k1 k2 k3 k4 hia
  go_wp2_with (first
    | (refine wpList_store_row rfl 29 _ _ rfl (w.heap.size + 1) D rfl rfl 29 zerosS r2 (unhide HID) hDs.symm hD1 ?_))
  (try simp only [Exit.inBlock, Exit.then])
  exact bodyPost_ret (results_set rfl _ _ (w.heap.size + 1) D rfl (setRow_heap _ _ _ _ _ _ r2) (unhide HID)) rfl ⟨rfl, below_setRow (unhide HB2) _ (by omega) _⟩

set_option maxRecDepth 100000 in
set_option maxHeartbeats 1000000 in
theorem fst_k22 (T : PT) (q : T.k = 22) (w : World) (hT : T.In w) (hF : FineS T) (ih : FstSays (T.kid 0)) :
    Calls Tryd.prog 10 #[pv T] w (FstPost T.fst w) := by
  have HX := hide (fst_21 (T := T) (.inr q) (hF.ok.2.2.2.2 (by omega)))
  unfold pv
  rw [unhide HX, q]
  unfold FstPost
  have hl := hF.ok.2.2.2.2 (by omega)
  obtain ⟨U, hU⟩ : ∃ U, U = T.kid 0 := ⟨_, rfl⟩
  have H := hide (fun W (h : Below w.heap.size w W) => ih W (PT.In.later h (hT.kids (by omega))) (hF.kid (by omega)))
  have hia : ∀ W, (Instr.indexAt 23 (.slice T.xa T.len T.cap) (.int .i64 0)).run Tryd.prog W = .ok (.pointer (some ⟨T.b, T.o, none⟩)) W := fun W => by
    have := kid_at hT (k := 0) (by omega) W
    simpa using this
  have HK := hide (hT.cells (i := 0) (by omega))
  rw [← hU] at H HK ⊢
  unfold PT.kv at HK
  obtain ⟨x, hx⟩ : ∃ x, x = U.fst := ⟨_, rfl⟩
  rw [← hx] at H ⊢
  unfold pv FstPost at H
  obtain ⟨x0, x1⟩ := x
  dsimp only at H ⊢
  obtain ⟨D, hD⟩ : ∃ D, D = sc x0 := ⟨_, rfl⟩
  have hDs : D.size = 4 := by rw [hD]; rfl
  have hD1 : D.all (·.oneCell') = true := by rw [hD]; exact sc_one _
  have hiD : (Tryd.prog.info? 29).map (·.size) = some D.size := by rw [hDs]; exact size_set
  have HID := hide hiD
  rw [← hD] at H ⊢
  clear hD hiD hT hF ih hU hx
  rw [hl] at hia ⊢
  clear hl
  obtain ⟨A, hA⟩ : ∃ A, A = sc (fun _ => true) := ⟨_, rfl⟩
  have hAs : A.size = 4 := by rw [hA]; rfl
  have hA1 : A.all (·.oneCell') = true := by rw [hA]; exact sc_one _
  have HN := hide (fun W => not_says (fun _ => false) W)
  rw [← zerosS_eq, show (fun c : Nat => !(fun _ => false : Nat → Bool) c) = fun _ => true from rfl, ← hA] at HN
  have hiA : (Tryd.prog.info? 29).map (·.size) = some A.size := by rw [hAs]; exact size_set
  have HIA := hide hiA
  have HA := hide hA
  clear hiA hA
  unfold zerosS at HN
  clear q HX
  go_enter Tryd.func10, Tryd.ntmps10
  go_wp2_with fail
  refine (unhide HN _).mono ?_
  rintro e w1 ⟨rfl, hb1⟩
  obtain ⟨W, hW⟩ : ∃ W, W = preW w1 A := ⟨_, rfl⟩
  have HP : Hid (Pre w W w1.heap.size #[.int .i64 22, .string T.t, .int .i64 T.n, .string T.nm, .slice T.xa 1 T.cap] A) := hide (by rw [hW]; exact pre_of hb1)
  have HW := hide hW
  clear hb1 hW HN
  obtain ⟨y0, y1, y2, y3, y4⟩ := cells5 (unhide HP).pat
  obtain ⟨k0, k1, k2, k3, k4⟩ := unhide HK
  have k0 := cell_later (unhide HP).bel k0
  have k1 := cell_later (unhide HP).bel k1
  have k2 := cell_later (unhide HP).bel k2
  have k3 := cell_later (unhide HP).bel k3
  have k4 := cell_later (unhide HP).bel k4
  simp only [Nat.zero_mul, Nat.add_zero] at k0 k1 k2 k3 k4
  clear HK
  go_wp2_with (first
    | (refine wpList_store_row rfl 29 _ _ rfl w1.heap.size zerosS rfl rfl 29 zerosS (at_keep3 (at_new rfl)) zerosS_info rfl zerosS_one ?_)
    | (refine wpList_store_eq rfl 29 _ _ rfl (w1.heap.size + 1) A rfl rfl 29 zerosS ((setRow_other _ _ _ _ (by omega)).trans (at_new (by simp only [World.size_alloc]))) (unhide HIA) hAs.symm hA1 (unhide HW) ?_)
    | fail)
  refine (unhide H _ (unhide HP).bel).mono ?_
  rintro e w2 ⟨rfl, hb2⟩
  have r2 := row_below (unhide HP).res hb2
  have HB2 := hide (bnext (unhide HP).bel hb2)
  clear hb2 y0 y1 y2 y3 y4 k0 k1 k2 k3 k4 hia
  go_wp2_with (first
    | (refine wpList_store_row rfl 29 _ _ rfl (w.heap.size + 1) D rfl rfl 29 zerosS r2 (unhide HID) hDs.symm hD1 ?_))
  (try simp only [Exit.inBlock, Exit.then])
  exact bodyPost_ret (results_set rfl _ _ (w.heap.size + 1) D rfl (setRow_heap _ _ _ _ _ _ r2) (unhide HID)) rfl ⟨rfl, below_setRow (unhide HB2) _ (by omega) _⟩

set_option maxRecDepth 100000 in
set_option maxHeartbeats 1000000 in
theorem fst_k20 (T : PT) (q : T.k = 20) (w : World) (hT : T.In w) (hF : FineS T) (ih : FstSays (T.kid 0)) :
    Calls Tryd.prog 10 #[pv T] w (FstPost T.fst w) := by
  have HX := hide (fst_20 (T := T) q (hF.ok.2.2.2.2 (by omega)))
  unfold pv
  rw [unhide HX, q]
  unfold FstPost
  have hl := hF.ok.2.2.2.2 (by omega)
  obtain ⟨U, hU⟩ : ∃ U, U = T.kid 0 := ⟨_, rfl⟩
  have H := hide (fun W (h : Below w.heap.size w W) => ih W (PT.In.later h (hT.kids (by omega))) (hF.kid (by omega)))
  have hia : ∀ W, (Instr.indexAt 23 (.slice T.xa T.len T.cap) (.int .i64 0)).run Tryd.prog W = .ok (.pointer (some ⟨T.b, T.o, none⟩)) W := fun W => by
    have := kid_at hT (k := 0) (by omega) W
    simpa using this
  have HK := hide (hT.cells (i := 0) (by omega))
  rw [← hU] at H HK ⊢
  unfold PT.kv at HK
  obtain ⟨x, hx⟩ : ∃ x, x = U.fst := ⟨_, rfl⟩
  rw [← hx] at H ⊢
  unfold pv FstPost at H
  obtain ⟨x0, x1⟩ := x
  dsimp only at H ⊢
  obtain ⟨D, hD⟩ : ∃ D, D = sc x0 := ⟨_, rfl⟩
  have hDs : D.size = 4 := by rw [hD]; rfl
  have hD1 : D.all (·.oneCell') = true := by rw [hD]; exact sc_one _
  have hiD : (Tryd.prog.info? 29).map (·.size) = some D.size := by rw [hDs]; exact size_set
  have HID := hide hiD
  rw [← hD] at H ⊢
  clear hD hiD hT hF ih hU hx
  rw [hl] at hia ⊢
  clear hl
  obtain ⟨A, hA⟩ : ∃ A, A = sc (fun _ => true) := ⟨_, rfl⟩
  have hAs : A.size = 4 := by rw [hA]; rfl
  have hA1 : A.all (·.oneCell') = true := by rw [hA]; exact sc_one _
  have HN := hide (fun W => not_says (fun _ => false) W)
  rw [← zerosS_eq, show (fun c : Nat => !(fun _ => false : Nat → Bool) c) = fun _ => true from rfl, ← hA] at HN
  have hiA : (Tryd.prog.info? 29).map (·.size) = some A.size := by rw [hAs]; exact size_set
  have HIA := hide hiA
  have HA := hide hA
  clear hiA hA
  unfold zerosS at HN
  clear q HX
  go_enter Tryd.func10, Tryd.ntmps10
  go_wp2_with fail
  refine (unhide HN _).mono ?_
  rintro e w1 ⟨rfl, hb1⟩
  obtain ⟨W, hW⟩ : ∃ W, W = preW w1 A := ⟨_, rfl⟩
  have HP : Hid (Pre w W w1.heap.size #[.int .i64 20, .string T.t, .int .i64 T.n, .string T.nm, .slice T.xa 1 T.cap] A) := hide (by rw [hW]; exact pre_of hb1)
  have HW := hide hW
  clear hb1 hW HN
  obtain ⟨y0, y1, y2, y3, y4⟩ := cells5 (unhide HP).pat
  obtain ⟨k0, k1, k2, k3, k4⟩ := unhide HK
  have k0 := cell_later (unhide HP).bel k0
  have k1 := cell_later (unhide HP).bel k1
  have k2 := cell_later (unhide HP).bel k2
  have k3 := cell_later (unhide HP).bel k3
  have k4 := cell_later (unhide HP).bel k4
  simp only [Nat.zero_mul, Nat.add_zero] at k0 k1 k2 k3 k4
  clear HK
  go_wp2_with (first
    | (refine wpList_store_row rfl 29 _ _ rfl w1.heap.size zerosS rfl rfl 29 zerosS (at_keep3 (at_new rfl)) zerosS_info rfl zerosS_one ?_)
    | (refine wpList_store_eq rfl 29 _ _ rfl (w1.heap.size + 1) A rfl rfl 29 zerosS ((setRow_other _ _ _ _ (by omega)).trans (at_new (by simp only [World.size_alloc]))) (unhide HIA) hAs.symm hA1 (unhide HW) ?_)
    | fail)
  refine (unhide H _ (unhide HP).bel).mono ?_
  rintro e w2 ⟨rfl, hb2⟩
  have r2 := row_below (unhide HP).res hb2
  have HB2 := hide (bnext (unhide HP).bel hb2)
  clear hb2 y0 y1 y2 y3 y4 k0 k1 k2 k3 k4 hia
  have r3 := setRow_heap w2 (w.heap.size + 1) zerosS D _ _ r2
  have HB3 := hide (below_setRow (unhide HB2) (w.heap.size + 1) (by omega) D)
  obtain ⟨w3, hw3⟩ : ∃ w3, w3 = w2.setRow (w.heap.size + 1) D := ⟨_, rfl⟩
  rw [← hw3] at r3 HB3
  have HW3 := hide hw3
  clear hw3
  go_wp2_with (first
    | (refine wpList_store_eq rfl 29 _ _ rfl (w.heap.size + 1) D rfl rfl 29 zerosS r2 (unhide HID) hDs.symm hD1 (unhide HW3) ?_)
    | (refine wpList_load_row rfl 29 _ rfl (w.heap.size + 1) rfl 29 D (0, 0) _ r3 Tryd.underlying29 rfl (unhide HID) ?_)
    | (refine wpList_store_row rfl 29 _ _ rfl (w.heap.size + 1) D rfl rfl 29 D r3 (unhide HID) rfl hD1 ?_))
  (try simp only [Exit.inBlock, Exit.then])
  exact bodyPost_ret (results_set rfl _ _ (w.heap.size + 1) D rfl (setRow_heap _ _ _ _ _ _ r3) (unhide HID)) rfl ⟨rfl, below_setRow (unhide HB3) _ (by omega) _⟩

end Go.Proofs.YtjfahpklemohgaaDoor
