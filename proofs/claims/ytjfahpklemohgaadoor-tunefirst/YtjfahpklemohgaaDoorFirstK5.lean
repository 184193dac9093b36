/- tune.firstOf, by the kinds. -/
import Derived.Test.YtjfahpklemohgaaDoorFirstHead
namespace Go.Proofs.YtjfahpklemohgaaDoor
open Go.RowKit

theorem set_kept {w' : World} {z : Nat} {D : Array Value} {v0 v1 : Value} (h0 : w'.cell? ⟨z, 0, none⟩ = some v0) (h1 : w'.cell? ⟨z, 1, none⟩ = some v1) :
    (w'.setRow (z + 1) D).cell? ⟨z, 0, none⟩ = some v0 ∧ (w'.setRow (z + 1) D).cell? ⟨z, 1, none⟩ = some v1 := by
  have h : (w'.setRow (z + 1) D).heap[z]? = w'.heap[z]? := setRow_other _ _ _ _ (by omega)
  unfold World.cell? at h0 h1 ⊢
  rw [h]
  exact ⟨h0, h1⟩
theorem first_some {t : ByteArray} (h : 0 < t.size) : t.toList.isEmpty = false := by
  have hl : t.data.toList.length = t.size := by simp
  rw [ByteArray.toList_eq]
  cases hd : t.data.toList with
  | nil => rw [hd] at hl; simp at hl; omega
  | cons _ _ => rfl
theorem first_in {t : ByteArray} (h : 0 < t.size) (x : Nat) : (decide (t.size ≠ 0) && decide (x = byt t 0)) = inB (t.extract 0 1) x := by
  have hl : t.data.toList.length = t.size := by simp
  have hd : (t.extract 0 1).data.toList = t.data.toList.take 1 := by
    rw [ByteArray.data_extract]
    simp [List.extract_eq_take_drop]
  unfold inB byt
  rw [hd, decide_eq_true (show t.size ≠ 0 by omega), Bool.true_and]
  cases hq : t.data.toList with
  | nil => rw [hq] at hl; simp at hl; omega
  | cons c l =>
    show decide (x = c.toNat) = (c.toNat == x || false)
    rw [Bool.or_false]
    by_cases h : x = c.toNat
    · subst h; simp
    · rw [decide_eq_false h, show (c.toNat == x) = false from beq_eq_false_iff_ne.2 fun e => h e.symm]
set_option maxRecDepth 100000 in
set_option maxHeartbeats 1000000 in
theorem fst_k4 (T : PT) (q : T.k = 4) (w : World) (ht : T.t.size ≤ maxLen) :
    Calls Tryd.prog 10 #[pv T] w (FstPost T.fst w) := by
  have HX := hide (fst_4 (T := T) q)
  unfold pv
  rw [unhide HX, q]
  unfold FstPost
  dsimp only
  obtain ⟨D, hD⟩ : ∃ D, D = sc (fun x => !inB T.t x) := ⟨_, rfl⟩
  have hDs : D.size = 4 := by rw [hD]; rfl
  have hD1 : D.all (·.oneCell') = true := by rw [hD]; exact sc_one _
  have hiD : (Tryd.prog.info? 29).map (·.size) = some D.size := by rw [hDs]; exact size_set
  have HID := hide hiD
  have HO := hide (fun W => of_says T.t ht W)
  have HO2 := hide (fun W => not_says (inB T.t) W)
  rw [← hD] at HO2 ⊢
  obtain ⟨E, hE⟩ : ∃ E, E = sc (inB T.t) := ⟨_, rfl⟩
  rw [← hE] at HO HO2
  clear hD hiD hE ht
  obtain ⟨A, hA⟩ : ∃ A, A = sc (fun _ => true) := ⟨_, rfl⟩
  have hAs : A.size = 4 := by rw [hA]; rfl
  have hA1 : A.all (·.oneCell') = true := by rw [hA]; exact sc_one _
  have HN := hide (fun W => not_says (fun _ => false) W)
  rw [← zerosS_eq, show (fun c : Nat => !(fun _ => false : Nat → Bool) c) = fun _ => true from rfl, ← hA] at HN
  have hiA : (Tryd.prog.info? 29).map (·.size) = some A.size := by rw [hAs]; exact size_set
  have HIA := hide hiA
  have HA := hide hA
  clear hiA hA
  unfold zerosS at HN
  clear q HX
  go_enter Tryd.func10, Tryd.ntmps10
  go_wp2_with fail
  refine (unhide HN _).mono ?_
  rintro e w1 ⟨rfl, hb1⟩
  obtain ⟨W, hW⟩ : ∃ W, W = preW w1 A := ⟨_, rfl⟩
  have HP : Hid (Pre w W w1.heap.size #[.int .i64 4, .string T.t, .int .i64 T.n, .string T.nm, .slice T.xa T.len T.cap] A) := hide (by rw [hW]; exact pre_of hb1)
  have HW := hide hW
  clear hb1 hW HN
  obtain ⟨y0, y1, y2, y3, y4⟩ := cells5 (unhide HP).pat
  go_wp2_with (first
    | (refine wpList_store_row rfl 29 _ _ rfl w1.heap.size zerosS rfl rfl 29 zerosS (at_keep3 (at_new rfl)) zerosS_info rfl zerosS_one ?_)
    | (refine wpList_store_eq rfl 29 _ _ rfl (w1.heap.size + 1) A rfl rfl 29 zerosS ((setRow_other _ _ _ _ (by omega)).trans (at_new (by simp only [World.size_alloc]))) (unhide HIA) hAs.symm hA1 (unhide HW) ?_)
    | fail)
  have hA : Below W.heap.size W W.drew := (Below.refl _ _).drew
  go_region_held3 (fun w' => w'.cell? ⟨w.heap.size, 0, none⟩ = some (.int .i64 4) ∧ w'.cell? ⟨w.heap.size, 1, none⟩ = some (.string T.t))
    (first | exact ⟨cell_later hA y0, cell_later hA y1⟩ | exact hS2)
    (first
      | (go_at_call 21; (with_reducible refine (unhide HO _).mono ?_); rintro e w7 ⟨rfl, hb7⟩; have hA := bnext hA hb7; clear hb7)
      | (go_at_call 20; (with_reducible refine (unhide HO2 _).mono ?_); rintro e w7 ⟨rfl, hb7⟩; have hA := bnext hA hb7; clear hb7; have r2 := row_below (unhide HP).res hA; have hq := run_storeCells_row w7 (w.heap.size + 1) 29 29 _ D r2 (unhide HID) hDs.symm hD1; have hS2 := set_kept (D := D) (cell_later hA y0) (cell_later hA y1)))
  go_wp2_with fail
  (try simp only [Exit.inBlock, Exit.then])
  exact bodyPost_ret (results_set rfl _ _ (w.heap.size + 1) D rfl (setRow_heap _ _ _ _ _ _ r2) (unhide HID)) rfl ⟨rfl, below_setRow (bnext (unhide HP).bel hA) _ (by omega) _⟩

set_option maxRecDepth 100000 in
set_option maxHeartbeats 1000000 in
theorem fst_k6 (T : PT) (q : T.k = 6) (w : World) (ht : T.t.size ≤ maxLen) :
    Calls Tryd.prog 10 #[pv T] w (FstPost T.fst w) := by
  have HX := hide (fst_6 (T := T) q)
  unfold pv
  rw [unhide HX, q]
  unfold FstPost
  dsimp only
  obtain ⟨D, hD⟩ : ∃ D, D = sc (fun x => !inB T.t x) := ⟨_, rfl⟩
  have hDs : D.size = 4 := by rw [hD]; rfl
  have hD1 : D.all (·.oneCell') = true := by rw [hD]; exact sc_one _
  have hiD : (Tryd.prog.info? 29).map (·.size) = some D.size := by rw [hDs]; exact size_set
  have HID := hide hiD
  have HO := hide (fun W => of_says T.t ht W)
  have HO2 := hide (fun W => not_says (inB T.t) W)
  rw [← hD] at HO2 ⊢
  obtain ⟨E, hE⟩ : ∃ E, E = sc (inB T.t) := ⟨_, rfl⟩
  rw [← hE] at HO HO2
  clear hD hiD hE ht
  obtain ⟨A, hA⟩ : ∃ A, A = sc (fun _ => true) := ⟨_, rfl⟩
  have hAs : A.size = 4 := by rw [hA]; rfl
  have hA1 : A.all (·.oneCell') = true := by rw [hA]; exact sc_one _
  have HN := hide (fun W => not_says (fun _ => false) W)
  rw [← zerosS_eq, show (fun c : Nat => !(fun _ => false : Nat → Bool) c) = fun _ => true from rfl, ← hA] at HN
  have hiA : (Tryd.prog.info? 29).map (·.size) = some A.size := by rw [hAs]; exact size_set
  have HIA := hide hiA
  have HA := hide hA
  clear hiA hA
  unfold zerosS at HN
  clear q HX
  go_enter Tryd.func10, Tryd.ntmps10
  go_wp2_with fail
  refine (unhide HN _).mono ?_
  rintro e w1 ⟨rfl, hb1⟩
  obtain ⟨W, hW⟩ : ∃ W, W = preW w1 A := ⟨_, rfl⟩
  have HP : Hid (Pre w W w1.heap.size #[.int .i64 6, .string T.t, .int .i64 T.n, .string T.nm, .slice T.xa T.len T.cap] A) := hide (by rw [hW]; exact pre_of hb1)
  have HW := hide hW
  clear hb1 hW HN
  obtain ⟨y0, y1, y2, y3, y4⟩ := cells5 (unhide HP).pat
  go_wp2_with (first
    | (refine wpList_store_row rfl 29 _ _ rfl w1.heap.size zerosS rfl rfl 29 zerosS (at_keep3 (at_new rfl)) zerosS_info rfl zerosS_one ?_)
    | (refine wpList_store_eq rfl 29 _ _ rfl (w1.heap.size + 1) A rfl rfl 29 zerosS ((setRow_other _ _ _ _ (by omega)).trans (at_new (by simp only [World.size_alloc]))) (unhide HIA) hAs.symm hA1 (unhide HW) ?_)
    | fail)
  have hA : Below W.heap.size W W.drew := (Below.refl _ _).drew
  go_region_held3 (fun w' => w'.cell? ⟨w.heap.size, 0, none⟩ = some (.int .i64 6) ∧ w'.cell? ⟨w.heap.size, 1, none⟩ = some (.string T.t))
    (first | exact ⟨cell_later hA y0, cell_later hA y1⟩ | exact hS2)
    (first
      | (go_at_call 21; (with_reducible refine (unhide HO _).mono ?_); rintro e w7 ⟨rfl, hb7⟩; have hA := bnext hA hb7; clear hb7)
      | (go_at_call 20; (with_reducible refine (unhide HO2 _).mono ?_); rintro e w7 ⟨rfl, hb7⟩; have hA := bnext hA hb7; clear hb7; have r2 := row_below (unhide HP).res hA; have hq := run_storeCells_row w7 (w.heap.size + 1) 29 29 _ D r2 (unhide HID) hDs.symm hD1; have hS2 := set_kept (D := D) (cell_later hA y0) (cell_later hA y1)))
  go_wp2_with fail
  (try simp only [Exit.inBlock, Exit.then])
  exact bodyPost_ret (results_set rfl _ _ (w.heap.size + 1) D rfl (setRow_heap _ _ _ _ _ _ r2) (unhide HID)) rfl ⟨rfl, below_setRow (bnext (unhide HP).bel hA) _ (by omega) _⟩

set_option maxRecDepth 100000 in
set_option maxHeartbeats 1000000 in
theorem fst_k1a (T : PT) (q : T.k = 1) (w : World) (hz : T.t = ⟨#[]⟩) :
    Calls Tryd.prog 10 #[pv T] w (FstPost T.fst w) := by
  have HX := hide (fst_1 (T := T) q)
  unfold pv
  rw [unhide HX, q]
  unfold FstPost
  clear HX q
  rw [hz]
  have e0 : (fun x => decide ((⟨#[]⟩ : ByteArray).size ≠ 0) && decide (x = byt ⟨#[]⟩ 0)) = inB ⟨#[]⟩ := funext fun x => rfl
  rw [e0]
  dsimp only
  obtain ⟨D, hD⟩ : ∃ D, D = sc (inB ⟨#[]⟩) := ⟨_, rfl⟩
  have hDs : D.size = 4 := by rw [hD]; rfl
  have hD1 : D.all (·.oneCell') = true := by rw [hD]; exact sc_one _
  have hiD : (Tryd.prog.info? 29).map (·.size) = some D.size := by rw [hDs]; exact size_set
  have HID := hide hiD
  have HO := hide (fun W => of_says ByteArray.empty (by decide) W)
  rw [show inB ByteArray.empty = inB ⟨#[]⟩ from rfl] at HO
  rw [← hD] at HO ⊢
  clear hD hiD hz e0
  obtain ⟨A, hA⟩ : ∃ A, A = sc (fun _ => true) := ⟨_, rfl⟩
  have hAs : A.size = 4 := by rw [hA]; rfl
  have hA1 : A.all (·.oneCell') = true := by rw [hA]; exact sc_one _
  have HN := hide (fun W => not_says (fun _ => false) W)
  rw [← zerosS_eq, show (fun c : Nat => !(fun _ => false : Nat → Bool) c) = fun _ => true from rfl, ← hA] at HN
  have hiA : (Tryd.prog.info? 29).map (·.size) = some A.size := by rw [hAs]; exact size_set
  have HIA := hide hiA
  have HA := hide hA
  clear hiA hA
  unfold zerosS at HN
  go_enter Tryd.func10, Tryd.ntmps10
  go_wp2_with fail
  refine (unhide HN _).mono ?_
  rintro e w1 ⟨rfl, hb1⟩
  obtain ⟨W, hW⟩ : ∃ W, W = preW w1 A := ⟨_, rfl⟩
  have HP : Hid (Pre w W w1.heap.size #[.int .i64 1, .string ⟨#[]⟩, .int .i64 T.n, .string T.nm, .slice T.xa T.len T.cap] A) := hide (by rw [hW]; exact pre_of hb1)
  have HW := hide hW
  clear hb1 hW HN
  obtain ⟨y0, y1, y2, y3, y4⟩ := cells5 (unhide HP).pat
  go_wp2_with (first
    | (refine wpList_store_row rfl 29 _ _ rfl w1.heap.size zerosS rfl rfl 29 zerosS (at_keep3 (at_new rfl)) zerosS_info rfl zerosS_one ?_)
    | (refine wpList_store_eq rfl 29 _ _ rfl (w1.heap.size + 1) A rfl rfl 29 zerosS ((setRow_other _ _ _ _ (by omega)).trans (at_new (by simp only [World.size_alloc]))) (unhide HIA) hAs.symm hA1 (unhide HW) ?_)
    | fail)
  have hA : Below W.heap.size W W.drew := (Below.refl _ _).drew
  go_region_held3 (fun w' => w'.cell? ⟨w.heap.size, 0, none⟩ = some (.int .i64 1) ∧ w'.cell? ⟨w.heap.size, 1, none⟩ = some (.string ⟨#[]⟩))
    (first | exact ⟨cell_later hA y0, cell_later hA y1⟩ | exact hS2)
    (first
      | (go_at_call 21; (with_reducible refine (unhide HO _).mono ?_); rintro e w7 ⟨rfl, hb7⟩; have hA := bnext hA hb7; clear hb7; have r2 := row_below (unhide HP).res hA; have hq := run_storeCells_row w7 (w.heap.size + 1) 29 29 _ D r2 (unhide HID) hDs.symm hD1; have hS2 := set_kept (D := D) (cell_later hA y0) (cell_later hA y1)))
  go_wp2_with fail
  (try simp only [Exit.inBlock, Exit.then])
  exact bodyPost_ret (results_set rfl _ _ (w.heap.size + 1) D rfl (setRow_heap _ _ _ _ _ _ r2) (unhide HID)) rfl ⟨rfl, below_setRow (bnext (unhide HP).bel hA) _ (by omega) _⟩

set_option maxRecDepth 100000 in
set_option maxHeartbeats 1000000 in
theorem fst_k1b (T : PT) (q : T.k = 1) (w : World) (hz : 0 < T.t.size) :
    Calls Tryd.prog 10 #[pv T] w (FstPost T.fst w) := by
  have HX := hide (fst_1 (T := T) q)
  unfold pv
  rw [unhide HX, q]
  unfold FstPost
  clear HX q
  have e0 : (fun x => decide (T.t.size ≠ 0) && decide (x = byt T.t 0)) = inB (T.t.extract 0 1) := funext fun x => first_in hz x
  rw [e0, show decide (T.t.size = 0) = false from decide_eq_false (by omega)]
  dsimp only
  obtain ⟨D, hD⟩ : ∃ D, D = sc (inB (T.t.extract 0 1)) := ⟨_, rfl⟩
  have hDs : D.size = 4 := by rw [hD]; rfl
  have hD1 : D.all (·.oneCell') = true := by rw [hD]; exact sc_one _
  have hiD : (Tryd.prog.info? 29).map (·.size) = some D.size := by rw [hDs]; exact size_set
  have HID := hide hiD
  have HO := hide (fun W => of_says (T.t.extract 0 1) (by rw [ByteArray.size_extract]; unfold maxLen; omega) W)
  rw [← hD] at HO ⊢
  have hz2 : (1 : Int) ≤ (T.t.size : Int) := by omega
  have hz3 : 1 ≤ T.t.size := hz
  have hz4 := first_some hz
  clear hD hiD e0
  obtain ⟨A, hA⟩ : ∃ A, A = sc (fun _ => true) := ⟨_, rfl⟩
  have hAs : A.size = 4 := by rw [hA]; rfl
  have hA1 : A.all (·.oneCell') = true := by rw [hA]; exact sc_one _
  have HN := hide (fun W => not_says (fun _ => false) W)
  rw [← zerosS_eq, show (fun c : Nat => !(fun _ => false : Nat → Bool) c) = fun _ => true from rfl, ← hA] at HN
  have hiA : (Tryd.prog.info? 29).map (·.size) = some A.size := by rw [hAs]; exact size_set
  have HIA := hide hiA
  have HA := hide hA
  clear hiA hA
  unfold zerosS at HN
  go_enter Tryd.func10, Tryd.ntmps10
  go_wp2_with fail
  refine (unhide HN _).mono ?_
  rintro e w1 ⟨rfl, hb1⟩
  obtain ⟨W, hW⟩ : ∃ W, W = preW w1 A := ⟨_, rfl⟩
  have HP : Hid (Pre w W w1.heap.size #[.int .i64 1, .string T.t, .int .i64 T.n, .string T.nm, .slice T.xa T.len T.cap] A) := hide (by rw [hW]; exact pre_of hb1)
  have HW := hide hW
  clear hb1 hW HN
  obtain ⟨y0, y1, y2, y3, y4⟩ := cells5 (unhide HP).pat
  go_wp2_with (first
    | (refine wpList_store_row rfl 29 _ _ rfl w1.heap.size zerosS rfl rfl 29 zerosS (at_keep3 (at_new rfl)) zerosS_info rfl zerosS_one ?_)
    | (refine wpList_store_eq rfl 29 _ _ rfl (w1.heap.size + 1) A rfl rfl 29 zerosS ((setRow_other _ _ _ _ (by omega)).trans (at_new (by simp only [World.size_alloc]))) (unhide HIA) hAs.symm hA1 (unhide HW) ?_)
    | fail)
  have hz1 : ((T.t.size : Int) < 1) = False := eq_false (by omega)
  have hA : Below W.heap.size W W.drew := (Below.refl _ _).drew
  go_region_held3 (fun w' => w'.cell? ⟨w.heap.size, 0, none⟩ = some (.int .i64 1) ∧ w'.cell? ⟨w.heap.size, 1, none⟩ = some (.string T.t))
    (first | exact ⟨cell_later hA y0, cell_later hA y1⟩ | exact hS2)
    (first
      | (go_at_call 21; (with_reducible refine (unhide HO _).mono ?_); rintro e w7 ⟨rfl, hb7⟩; have hA := bnext hA hb7; clear hb7; have r2 := row_below (unhide HP).res hA; have hq := run_storeCells_row w7 (w.heap.size + 1) 29 29 _ D r2 (unhide HID) hDs.symm hD1; have hS2 := set_kept (D := D) (cell_later hA y0) (cell_later hA y1)))
  go_wp2_with fail
  (try simp only [Exit.inBlock, Exit.then])
  exact bodyPost_ret (results_set rfl _ _ (w.heap.size + 1) D rfl (setRow_heap _ _ _ _ _ _ r2) (unhide HID)) rfl ⟨rfl, below_setRow (bnext (unhide HP).bel hA) _ (by omega) _⟩

end Go.Proofs.YtjfahpklemohgaaDoor
