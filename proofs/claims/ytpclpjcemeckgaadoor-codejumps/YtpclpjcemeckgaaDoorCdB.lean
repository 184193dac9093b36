/- The instruction behind those of an expression's kids. -/
import Derived.Test.YtpclpjcemeckgaaDoorCdA
namespace Go.Proofs.YtpclpjcemeckgaaDoor
open Go.RowKit

/-- An expression lies at a place. -/
def XAt (w : World) (g o : Nat) (T : PT) : Prop := w.cell? ⟨g, o, none⟩ = some (.int .i64 T.k) ∧ w.cell? ⟨g, o + 1, none⟩ = some (.string T.t) ∧ w.cell? ⟨g, o + 2, none⟩ = some (.int .i64 T.n) ∧ w.cell? ⟨g, o + 3, none⟩ = some (.string T.nm) ∧ w.cell? ⟨g, o + 4, none⟩ = some (.slice T.xa T.len T.cap)
structure XE (B : Nat) (w : World) (g o : Nat) (T : PT) : Prop where
  at_ : ∀ W, Below B w W → XAt W g o T
  in_ : ∀ W, Below B w W → T.In W
  ten : ∀ W, Below B w W → TensAt W
theorem XE.next {B : Nat} {w w' : World} {g o : Nat} {T : PT} (h : XE B w g o T) (hb : Below B w w') : XE B w' g o T := ⟨fun W q => h.at_ W (hb.trans q), fun W q => h.in_ W (hb.trans q), fun W q => h.ten W (hb.trans q)⟩
theorem XE.kid {B : Nat} {w : World} {g o : Nat} {T : PT} (h : XE B w g o T) {i : Nat} (hi : i < T.len) : XE B w T.b (T.o + i * 5) (T.kid i) := ⟨fun W q => ((h.in_ W q).cells hi), fun W q => (h.in_ W q).kids hi, h.ten⟩
theorem one4 (x : IN) : (iA x).all (·.oneCell') = true := by simp [iA, Value.oneCell']
theorem one4' (a : Int) (s : ByteArray) (b c : Int) : (#[Value.int .i64 a, .string s, .int .i64 b, .int .i64 c] : Array Value).all (·.oneCell') = true := by simp [Value.oneCell']
theorem XE.cells {B : Nat} {w : World} {g o : Nat} {T : PT} (h : XE B w g o T) : XAt w g o T := h.at_ w (Below.refl _ _)
theorem xat_later {w w' : World} {g o : Nat} {T : PT} (h : XAt w g o T) (hb : Below w.heap.size w w') : XAt w' g o T := ⟨cell_later hb h.1, cell_later hb h.2.1, cell_later hb h.2.2.1, cell_later hb h.2.2.2.1, cell_later hb h.2.2.2.2⟩
set_option maxRecDepth 100000 in
set_option maxHeartbeats 4000000 in
theorem named_in (op : Int) {g o : Nat} {T : PT} (w : World) (h : XAt w g o T) (hs : T.nm.size ≤ 1000000) :
    Calls Tryd.prog 34 #[.int .i64 op, .pointer (some ⟨g, o, none⟩)] w fun e w' => e = .returned (.agg #[.int .i64 op, .string T.nm, .int .i64 0, .int .i64 0]) ∧ Below w.heap.size w w' := by
  obtain ⟨w1, hw1⟩ : ∃ w1, w1 = w.alloc (.cells #[.int .i64 0, .string ⟨#[]⟩, .int .i64 0, .int .i64 0] 33) := ⟨_, rfl⟩
  have hb1 : Below w.heap.size w w1 := by rw [hw1]; exact (Below.refl _ _).alloc (Nat.le_refl _) _
  have hx1 : w1.heap[w.heap.size]? = some (.cells #[.int .i64 0, .string ⟨#[]⟩, .int .i64 0, .int .i64 0] 33 (0, 0)) := by rw [hw1]; exact at_new rfl
  have c3 := h.2.2.2.1
  have hgl : g < w.heap.size := World.block_lt_of_cell? _ _ h.1
  have HB1 := hide hb1
  have HX1 := hide hx1
  have HW1 := hide hw1
  have HCL := hide (clone_any T.nm w1 hs)
  clear h hb1 hx1 hw1
  go_enter Tryd.func34, Tryd.ntmps34
  go_wp2_with fail
  rw [show w.alloc (.cells #[.int .i64 0, .string ⟨#[]⟩, .int .i64 0, .int .i64 0] 33) = w1 from (unhide HW1).symm]
  refine (unhide HCL).mono ?_
  rintro e w2 ⟨rfl, hb2⟩
  have HX2 := hide (row_below (unhide HX1) hb2)
  have HZ := hide (show Below w.heap.size w (w2.setRow w.heap.size #[.int .i64 op, .string T.nm, .int .i64 0, .int .i64 0]) from below_row1 (bnext (unhide HB1) hb2) (Nat.le_refl _))
  clear hb2
  go_wp2_with (first
    | (refine wpList_store_row rfl 33 _ _ rfl w.heap.size #[.int .i64 op, .string T.nm, .int .i64 0, .int .i64 0] rfl rfl 33 _ (unhide HX2) size_instr rfl (one4' _ _ _ _) ?_)
    | fail)
  refine bodyPost_ret (results_cell_row (p := 4) (ty := 33) rfl _ _ w.heap.size 33 #[.int .i64 op, .string T.nm, .int .i64 0, .int .i64 0] (0, 0) _ rfl (row_setRow (unhide HX2)) Tryd.underlying33 rfl size_instr) rfl ?_
  exact ⟨rfl, unhide HZ⟩
set_option maxRecDepth 100000 in
set_option maxHeartbeats 4000000 in
theorem call_in {g o : Nat} {T : PT} (w : World) (h : XAt w g o T) (hs : T.nm.size ≤ 1000000) :
    Calls Tryd.prog 45 #[.pointer (some ⟨g, o, none⟩)] w fun e w' => e = .returned (.agg #[.int .i64 (callOp T.nm), .string T.nm, .int .i64 (T.len : Int), .int .i64 0]) ∧ Below w.heap.size w w' := by
  obtain ⟨w1, hw1⟩ : ∃ w1, w1 = w.alloc (.cells #[.int .i64 0, .string ⟨#[]⟩, .int .i64 0, .int .i64 0] 33) := ⟨_, rfl⟩
  have hb1 : Below w.heap.size w w1 := by rw [hw1]; exact (Below.refl _ _).alloc (Nat.le_refl _) _
  have hx1 : w1.heap[w.heap.size]? = some (.cells #[.int .i64 0, .string ⟨#[]⟩, .int .i64 0, .int .i64 0] 33 (0, 0)) := by rw [hw1]; exact at_new rfl
  have hx := xat_later h hb1
  have c3 := h.2.2.2.1
  have hgl : g < w.heap.size := World.block_lt_of_cell? _ _ h.1
  have e3 := hx.2.2.2.1
  have HXA := hide hx
  have HB1 := hide hb1
  have HX1 := hide hx1
  have HW1 := hide hw1
  have HOP := hide (show callOp T.nm = if 0 ≤ blt T.nm then 7 else 8 from rfl)
  have HBU := hide (builtin_any T.nm w1)
  have HNM := hide (fun op => named_in op w1 hx hs)
  generalize callOp T.nm = op at *
  generalize blt T.nm = bn at *
  clear h hb1 hx1 hw1 hx
  go_enter Tryd.func45, Tryd.ntmps45
  go_wp2_with fail
  rw [show w.alloc (.cells #[.int .i64 0, .string ⟨#[]⟩, .int .i64 0, .int .i64 0] 33) = w1 from (unhide HW1).symm]
  refine (unhide HBU).mono ?_
  rintro e w1 ⟨rfl, rfl⟩
  by_cases hq : 0 ≤ bn
  · have HO := hide (show op = 7 by rw [unhide HOP, if_pos hq])
    go_wp2_with fail
    refine (unhide HNM 7).mono ?_
    rintro e w2 ⟨rfl, hb2⟩
    have HX2 := hide (row_below (unhide HX1) hb2)
    have c4 := (xat_later (unhide HXA) hb2).2.2.2.2
    have hlt : w.heap.size < w2.heap.size := (Array.getElem?_eq_some_iff.1 (unhide HX2)).1
    have HB2 := hide (bnext (unhide HB1) hb2)
    obtain ⟨w3, hw3⟩ : ∃ w3, w3 = w2.alloc (.cells #[.int .i64 7, .string T.nm, .int .i64 0, .int .i64 0] 33) := ⟨_, rfl⟩
    have hb3 : Below w2.heap.size w2 w3 := by rw [hw3]; exact (Below.refl _ _).alloc (Nat.le_refl _) _
    have hx3 : w3.heap[w2.heap.size]? = some (.cells #[.int .i64 7, .string T.nm, .int .i64 0, .int .i64 0] 33 (0, 0)) := by rw [hw3]; exact at_new rfl
    have d4 := cell_later hb3 c4
    have d2 : w3.cell? ⟨w2.heap.size, 2, none⟩ = some (.int .i64 0) := by rw [cell_of_row _ _ _ _ _ _ hx3]; rfl
    have f2 := frozen_of_row w3 w2.heap.size 2 _ _ hx3
    have HX4 := hide (show (w3.setCell ⟨w2.heap.size, 2, none⟩ (.int .i64 (T.len : Int))).heap[w2.heap.size]? = some (.cells #[.int .i64 7, .string T.nm, .int .i64 (T.len : Int), .int .i64 0] 33 (0, 0)) from heap_setCell_same _ _ 2 _ _ _ hx3)
    have HX5 := hide (show (w3.setCell ⟨w2.heap.size, 2, none⟩ (.int .i64 (T.len : Int))).heap[w.heap.size]? = some (.cells #[.int .i64 0, .string ⟨#[]⟩, .int .i64 0, .int .i64 0] 33 (0, 0)) from (heap_setCell_other _ ⟨w2.heap.size, 2, none⟩ w.heap.size _ (Nat.ne_of_lt hlt)).trans (row_below (unhide HX2) hb3))
    have HZ := hide (show Below w.heap.size w ((w3.setCell ⟨w2.heap.size, 2, none⟩ (.int .i64 (T.len : Int))).setRow w.heap.size #[.int .i64 7, .string T.nm, .int .i64 (T.len : Int), .int .i64 0]) from below_row1 (below_cell (bnext (unhide HB2) hb3) (Nat.le_of_lt hlt) 2 _) (Nat.le_refl _))
    have HW3 := hide hw3
    clear hb2 hb3 hx3 hw3 c4
    go_wp2_with (first
      | (refine wpList_store_row rfl 33 _ _ rfl w2.heap.size #[.int .i64 7, .string T.nm, .int .i64 0, .int .i64 0] rfl rfl 33 _ (at_new rfl) size_instr rfl (one4' _ _ _ _) ?_; rw [World.setRow_alloc_new]; rw [show w2.alloc (.cells #[.int .i64 7, .string T.nm, .int .i64 0, .int .i64 0] 33) = w3 from (unhide HW3).symm])
      | (refine wpList_load_row rfl 33 _ rfl w2.heap.size rfl 33 #[.int .i64 7, .string T.nm, .int .i64 (T.len : Int), .int .i64 0] (0, 0) _ (unhide HX4) Tryd.underlying33 rfl size_instr ?_)
      | (refine wpList_store_row rfl 33 _ _ rfl w.heap.size #[.int .i64 7, .string T.nm, .int .i64 (T.len : Int), .int .i64 0] rfl rfl 33 _ (unhide HX5) size_instr rfl (one4' _ _ _ _) ?_)
      | fail)
    refine bodyPost_ret (results_cell_row (p := 2) (ty := 33) rfl _ _ w.heap.size 33 #[.int .i64 7, .string T.nm, .int .i64 (T.len : Int), .int .i64 0] (0, 0) _ rfl (row_setRow (unhide HX5)) Tryd.underlying33 rfl size_instr) rfl ?_
    exact ⟨by rw [unhide HO], unhide HZ⟩
  · have HO := hide (show op = 8 by rw [unhide HOP, if_neg hq])
    have hq2 : bn < 0 := by omega
    go_wp2_with fail
    refine (unhide HNM 8).mono ?_
    rintro e w2 ⟨rfl, hb2⟩
    have HX2 := hide (row_below (unhide HX1) hb2)
    have c4 := (xat_later (unhide HXA) hb2).2.2.2.2
    have hlt : w.heap.size < w2.heap.size := (Array.getElem?_eq_some_iff.1 (unhide HX2)).1
    have HB2 := hide (bnext (unhide HB1) hb2)
    obtain ⟨w3, hw3⟩ : ∃ w3, w3 = w2.alloc (.cells #[.int .i64 8, .string T.nm, .int .i64 0, .int .i64 0] 33) := ⟨_, rfl⟩
    have hb3 : Below w2.heap.size w2 w3 := by rw [hw3]; exact (Below.refl _ _).alloc (Nat.le_refl _) _
    have hx3 : w3.heap[w2.heap.size]? = some (.cells #[.int .i64 8, .string T.nm, .int .i64 0, .int .i64 0] 33 (0, 0)) := by rw [hw3]; exact at_new rfl
    have d4 := cell_later hb3 c4
    have d2 : w3.cell? ⟨w2.heap.size, 2, none⟩ = some (.int .i64 0) := by rw [cell_of_row _ _ _ _ _ _ hx3]; rfl
    have f2 := frozen_of_row w3 w2.heap.size 2 _ _ hx3
    have HX4 := hide (show (w3.setCell ⟨w2.heap.size, 2, none⟩ (.int .i64 (T.len : Int))).heap[w2.heap.size]? = some (.cells #[.int .i64 8, .string T.nm, .int .i64 (T.len : Int), .int .i64 0] 33 (0, 0)) from heap_setCell_same _ _ 2 _ _ _ hx3)
    have HX5 := hide (show (w3.setCell ⟨w2.heap.size, 2, none⟩ (.int .i64 (T.len : Int))).heap[w.heap.size]? = some (.cells #[.int .i64 0, .string ⟨#[]⟩, .int .i64 0, .int .i64 0] 33 (0, 0)) from (heap_setCell_other _ ⟨w2.heap.size, 2, none⟩ w.heap.size _ (Nat.ne_of_lt hlt)).trans (row_below (unhide HX2) hb3))
    have HZ := hide (show Below w.heap.size w ((w3.setCell ⟨w2.heap.size, 2, none⟩ (.int .i64 (T.len : Int))).setRow w.heap.size #[.int .i64 8, .string T.nm, .int .i64 (T.len : Int), .int .i64 0]) from below_row1 (below_cell (bnext (unhide HB2) hb3) (Nat.le_of_lt hlt) 2 _) (Nat.le_refl _))
    have HW3 := hide hw3
    clear hb2 hb3 hx3 hw3 c4
    go_wp2_with (first
      | (refine wpList_store_row rfl 33 _ _ rfl w2.heap.size #[.int .i64 8, .string T.nm, .int .i64 0, .int .i64 0] rfl rfl 33 _ (at_new rfl) size_instr rfl (one4' _ _ _ _) ?_; rw [World.setRow_alloc_new]; rw [show w2.alloc (.cells #[.int .i64 8, .string T.nm, .int .i64 0, .int .i64 0] 33) = w3 from (unhide HW3).symm])
      | (refine wpList_load_row rfl 33 _ rfl w2.heap.size rfl 33 #[.int .i64 8, .string T.nm, .int .i64 (T.len : Int), .int .i64 0] (0, 0) _ (unhide HX4) Tryd.underlying33 rfl size_instr ?_)
      | (refine wpList_store_row rfl 33 _ _ rfl w.heap.size #[.int .i64 8, .string T.nm, .int .i64 (T.len : Int), .int .i64 0] rfl rfl 33 _ (unhide HX5) size_instr rfl (one4' _ _ _ _) ?_)
      | fail)
    refine bodyPost_ret (results_cell_row (p := 2) (ty := 33) rfl _ _ w.heap.size 33 #[.int .i64 8, .string T.nm, .int .i64 (T.len : Int), .int .i64 0] (0, 0) _ rfl (row_setRow (unhide HX5)) Tryd.underlying33 rfl size_instr) rfl ?_
    exact ⟨by rw [unhide HO], unhide HZ⟩
theorem errX_text {T : PT} (h : errX T = 0) (hk : T.k = 1) : T.t.size ≤ 65536 := by
  unfold errX at h
  rw [if_neg (by omega)] at h
  rcases Nat.lt_or_ge 65536 T.t.size with q | q
  · rw [if_pos ⟨hk, q⟩] at h; cases h
  · exact q
theorem errX_name {T : PT} (h : errX T = 0) (hk : namedX T.k = true) : T.nm.size ≤ 16 := by
  unfold errX at h
  have hk3 : T.k = 3 ∨ T.k = 4 ∨ T.k = 6 := by unfold namedX at hk; exact of_decide_eq_true hk
  rw [if_neg (by omega), if_neg (by omega), if_neg (by omega)] at h
  cases hn : named T.nm
  · rw [if_pos ⟨hk, hn⟩] at h; cases h
  · unfold named at hn
    rw [Bool.and_eq_true] at hn
    exact of_decide_eq_true hn.1
theorem errX_kind {T : PT} (h : errX T = 0) : 1 ≤ T.k ∧ T.k ≤ 13 := by
  unfold errX at h
  by_cases q : T.k < 1 ∨ 13 < T.k
  · rw [if_pos q] at h; cases h
  · omega
theorem errX_kids {T : PT} (h : errX T = 0) : leastX T.k ≤ (T.len : Int) ∧ (T.len : Int) ≤ mostX T.k := by
  unfold errX at h
  (repeat' split at h)
  all_goals (first | (cases h; done) | skip)
  all_goals omega
set_option maxRecDepth 100000 in
set_option maxHeartbeats 4000000 in
theorem last_1 {g o : Nat} {T : PT} (w : World) (h : XAt w g o T) (ht : TensAt w) (hI : T.In w) (hE : errX T = 0) (hk : T.k = 1) :
    Calls Tryd.prog 33 #[.pointer (some ⟨g, o, none⟩)] w fun e w' => e = .returned (iV (lastI T)) ∧ Below w.heap.size w w' := by
  obtain ⟨w1, hw1⟩ : ∃ w1, w1 = w.alloc (.cells #[.int .i64 0, .string ⟨#[]⟩, .int .i64 0, .int .i64 0] 33) := ⟨_, rfl⟩
  have hb1 : Below w.heap.size w w1 := by rw [hw1]; exact (Below.refl _ _).alloc (Nat.le_refl _) _
  have hx1 : w1.heap[w.heap.size]? = some (.cells #[.int .i64 0, .string ⟨#[]⟩, .int .i64 0, .int .i64 0] 33 (0, 0)) := by rw [hw1]; exact at_new rfl
  have hx := xat_later h hb1
  have u := And.intro ht (And.intro hI hE)
  have c0 := h.1
  have hgl : g < w.heap.size := World.block_lt_of_cell? _ _ h.1
  have HV := hide (show iV (lastI T) = .agg #[.int .i64 2, .string T.t, .int .i64 0, .int .i64 0] by unfold lastI; rw [if_pos hk]; rfl)
  rw [hk] at c0
  have c1 := h.2.1
  have HC := hide (clone_any T.t w1 (by have := errX_text hE hk; omega))
  clear hk
  have HB1 := hide hb1
  have HX1 := hide hx1
  have HW1 := hide hw1
  have HXA := hide hx
  clear u h hx ht hb1 hx1 hw1 hI hE
  rw [unhide HV]
  go_enter Tryd.func33, Tryd.ntmps33
  go_wp2_with fail
  rw [show w.alloc (.cells #[.int .i64 0, .string ⟨#[]⟩, .int .i64 0, .int .i64 0] 33) = w1 from (unhide HW1).symm]
  refine (unhide HC).mono ?_
  rintro e w2 ⟨rfl, hb2⟩
  have HX2 := hide (row_below (unhide HX1) hb2)
  have HB2 := hide (bnext (unhide HB1) hb2)
  clear hb2
  go_wp2_with (first
    | (refine wpList_store_row rfl 33 _ _ rfl w.heap.size #[.int .i64 2, .string T.t, .int .i64 0, .int .i64 0] rfl rfl 33 _ (unhide HX2) size_instr rfl (one4' _ _ _ _) ?_)
    | fail)
  refine bodyPost_ret (results_cell_row (p := 2) (ty := 33) rfl _ _ w.heap.size 33 #[.int .i64 2, .string T.t, .int .i64 0, .int .i64 0] (0, 0) _ rfl (row_setRow (unhide HX2)) Tryd.underlying33 rfl size_instr) rfl ?_
  exact ⟨rfl, below_row1 (unhide HB2) (Nat.le_refl _)⟩
set_option maxRecDepth 100000 in
set_option maxHeartbeats 4000000 in
theorem last_2 {g o : Nat} {T : PT} (w : World) (h : XAt w g o T) (ht : TensAt w) (hI : T.In w) (hE : errX T = 0) (hk : T.k = 2) :
    Calls Tryd.prog 33 #[.pointer (some ⟨g, o, none⟩)] w fun e w' => e = .returned (iV (lastI T)) ∧ Below w.heap.size w w' := by
  obtain ⟨w1, hw1⟩ : ∃ w1, w1 = w.alloc (.cells #[.int .i64 0, .string ⟨#[]⟩, .int .i64 0, .int .i64 0] 33) := ⟨_, rfl⟩
  have hb1 : Below w.heap.size w w1 := by rw [hw1]; exact (Below.refl _ _).alloc (Nat.le_refl _) _
  have hx1 : w1.heap[w.heap.size]? = some (.cells #[.int .i64 0, .string ⟨#[]⟩, .int .i64 0, .int .i64 0] 33 (0, 0)) := by rw [hw1]; exact at_new rfl
  have hx := xat_later h hb1
  have u := And.intro ht (And.intro hI hE)
  have c0 := h.1
  have hgl : g < w.heap.size := World.block_lt_of_cell? _ _ h.1
  have HV := hide (show iV (lastI T) = .agg #[.int .i64 2, .string (tenText T.n), .int .i64 0, .int .i64 0] by unfold lastI; rw [if_neg (show ¬ T.k = 1 by omega)]; rw [if_pos hk]; rfl)
  rw [hk] at c0
  have c2 := h.2.2.1
  have HC := hide (print_any T.n w1 hI.num (tens_stay ht hb1))
  generalize tenText T.n = tt at *
  clear hk
  have HB1 := hide hb1
  have HX1 := hide hx1
  have HW1 := hide hw1
  have HXA := hide hx
  clear u h hx ht hb1 hx1 hw1 hI hE
  rw [unhide HV]
  go_enter Tryd.func33, Tryd.ntmps33
  go_wp2_with fail
  rw [show w.alloc (.cells #[.int .i64 0, .string ⟨#[]⟩, .int .i64 0, .int .i64 0] 33) = w1 from (unhide HW1).symm]
  refine (unhide HC).mono ?_
  rintro e w2 ⟨rfl, hb2⟩
  have HX2 := hide (row_below (unhide HX1) hb2)
  have HB2 := hide (bnext (unhide HB1) hb2)
  clear hb2
  go_wp2_with (first
    | (refine wpList_store_row rfl 33 _ _ rfl w.heap.size #[.int .i64 2, .string tt, .int .i64 0, .int .i64 0] rfl rfl 33 _ (unhide HX2) size_instr rfl (one4' _ _ _ _) ?_)
    | fail)
  refine bodyPost_ret (results_cell_row (p := 2) (ty := 33) rfl _ _ w.heap.size 33 #[.int .i64 2, .string tt, .int .i64 0, .int .i64 0] (0, 0) _ rfl (row_setRow (unhide HX2)) Tryd.underlying33 rfl size_instr) rfl ?_
  exact ⟨rfl, below_row1 (unhide HB2) (Nat.le_refl _)⟩
set_option maxRecDepth 100000 in
set_option maxHeartbeats 4000000 in
theorem last_3 {g o : Nat} {T : PT} (w : World) (h : XAt w g o T) (ht : TensAt w) (hI : T.In w) (hE : errX T = 0) (hk : T.k = 3) :
    Calls Tryd.prog 33 #[.pointer (some ⟨g, o, none⟩)] w fun e w' => e = .returned (iV (lastI T)) ∧ Below w.heap.size w w' := by
  obtain ⟨w1, hw1⟩ : ∃ w1, w1 = w.alloc (.cells #[.int .i64 0, .string ⟨#[]⟩, .int .i64 0, .int .i64 0] 33) := ⟨_, rfl⟩
  have hb1 : Below w.heap.size w w1 := by rw [hw1]; exact (Below.refl _ _).alloc (Nat.le_refl _) _
  have hx1 : w1.heap[w.heap.size]? = some (.cells #[.int .i64 0, .string ⟨#[]⟩, .int .i64 0, .int .i64 0] 33 (0, 0)) := by rw [hw1]; exact at_new rfl
  have hx := xat_later h hb1
  have u := And.intro ht (And.intro hI hE)
  have c0 := h.1
  have hgl : g < w.heap.size := World.block_lt_of_cell? _ _ h.1
  have HV := hide (show iV (lastI T) = .agg #[.int .i64 3, .string T.nm, .int .i64 0, .int .i64 0] by unfold lastI; rw [if_neg (show ¬ T.k = 1 by omega)]; rw [if_neg (show ¬ T.k = 2 by omega)]; rw [if_pos hk]; rfl)
  rw [hk] at c0
  have HC := hide (named_in 3 w1 hx (by have := errX_name hE (by simp [namedX, hk]); omega))
  clear hk
  have HB1 := hide hb1
  have HX1 := hide hx1
  have HW1 := hide hw1
  have HXA := hide hx
  clear u h hx ht hb1 hx1 hw1 hI hE
  rw [unhide HV]
  go_enter Tryd.func33, Tryd.ntmps33
  go_wp2_with fail
  rw [show w.alloc (.cells #[.int .i64 0, .string ⟨#[]⟩, .int .i64 0, .int .i64 0] 33) = w1 from (unhide HW1).symm]
  refine (unhide HC).mono ?_
  rintro e w2 ⟨rfl, hb2⟩
  have HX2 := hide (row_below (unhide HX1) hb2)
  have HB2 := hide (bnext (unhide HB1) hb2)
  clear hb2
  go_wp2_with (first
    | (refine wpList_store_row rfl 33 _ _ rfl w.heap.size #[.int .i64 3, .string T.nm, .int .i64 0, .int .i64 0] rfl rfl 33 _ (unhide HX2) size_instr rfl (one4' _ _ _ _) ?_)
    | fail)
  refine bodyPost_ret (results_cell_row (p := 2) (ty := 33) rfl _ _ w.heap.size 33 #[.int .i64 3, .string T.nm, .int .i64 0, .int .i64 0] (0, 0) _ rfl (row_setRow (unhide HX2)) Tryd.underlying33 rfl size_instr) rfl ?_
  exact ⟨rfl, below_row1 (unhide HB2) (Nat.le_refl _)⟩
set_option maxRecDepth 100000 in
set_option maxHeartbeats 4000000 in
theorem last_4 {g o : Nat} {T : PT} (w : World) (h : XAt w g o T) (ht : TensAt w) (hI : T.In w) (hE : errX T = 0) (hk : T.k = 4) :
    Calls Tryd.prog 33 #[.pointer (some ⟨g, o, none⟩)] w fun e w' => e = .returned (iV (lastI T)) ∧ Below w.heap.size w w' := by
  obtain ⟨w1, hw1⟩ : ∃ w1, w1 = w.alloc (.cells #[.int .i64 0, .string ⟨#[]⟩, .int .i64 0, .int .i64 0] 33) := ⟨_, rfl⟩
  have hb1 : Below w.heap.size w w1 := by rw [hw1]; exact (Below.refl _ _).alloc (Nat.le_refl _) _
  have hx1 : w1.heap[w.heap.size]? = some (.cells #[.int .i64 0, .string ⟨#[]⟩, .int .i64 0, .int .i64 0] 33 (0, 0)) := by rw [hw1]; exact at_new rfl
  have hx := xat_later h hb1
  have u := And.intro ht (And.intro hI hE)
  have c0 := h.1
  have hgl : g < w.heap.size := World.block_lt_of_cell? _ _ h.1
  have HV := hide (show iV (lastI T) = .agg #[.int .i64 4, .string T.nm, .int .i64 0, .int .i64 0] by unfold lastI; rw [if_neg (show ¬ T.k = 1 by omega)]; rw [if_neg (show ¬ T.k = 2 by omega)]; rw [if_neg (show ¬ T.k = 3 by omega)]; rw [if_pos hk]; rfl)
  rw [hk] at c0
  have HC := hide (named_in 4 w1 hx (by have := errX_name hE (by simp [namedX, hk]); omega))
  clear hk
  have HB1 := hide hb1
  have HX1 := hide hx1
  have HW1 := hide hw1
  have HXA := hide hx
  clear u h hx ht hb1 hx1 hw1 hI hE
  rw [unhide HV]
  go_enter Tryd.func33, Tryd.ntmps33
  go_wp2_with fail
  rw [show w.alloc (.cells #[.int .i64 0, .string ⟨#[]⟩, .int .i64 0, .int .i64 0] 33) = w1 from (unhide HW1).symm]
  refine (unhide HC).mono ?_
  rintro e w2 ⟨rfl, hb2⟩
  have HX2 := hide (row_below (unhide HX1) hb2)
  have HB2 := hide (bnext (unhide HB1) hb2)
  clear hb2
  go_wp2_with (first
    | (refine wpList_store_row rfl 33 _ _ rfl w.heap.size #[.int .i64 4, .string T.nm, .int .i64 0, .int .i64 0] rfl rfl 33 _ (unhide HX2) size_instr rfl (one4' _ _ _ _) ?_)
    | fail)
  refine bodyPost_ret (results_cell_row (p := 2) (ty := 33) rfl _ _ w.heap.size 33 #[.int .i64 4, .string T.nm, .int .i64 0, .int .i64 0] (0, 0) _ rfl (row_setRow (unhide HX2)) Tryd.underlying33 rfl size_instr) rfl ?_
  exact ⟨rfl, below_row1 (unhide HB2) (Nat.le_refl _)⟩
set_option maxRecDepth 100000 in
set_option maxHeartbeats 4000000 in
theorem last_5 {g o : Nat} {T : PT} (w : World) (h : XAt w g o T) (ht : TensAt w) (hI : T.In w) (hE : errX T = 0) (hk : T.k = 5) :
    Calls Tryd.prog 33 #[.pointer (some ⟨g, o, none⟩)] w fun e w' => e = .returned (iV (lastI T)) ∧ Below w.heap.size w w' := by
  obtain ⟨w1, hw1⟩ : ∃ w1, w1 = w.alloc (.cells #[.int .i64 0, .string ⟨#[]⟩, .int .i64 0, .int .i64 0] 33) := ⟨_, rfl⟩
  have hb1 : Below w.heap.size w w1 := by rw [hw1]; exact (Below.refl _ _).alloc (Nat.le_refl _) _
  have hx1 : w1.heap[w.heap.size]? = some (.cells #[.int .i64 0, .string ⟨#[]⟩, .int .i64 0, .int .i64 0] 33 (0, 0)) := by rw [hw1]; exact at_new rfl
  have hx := xat_later h hb1
  have u := And.intro ht (And.intro hI hE)
  have c0 := h.1
  have hgl : g < w.heap.size := World.block_lt_of_cell? _ _ h.1
  have HV := hide (show iV (lastI T) = .agg #[.int .i64 5, .string ⟨#[]⟩, .int .i64 0, .int .i64 0] by unfold lastI; rw [if_neg (show ¬ T.k = 1 by omega)]; rw [if_neg (show ¬ T.k = 2 by omega)]; rw [if_neg (show ¬ T.k = 3 by omega)]; rw [if_neg (show ¬ T.k = 4 by omega)]; rw [if_pos hk]; rfl)
  rw [hk] at c0
  clear hk
  have HB1 := hide hb1
  have HX1 := hide hx1
  have HW1 := hide hw1
  have HXA := hide hx
  clear u h hx ht hb1 hx1 hw1 hI hE
  rw [unhide HV]
  go_enter Tryd.func33, Tryd.ntmps33
  go_wp2_with (first
    | (refine wpList_store_row rfl 33 _ _ rfl w.heap.size #[.int .i64 5, .string ⟨#[]⟩, .int .i64 0, .int .i64 0] rfl rfl 33 _ (at_new rfl) size_instr rfl (one4' _ _ _ _) ?_; rw [World.setRow_alloc_new])
    | fail)
  refine bodyPost_ret (results_cell_row (p := 2) (ty := 33) rfl _ _ w.heap.size 33 #[.int .i64 5, .string ⟨#[]⟩, .int .i64 0, .int .i64 0] (0, 0) _ rfl (at_new rfl) Tryd.underlying33 rfl size_instr) rfl ?_
  exact ⟨rfl, (Below.refl _ _).alloc (Nat.le_refl _) _⟩
set_option maxRecDepth 100000 in
set_option maxHeartbeats 4000000 in
theorem last_6 {g o : Nat} {T : PT} (w : World) (h : XAt w g o T) (ht : TensAt w) (hI : T.In w) (hE : errX T = 0) (hk : T.k = 6) :
    Calls Tryd.prog 33 #[.pointer (some ⟨g, o, none⟩)] w fun e w' => e = .returned (iV (lastI T)) ∧ Below w.heap.size w w' := by
  obtain ⟨w1, hw1⟩ : ∃ w1, w1 = w.alloc (.cells #[.int .i64 0, .string ⟨#[]⟩, .int .i64 0, .int .i64 0] 33) := ⟨_, rfl⟩
  have hb1 : Below w.heap.size w w1 := by rw [hw1]; exact (Below.refl _ _).alloc (Nat.le_refl _) _
  have hx1 : w1.heap[w.heap.size]? = some (.cells #[.int .i64 0, .string ⟨#[]⟩, .int .i64 0, .int .i64 0] 33 (0, 0)) := by rw [hw1]; exact at_new rfl
  have hx := xat_later h hb1
  have u := And.intro ht (And.intro hI hE)
  have c0 := h.1
  have hgl : g < w.heap.size := World.block_lt_of_cell? _ _ h.1
  have HV := hide (show iV (lastI T) = .agg #[.int .i64 (callOp T.nm), .string T.nm, .int .i64 (T.len : Int), .int .i64 0] by unfold lastI; rw [if_neg (show ¬ T.k = 1 by omega)]; rw [if_neg (show ¬ T.k = 2 by omega)]; rw [if_neg (show ¬ T.k = 3 by omega)]; rw [if_neg (show ¬ T.k = 4 by omega)]; rw [if_neg (show ¬ T.k = 5 by omega)]; rw [if_pos hk]; rfl)
  rw [hk] at c0
  have HC := hide (call_in w1 hx (by have := errX_name hE (by simp [namedX, hk]); omega))
  generalize callOp T.nm = op at *
  clear hk
  have HB1 := hide hb1
  have HX1 := hide hx1
  have HW1 := hide hw1
  have HXA := hide hx
  clear u h hx ht hb1 hx1 hw1 hI hE
  rw [unhide HV]
  go_enter Tryd.func33, Tryd.ntmps33
  go_wp2_with fail
  rw [show w.alloc (.cells #[.int .i64 0, .string ⟨#[]⟩, .int .i64 0, .int .i64 0] 33) = w1 from (unhide HW1).symm]
  refine (unhide HC).mono ?_
  rintro e w2 ⟨rfl, hb2⟩
  have HX2 := hide (row_below (unhide HX1) hb2)
  have HB2 := hide (bnext (unhide HB1) hb2)
  clear hb2
  go_wp2_with (first
    | (refine wpList_store_row rfl 33 _ _ rfl w.heap.size #[.int .i64 op, .string T.nm, .int .i64 (T.len : Int), .int .i64 0] rfl rfl 33 _ (unhide HX2) size_instr rfl (one4' _ _ _ _) ?_)
    | fail)
  refine bodyPost_ret (results_cell_row (p := 2) (ty := 33) rfl _ _ w.heap.size 33 #[.int .i64 op, .string T.nm, .int .i64 (T.len : Int), .int .i64 0] (0, 0) _ rfl (row_setRow (unhide HX2)) Tryd.underlying33 rfl size_instr) rfl ?_
  exact ⟨rfl, below_row1 (unhide HB2) (Nat.le_refl _)⟩
set_option maxRecDepth 100000 in
set_option maxHeartbeats 4000000 in
theorem last_7 {g o : Nat} {T : PT} (w : World) (h : XAt w g o T) (ht : TensAt w) (hI : T.In w) (hE : errX T = 0) (hk : T.k = 7) :
    Calls Tryd.prog 33 #[.pointer (some ⟨g, o, none⟩)] w fun e w' => e = .returned (iV (lastI T)) ∧ Below w.heap.size w w' := by
  obtain ⟨w1, hw1⟩ : ∃ w1, w1 = w.alloc (.cells #[.int .i64 0, .string ⟨#[]⟩, .int .i64 0, .int .i64 0] 33) := ⟨_, rfl⟩
  have hb1 : Below w.heap.size w w1 := by rw [hw1]; exact (Below.refl _ _).alloc (Nat.le_refl _) _
  have hx1 : w1.heap[w.heap.size]? = some (.cells #[.int .i64 0, .string ⟨#[]⟩, .int .i64 0, .int .i64 0] 33 (0, 0)) := by rw [hw1]; exact at_new rfl
  have hx := xat_later h hb1
  have u := And.intro ht (And.intro hI hE)
  have c0 := h.1
  have hgl : g < w.heap.size := World.block_lt_of_cell? _ _ h.1
  have HV := hide (show iV (lastI T) = .agg #[.int .i64 6, .string ⟨#[]⟩, .int .i64 10, .int .i64 0] by unfold lastI; rw [if_neg (show ¬ T.k = 1 by omega)]; rw [if_neg (show ¬ T.k = 2 by omega)]; rw [if_neg (show ¬ T.k = 3 by omega)]; rw [if_neg (show ¬ T.k = 4 by omega)]; rw [if_neg (show ¬ T.k = 5 by omega)]; rw [if_neg (show ¬ T.k = 6 by omega)]; rw [if_pos hk]; rfl)
  rw [hk] at c0
  clear hk
  have HB1 := hide hb1
  have HX1 := hide hx1
  have HW1 := hide hw1
  have HXA := hide hx
  clear u h hx ht hb1 hx1 hw1 hI hE
  rw [unhide HV]
  go_enter Tryd.func33, Tryd.ntmps33
  go_wp2_with (first
    | (refine wpList_store_row rfl 33 _ _ rfl w.heap.size #[.int .i64 6, .string ⟨#[]⟩, .int .i64 10, .int .i64 0] rfl rfl 33 _ (at_new rfl) size_instr rfl (one4' _ _ _ _) ?_; rw [World.setRow_alloc_new])
    | fail)
  refine bodyPost_ret (results_cell_row (p := 2) (ty := 33) rfl _ _ w.heap.size 33 #[.int .i64 6, .string ⟨#[]⟩, .int .i64 10, .int .i64 0] (0, 0) _ rfl (at_new rfl) Tryd.underlying33 rfl size_instr) rfl ?_
  exact ⟨rfl, (Below.refl _ _).alloc (Nat.le_refl _) _⟩
set_option maxRecDepth 100000 in
set_option maxHeartbeats 4000000 in
theorem last_8 {g o : Nat} {T : PT} (w : World) (h : XAt w g o T) (ht : TensAt w) (hI : T.In w) (hE : errX T = 0) (hk : 7 < T.k) :
    Calls Tryd.prog 33 #[.pointer (some ⟨g, o, none⟩)] w fun e w' => e = .returned (iV (lastI T)) ∧ Below w.heap.size w w' := by
  obtain ⟨w1, hw1⟩ : ∃ w1, w1 = w.alloc (.cells #[.int .i64 0, .string ⟨#[]⟩, .int .i64 0, .int .i64 0] 33) := ⟨_, rfl⟩
  have hb1 : Below w.heap.size w w1 := by rw [hw1]; exact (Below.refl _ _).alloc (Nat.le_refl _) _
  have hx1 : w1.heap[w.heap.size]? = some (.cells #[.int .i64 0, .string ⟨#[]⟩, .int .i64 0, .int .i64 0] 33 (0, 0)) := by rw [hw1]; exact at_new rfl
  have hx := xat_later h hb1
  have u := And.intro ht (And.intro hI hE)
  have c0 := h.1
  have hgl : g < w.heap.size := World.block_lt_of_cell? _ _ h.1
  have HV := hide (show iV (lastI T) = .agg #[.int .i64 6, .string ⟨#[]⟩, .int .i64 T.k, .int .i64 0] by unfold lastI; rw [if_neg (show ¬ T.k = 1 by omega)]; rw [if_neg (show ¬ T.k = 2 by omega)]; rw [if_neg (show ¬ T.k = 3 by omega)]; rw [if_neg (show ¬ T.k = 4 by omega)]; rw [if_neg (show ¬ T.k = 5 by omega)]; rw [if_neg (show ¬ T.k = 6 by omega)]; rw [if_neg (show ¬ T.k = 7 by omega)]; rfl)
  have q1 : (T.k == 1) = false := by rw [beq_eq_false_iff_ne]; omega
  have q2 : (T.k == 2) = false := by rw [beq_eq_false_iff_ne]; omega
  have q3 : (T.k == 3) = false := by rw [beq_eq_false_iff_ne]; omega
  have q4 : (T.k == 4) = false := by rw [beq_eq_false_iff_ne]; omega
  have q5 : (T.k == 5) = false := by rw [beq_eq_false_iff_ne]; omega
  have q6 : (T.k == 6) = false := by rw [beq_eq_false_iff_ne]; omega
  have q7 : (T.k == 7) = false := by rw [beq_eq_false_iff_ne]; omega
  clear hk
  have HB1 := hide hb1
  have HX1 := hide hx1
  have HW1 := hide hw1
  have HXA := hide hx
  clear u h hx ht hb1 hx1 hw1 hI hE
  rw [unhide HV]
  go_enter Tryd.func33, Tryd.ntmps33
  go_wp2_with (first
    | (refine wpList_store_row rfl 33 _ _ rfl w.heap.size #[.int .i64 6, .string ⟨#[]⟩, .int .i64 T.k, .int .i64 0] rfl rfl 33 _ (at_new rfl) size_instr rfl (one4' _ _ _ _) ?_; rw [World.setRow_alloc_new])
    | fail)
  refine bodyPost_ret (results_cell_row (p := 2) (ty := 33) rfl _ _ w.heap.size 33 #[.int .i64 6, .string ⟨#[]⟩, .int .i64 T.k, .int .i64 0] (0, 0) _ rfl (at_new rfl) Tryd.underlying33 rfl size_instr) rfl ?_
  exact ⟨rfl, (Below.refl _ _).alloc (Nat.le_refl _) _⟩
theorem last_any {g o : Nat} {T : PT} (w : World) (h : XAt w g o T) (ht : TensAt w) (hI : T.In w) (hE : errX T = 0) :
    Calls Tryd.prog 33 #[.pointer (some ⟨g, o, none⟩)] w fun e w' => e = .returned (iV (lastI T)) ∧ Below w.heap.size w w' := by
  have hk := errX_kind hE
  by_cases h1 : T.k = 1
  · exact last_1 w h ht hI hE h1
  by_cases h2 : T.k = 2
  · exact last_2 w h ht hI hE h2
  by_cases h3 : T.k = 3
  · exact last_3 w h ht hI hE h3
  by_cases h4 : T.k = 4
  · exact last_4 w h ht hI hE h4
  by_cases h5 : T.k = 5
  · exact last_5 w h ht hI hE h5
  by_cases h6 : T.k = 6
  · exact last_6 w h ht hI hE h6
  by_cases h7 : T.k = 7
  · exact last_7 w h ht hI hE h7
  exact last_8 w h ht hI hE (by omega)
end Go.Proofs.YtpclpjcemeckgaaDoor
