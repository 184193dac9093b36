/- What pats.appendWorded does: a kind's word, and what stands in brackets behind it. -/
import Derived.Test.YtpphjddljngkmaaGreatDoorPrintReg4M
import Derived.Test.YtpphjddljngkmaaGreatDoorPrintKids4P
import Derived.Test.YtpphjddljngkmaaGreatDoorPrintSaid4M
namespace Go.Proofs.YtpphjddljngkmaaGreatDoor
open Go.RowKit
set_option linter.unusedVariables false

theorem fa_pat (b k : Nat) (hk : k < 5) (W : World) : (Instr.fieldAt 30 (.pointer (some ⟨b, 0, none⟩)) k).run Tryz.prog W = .ok (.pointer (some ⟨b, k, none⟩)) W := by
  rcases (show k = 0 ∨ k = 1 ∨ k = 2 ∨ k = 3 ∨ k = 4 by omega) with rfl | rfl | rfl | rfl | rfl <;> go_simp
theorem itoa_nat (u : Nat) : Lib.itoa (u : Int) = Lib.decDigits u := by
  unfold Lib.itoa
  simp
def tbox (K : Int) (T : PT) : Obj := .cells #[.int .i64 K, .string T.t, .int .i64 T.n, .string T.nm, .slice T.xa T.len T.cap] 30 (0, 0)
theorem cells4s {W : World} {g : Nat} {a b c d : Value} {t : TypeId} (h : W.heap[g]? = some (.cells #[a, b, c, d] t (0, 0))) :
    W.cell? ⟨g, 0, none⟩ = some a ∧ W.cell? ⟨g, 1, none⟩ = some b ∧ W.cell? ⟨g, 2, none⟩ = some c ∧ W.cell? ⟨g, 3, none⟩ = some d := by
  refine ⟨?_, ?_, ?_, ?_⟩ <;> rw [cell_of_row _ _ _ _ _ _ h] <;> rfl
theorem ld_int {W : World} {b k : Nat} {n : Int} (h : W.cell? ⟨b, k, none⟩ = some (.int .i64 n)) : (Instr.loadAt 3 (.pointer (some ⟨b, k, none⟩))).run Tryz.prog W = .ok (.int .i64 n) W := by
  go_simp
theorem ld_str {W : World} {b k : Nat} {s : ByteArray} (h : W.cell? ⟨b, k, none⟩ = some (.string s)) : (Instr.loadAt 9 (.pointer (some ⟨b, k, none⟩))).run Tryz.prog W = .ok (.string s) W := by
  go_simp
theorem ld_sl {W : World} {b k : Nat} {x : Option Addr} {n c : Nat} (h : W.cell? ⟨b, k, none⟩ = some (.slice x n c)) : (Instr.loadAt 28 (.pointer (some ⟨b, k, none⟩))).run Tryz.prog W = .ok (.slice x n c) W := by
  go_simp
theorem ld_pat {W : World} {b k : Nat} {v0 v1 v2 v3 v4 : Value} (h0 : W.cell? ⟨b, k, none⟩ = some v0) (h1 : W.cell? ⟨b, k + 1, none⟩ = some v1) (h2 : W.cell? ⟨b, k + 2, none⟩ = some v2) (h3 : W.cell? ⟨b, k + 3, none⟩ = some v3) (h4 : W.cell? ⟨b, k + 4, none⟩ = some v4) : (Instr.loadAt 30 (.pointer (some ⟨b, k, none⟩))).run Tryz.prog W = .ok (.agg #[v0, v1, v2, v3, v4]) W := by
  go_simp
theorem Grew.ret {l t r r' : List UInt8} {c : Nat} (h : Grew l t r c) (e : r = r') : Grew l t r' c := e ▸ h
set_option maxRecDepth 100000 in
set_option maxHeartbeats 2000000 in
theorem word_none (T : PT) (W w : World) (v : Value) (l : List UInt8) (hR : Ready W) (hT : T.In W) (hbel : Below W.heap.size W w) (hbad : T.bad = 0) (hv : Bytes w W.heap.size v l) (hl : l.length ≤ 65536) (hh : hasK T.k = 0) (hw : 12 ≤ T.k ∧ T.k ≤ 17) :
    Calls Tryz.prog 57 #[v, .agg #[.int .i64 T.k, .string T.t, .int .i64 T.n, .string T.nm, .slice T.xa T.len T.cap]] w fun e w' => AppPost W w v l T.txt (30 * T.cnt - 10) e w' := by
  obtain ⟨r1, r2, r3, r4, r5, r6, r7⟩ := right_node (bad_zero hbad).1
  have hte := PT.txt_eq r1
  have hcp := T.cnt_pos
  obtain ⟨K, hK⟩ : ∃ K : Nat, T.k = (K : Int) := ⟨T.k.toNat, by omega⟩
  obtain ⟨s0, s1, s2, s3⟩ := (hR.shapes.later hbel) K (by omega) (by omega)
  have hz : (1 : Nat) < w.heap.size := World.block_lt_of_cell? _ _ s0
  have hz' : ¬ w.heap.size = 1 := by omega
  rw [show hasK (K : Int) = 0 by rw [← hK]; exact hh] at s1
  obtain ⟨lst, hlst⟩ : ∃ x, x = leastK (K : Int) := ⟨_, rfl⟩
  obtain ⟨mst, hmst⟩ : ∃ x, x = mostK (K : Int) := ⟨_, rfl⟩
  rw [← hlst] at s2
  rw [← hmst] at s3
  clear hlst hmst
  have h1 : ¬ (K : Int) < 0 := by omega
  have h2 : (K : Int) < 25 := by omega
  have HB0 := hide (((Below.refl w.heap.size w).alloc (Nat.le_refl _) (.cells #[.int .i64 (K : Int), .string T.t, .int .i64 T.n, .string T.nm, .slice T.xa T.len T.cap] 30)).alloc (by simp) (.cells #[.string (wordK K), .int .i64 0, .int .i64 lst, .int .i64 mst] 113))
  have HX0 : Hid (((w.alloc (.cells #[.int .i64 (K : Int), .string T.t, .int .i64 T.n, .string T.nm, .slice T.xa T.len T.cap] 30)).alloc (.cells #[.string (wordK K), .int .i64 0, .int .i64 lst, .int .i64 mst] 113)).heap[w.heap.size]? = some (tbox (K : Int) T)) := hide (at_old (by simp) (at_new rfl))
  have HX1 : Hid (((w.alloc (.cells #[.int .i64 (K : Int), .string T.t, .int .i64 T.n, .string T.nm, .slice T.xa T.len T.cap] 30)).alloc (.cells #[.string (wordK K), .int .i64 0, .int .i64 lst, .int .i64 mst] 113)).heap[w.heap.size + 1]? = some (.cells #[.string (wordK K), .int .i64 0, .int .i64 lst, .int .i64 mst] 113 (0, 0))) := hide (at_new (by simp))
  have HF0 := hide (hv.apart (Nat.le_refl _))
  have HF1 := hide (hv.apart (Nat.le_succ _))
  have hwk : (wordK T.k.toNat) = wordK K := by rw [hK, Int.toNat_natCast]
  have HT : Hid (T.txt = (wordK K).data.toList) := hide (by
    rw [hte, if_neg (by omega), if_neg (by omega), if_neg (by omega), if_neg (by omega), if_neg (by omega), if_neg (by omega), if_neg (by omega), if_neg (by omega), if_neg (by omega), if_neg (by omega), List.append_nil, hwk])
  have h3 : ¬ (K : Int) = 20 := by omega
  rw [hK]
  have HKE := hide hK
  clear hK hte
  go_enter Tryz.func57, Tryz.ntmps57
  go_wp2_with (first | (at_builtin; refine wpx_str rfl _ _ rfl W.heap.size _ l (wordK K) rfl rfl (by exact hv.later (unhide HB0)) (by exact Nat.le_trans hbel.size (unhide HB0).size) (by have := wordK_size K; omega) ?_; intro v1 w1 hv1 he1; have HV1 := hide (And.intro hv1 he1); (obtain ⟨c0, c1, c2, c3, c4⟩ := cellsP (he1.row (unhide HF0) (unhide HX0))); (obtain ⟨y0, y1, y2, y3⟩ := cells4s (he1.row (unhide HF1) (unhide HX1))); clear hv1 he1))
  go_ret
  obtain ⟨hv1, he1⟩ := unhide HV1
  have hws := wordK_size K
  have hwl : (wordK K).data.toList.length = (wordK K).size := by simp
  exact ⟨_, _, rfl, hv1, (Ext.below v (unhide HB0)).trans he1, (bnext hbel (unhide HB0)).trans (he1.bel (hv.later (unhide HB0)) (Nat.le_trans hbel.size (unhide HB0).size)), ((Grew.leaf l _ hl (by omega)).cast (unhide HT).symm).more (by omega)⟩
set_option maxRecDepth 100000 in
set_option maxHeartbeats 2000000 in
theorem word_num (T : PT) (W w : World) (v : Value) (l : List UInt8) (hR : Ready W) (hT : T.In W) (hbel : Below W.heap.size W w) (hbad : T.bad = 0) (hv : Bytes w W.heap.size v l) (hl : l.length ≤ 65536) (hh : hasK T.k = 2) (hw : T.k = 2 ∨ 8 ≤ T.k ∧ T.k ≤ 11) :
    Calls Tryz.prog 57 #[v, .agg #[.int .i64 T.k, .string T.t, .int .i64 T.n, .string T.nm, .slice T.xa T.len T.cap]] w fun e w' => AppPost W w v l T.txt (30 * T.cnt - 10) e w' := by
  obtain ⟨r1, r2, r3, r4, r5, r6, r7⟩ := right_node (bad_zero hbad).1
  have hte := PT.txt_eq r1
  have hcp := T.cnt_pos
  obtain ⟨K, hK⟩ : ∃ K : Nat, T.k = (K : Int) := ⟨T.k.toNat, by omega⟩
  obtain ⟨s0, s1, s2, s3⟩ := (hR.shapes.later hbel) K (by omega) (by omega)
  have hz : (1 : Nat) < w.heap.size := World.block_lt_of_cell? _ _ s0
  have hz' : ¬ w.heap.size = 1 := by omega
  rw [show hasK (K : Int) = 2 by rw [← hK]; exact hh] at s1
  obtain ⟨lst, hlst⟩ : ∃ x, x = leastK (K : Int) := ⟨_, rfl⟩
  obtain ⟨mst, hmst⟩ : ∃ x, x = mostK (K : Int) := ⟨_, rfl⟩
  rw [← hlst] at s2
  rw [← hmst] at s3
  clear hlst hmst
  have h1 : ¬ (K : Int) < 0 := by omega
  have h2 : (K : Int) < 25 := by omega
  have HB0 := hide (((Below.refl w.heap.size w).alloc (Nat.le_refl _) (.cells #[.int .i64 (K : Int), .string T.t, .int .i64 T.n, .string T.nm, .slice T.xa T.len T.cap] 30)).alloc (by simp) (.cells #[.string (wordK K), .int .i64 2, .int .i64 lst, .int .i64 mst] 113))
  have HX0 : Hid (((w.alloc (.cells #[.int .i64 (K : Int), .string T.t, .int .i64 T.n, .string T.nm, .slice T.xa T.len T.cap] 30)).alloc (.cells #[.string (wordK K), .int .i64 2, .int .i64 lst, .int .i64 mst] 113)).heap[w.heap.size]? = some (tbox (K : Int) T)) := hide (at_old (by simp) (at_new rfl))
  have HX1 : Hid (((w.alloc (.cells #[.int .i64 (K : Int), .string T.t, .int .i64 T.n, .string T.nm, .slice T.xa T.len T.cap] 30)).alloc (.cells #[.string (wordK K), .int .i64 2, .int .i64 lst, .int .i64 mst] 113)).heap[w.heap.size + 1]? = some (.cells #[.string (wordK K), .int .i64 2, .int .i64 lst, .int .i64 mst] 113 (0, 0))) := hide (at_new (by simp))
  have HF0 := hide (hv.apart (Nat.le_refl _))
  have HF1 := hide (hv.apart (Nat.le_succ _))
  have hwk : (wordK T.k.toNat) = wordK K := by rw [hK, Int.toNat_natCast]
  obtain ⟨u, hu⟩ : ∃ u : Nat, T.n = (u : Int) := ⟨T.n.toNat, by have := r4 hh; omega⟩
  have hu2 : u ≤ 65536 := by have := r4 hh; omega
  have HT : Hid (T.txt = (wordK K).data.toList ++ (40 :: Lib.decDigits u ++ [41])) := hide (by
    rw [hte, if_neg (by omega), if_neg (by omega), if_neg (by omega), if_neg (by omega), if_neg (by omega), if_neg (by omega), if_neg (by omega), if_pos hh, hwk, hu, itoa_nat])
  have HDL : Hid ((Lib.decDigits u).length ≤ 20) := hide (by
    rw [Lib.decDigits_length]
    rcases Nat.eq_zero_or_pos u with rfl | hp
    · rw [Lib.nDigits]; decide
    · have := Lib.numDigits_eq u hp (by omega)
      split at this <;> omega)
  have HU := hide hu
  clear hu
  have HRM : Hid ((l ++ (wordK K).data.toList).length + 140000 ≤ 100000000) := hide (by
    have := wordK_size K
    have hq : (wordK K).data.toList.length = (wordK K).size := by simp
    rw [List.length_append]
    omega)
  rw [hK]
  have HKE := hide hK
  clear hK hte
  go_enter Tryz.func57, Tryz.ntmps57
  go_wp2_with (first | (at_builtin; refine wpx_str rfl _ _ rfl W.heap.size _ l (wordK K) rfl rfl (by exact hv.later (unhide HB0)) (by exact Nat.le_trans hbel.size (unhide HB0).size) (by have := wordK_size K; omega) ?_; intro v1 w1 hv1 he1; have HV1 := hide (And.intro hv1 he1); (obtain ⟨c0, c1, c2, c3, c4⟩ := cellsP (he1.row (unhide HF0) (unhide HX0))); (obtain ⟨y0, y1, y2, y3⟩ := cells4s (he1.row (unhide HF1) (unhide HX1))); clear hv1 he1))
  have HW1 : Hid (Below W.heap.size W w1) := hide ((bnext hbel (unhide HB0)).trans ((unhide HV1).2.bel (hv.later (unhide HB0)) (Nat.le_trans hbel.size (unhide HB0).size)))
  refine num_region (B := W.heap.size) (r := l ++ (wordK K).data.toList) (bx := w.heap.size) (row := tbox (K : Int) T) (u := u) (M := fun l2 => l2 = l ++ (wordK K).data.toList ++ [40] ++ Lib.decDigits u) opIs_of opIs_of opIs_of opIs_of opIs_of opIs_of opIs_of opIs_of opIs_of rfl rfl rfl (unhide HV1).1 (unhide HW1).size (unhide HRM) rfl ((unhide HV1).2.row (unhide HF0) (unhide HX0)) ((unhide HV1).2.far (unhide HF0) (by simp; omega)) (fun W => fa_pat _ 2 (by omega) W) (fun W hW => ld_int (unhide HU ▸ (cellsP hW).2.2.1)) (fun l2 h2 => by
      have := unhide HDL
      have := unhide HRM
      rw [h2, List.length_append, List.length_append, List.length_singleton]
      omega) (fun w3 v3 hb3 he3 => (appendInt_any u hu2 hb3 (Nat.le_trans (unhide HW1).size he3.grown.size) (by have := unhide HRM; rw [List.length_append, List.length_singleton]; omega) (hR.pow w3 ((unhide HW1).trans (he3.bel (unhide HV1).1 (unhide HW1).size)))).mono fun e w4 h => by
      obtain ⟨v4, rfl, q1, q2⟩ := h
      exact ⟨v4, rfl, _, q1, q2, rfl⟩) ?_
  intro x w2 v2 l2 hb2 hl2 he2 hx4
  have HV2 := hide (And.intro hb2 (And.intro hl2 he2))
  clear hb2 hl2 he2
  simp only [fl]
  go_frame
  rw [hx4]
  clear hx4
  go_wp2_with fail
  go_ret
  obtain ⟨hb2, hl2, he2⟩ := unhide HV2
  obtain ⟨hv1, he1⟩ := unhide HV1
  have hws := wordK_size K
  have hwl : (wordK K).data.toList.length = (wordK K).size := by simp
  obtain ⟨l0, rfl, rfl⟩ := hl2
  have hdl := unhide HDL
  exact ⟨_, _, rfl, hb2, (Ext.below v (unhide HB0)).trans (he1.trans he2), (unhide HW1).trans (he2.bel hv1 (unhide HW1).size), (((Grew.leaf l ((wordK K).data.toList ++ (40 :: Lib.decDigits u ++ [41])) hl (by simp only [List.length_append, List.length_cons, List.length_nil]; omega)).cast (unhide HT).symm).more (by omega)).ret (by simp)⟩
set_option maxRecDepth 100000 in
set_option maxHeartbeats 2000000 in
theorem word_txt (T : PT) (W w : World) (v : Value) (l : List UInt8) (hR : Ready W) (hT : T.In W) (hbel : Below W.heap.size W w) (hbad : T.bad = 0) (hv : Bytes w W.heap.size v l) (hl : l.length ≤ 65536) (hh : hasK T.k = 1) (hw : 3 ≤ T.k ∧ T.k ≤ 7) :
    Calls Tryz.prog 57 #[v, .agg #[.int .i64 T.k, .string T.t, .int .i64 T.n, .string T.nm, .slice T.xa T.len T.cap]] w fun e w' => AppPost W w v l T.txt (30 * T.cnt - 10) e w' := by
  obtain ⟨r1, r2, r3, r4, r5, r6, r7⟩ := right_node (bad_zero hbad).1
  have hte := PT.txt_eq r1
  have hcp := T.cnt_pos
  obtain ⟨K, hK⟩ : ∃ K : Nat, T.k = (K : Int) := ⟨T.k.toNat, by omega⟩
  obtain ⟨s0, s1, s2, s3⟩ := (hR.shapes.later hbel) K (by omega) (by omega)
  have hz : (1 : Nat) < w.heap.size := World.block_lt_of_cell? _ _ s0
  have hz' : ¬ w.heap.size = 1 := by omega
  rw [show hasK (K : Int) = 1 by rw [← hK]; exact hh] at s1
  obtain ⟨lst, hlst⟩ : ∃ x, x = leastK (K : Int) := ⟨_, rfl⟩
  obtain ⟨mst, hmst⟩ : ∃ x, x = mostK (K : Int) := ⟨_, rfl⟩
  rw [← hlst] at s2
  rw [← hmst] at s3
  clear hlst hmst
  have h1 : ¬ (K : Int) < 0 := by omega
  have h2 : (K : Int) < 25 := by omega
  have HB0 := hide (((Below.refl w.heap.size w).alloc (Nat.le_refl _) (.cells #[.int .i64 (K : Int), .string T.t, .int .i64 T.n, .string T.nm, .slice T.xa T.len T.cap] 30)).alloc (by simp) (.cells #[.string (wordK K), .int .i64 1, .int .i64 lst, .int .i64 mst] 113))
  have HX0 : Hid (((w.alloc (.cells #[.int .i64 (K : Int), .string T.t, .int .i64 T.n, .string T.nm, .slice T.xa T.len T.cap] 30)).alloc (.cells #[.string (wordK K), .int .i64 1, .int .i64 lst, .int .i64 mst] 113)).heap[w.heap.size]? = some (tbox (K : Int) T)) := hide (at_old (by simp) (at_new rfl))
  have HX1 : Hid (((w.alloc (.cells #[.int .i64 (K : Int), .string T.t, .int .i64 T.n, .string T.nm, .slice T.xa T.len T.cap] 30)).alloc (.cells #[.string (wordK K), .int .i64 1, .int .i64 lst, .int .i64 mst] 113)).heap[w.heap.size + 1]? = some (.cells #[.string (wordK K), .int .i64 1, .int .i64 lst, .int .i64 mst] 113 (0, 0))) := hide (at_new (by simp))
  have HF0 := hide (hv.apart (Nat.le_refl _))
  have HF1 := hide (hv.apart (Nat.le_succ _))
  have hwk : (wordK T.k.toNat) = wordK K := by rw [hK, Int.toNat_natCast]
  have htz := r3 hh
  have hqs := quoteB_size T.t htz
  have HT : Hid (T.txt = (wordK K).data.toList ++ (40 :: (quoteB T.t).data.toList ++ [41])) := hide (by
    rw [hte, if_neg (by omega), if_neg (by omega), if_neg (by omega), if_neg (by omega), if_neg (by omega), if_neg (by omega), if_neg (by omega), if_neg (by omega), if_pos hh, hwk]
    rfl)
  have HRM : Hid ((l ++ (wordK K).data.toList).length + 140000 ≤ 100000000) := hide (by
    have := wordK_size K
    have hq : (wordK K).data.toList.length = (wordK K).size := by simp
    rw [List.length_append]
    omega)
  rw [hK]
  have HKE := hide hK
  clear hK hte
  go_enter Tryz.func57, Tryz.ntmps57
  go_wp2_with (first | (at_builtin; refine wpx_str rfl _ _ rfl W.heap.size _ l (wordK K) rfl rfl (by exact hv.later (unhide HB0)) (by exact Nat.le_trans hbel.size (unhide HB0).size) (by have := wordK_size K; omega) ?_; intro v1 w1 hv1 he1; have HV1 := hide (And.intro hv1 he1); (obtain ⟨c0, c1, c2, c3, c4⟩ := cellsP (he1.row (unhide HF0) (unhide HX0))); (obtain ⟨y0, y1, y2, y3⟩ := cells4s (he1.row (unhide HF1) (unhide HX1))); clear hv1 he1))
  have HW1 : Hid (Below W.heap.size W w1) := hide ((bnext hbel (unhide HB0)).trans ((unhide HV1).2.bel (hv.later (unhide HB0)) (Nat.le_trans hbel.size (unhide HB0).size)))
  obtain ⟨mm, hmm⟩ := hR.lim
  refine txq_region (B := W.heap.size) (r := l ++ (wordK K).data.toList) (bx := w.heap.size) (row := tbox (K : Int) T) (t := T.t) opIs_of opIs_of opIs_of opIs_of opIs_of opIs_of opIs_of opIs_of opIs_of opIs_of rfl rfl rfl (unhide HV1).1 (unhide HW1).size (unhide HRM) rfl ((unhide HV1).2.row (unhide HF0) (unhide HX0)) ((unhide HV1).2.far (unhide HF0) (by simp; omega)) (by omega) (fun W => fa_pat _ 1 (by omega) W) (fun W hW => ld_str (cellsP hW).2.1) (fun w3 {c} he3 => (quote_any T.t w3 htz mm (cell_later ((unhide HW1).trans (he3.bel (unhide HV1).1 (unhide HW1).size)) hmm))) ?_
  intro x w2 v2 l2 hb2 hl2 he2 hx4
  have HV2 := hide (And.intro hb2 (And.intro hl2 he2))
  clear hb2 hl2 he2
  simp only [fl]
  go_frame
  rw [hx4]
  clear hx4
  go_wp2_with fail
  go_ret
  obtain ⟨hb2, hl2, he2⟩ := unhide HV2
  obtain ⟨hv1, he1⟩ := unhide HV1
  have hws := wordK_size K
  have hwl : (wordK K).data.toList.length = (wordK K).size := by simp
  have hl2 : l2 = l ++ (wordK K).data.toList ++ [40] ++ (quoteB T.t).data.toList ++ [41] := hl2
  subst hl2
  have hql : (quoteB T.t).data.toList.length = (quoteB T.t).size := by simp
  exact ⟨_, _, rfl, hb2, (Ext.below v (unhide HB0)).trans (he1.trans he2), (unhide HW1).trans (he2.bel hv1 (unhide HW1).size), (((Grew.leaf l ((wordK K).data.toList ++ (40 :: (quoteB T.t).data.toList ++ [41])) hl (by simp only [List.length_append, List.length_cons, List.length_nil]; omega)).cast (unhide HT).symm).more (by omega)).ret (by simp)⟩
set_option maxRecDepth 100000 in
set_option maxHeartbeats 2000000 in
theorem word_arb (T : PT) (W w : World) (v : Value) (l : List UInt8) (hR : Ready W) (hT : T.In W) (hbel : Below W.heap.size W w) (hbad : T.bad = 0) (hv : Bytes w W.heap.size v l) (hl : l.length ≤ 65536) (hh : hasK T.k = 0) (hw : T.k = 20) (ih : AppSays (T.kid 0)) (hN : max l.length 196700 + 30 * T.cnt ≤ 10000000) (h4 : T.cnt ≤ 4096) :
    Calls Tryz.prog 57 #[v, .agg #[.int .i64 T.k, .string T.t, .int .i64 T.n, .string T.nm, .slice T.xa T.len T.cap]] w fun e w' => AppPost W w v l T.txt (30 * T.cnt - 10) e w' := by
  obtain ⟨r1, r2, r3, r4, r5, r6, r7⟩ := right_node (bad_zero hbad).1
  have hte := PT.txt_eq r1
  have hcp := T.cnt_pos
  obtain ⟨K, hK⟩ : ∃ K : Nat, T.k = (K : Int) := ⟨T.k.toNat, by omega⟩
  obtain ⟨s0, s1, s2, s3⟩ := (hR.shapes.later hbel) K (by omega) (by omega)
  have hz : (1 : Nat) < w.heap.size := World.block_lt_of_cell? _ _ s0
  have hz' : ¬ w.heap.size = 1 := by omega
  rw [show hasK (K : Int) = 0 by rw [← hK]; exact hh] at s1
  obtain ⟨lst, hlst⟩ : ∃ x, x = leastK (K : Int) := ⟨_, rfl⟩
  obtain ⟨mst, hmst⟩ : ∃ x, x = mostK (K : Int) := ⟨_, rfl⟩
  rw [← hlst] at s2
  rw [← hmst] at s3
  clear hlst hmst
  have h1 : ¬ (K : Int) < 0 := by omega
  have h2 : (K : Int) < 25 := by omega
  have HB0 := hide (((Below.refl w.heap.size w).alloc (Nat.le_refl _) (.cells #[.int .i64 (K : Int), .string T.t, .int .i64 T.n, .string T.nm, .slice T.xa T.len T.cap] 30)).alloc (by simp) (.cells #[.string (wordK K), .int .i64 0, .int .i64 lst, .int .i64 mst] 113))
  have HX0 : Hid (((w.alloc (.cells #[.int .i64 (K : Int), .string T.t, .int .i64 T.n, .string T.nm, .slice T.xa T.len T.cap] 30)).alloc (.cells #[.string (wordK K), .int .i64 0, .int .i64 lst, .int .i64 mst] 113)).heap[w.heap.size]? = some (tbox (K : Int) T)) := hide (at_old (by simp) (at_new rfl))
  have HX1 : Hid (((w.alloc (.cells #[.int .i64 (K : Int), .string T.t, .int .i64 T.n, .string T.nm, .slice T.xa T.len T.cap] 30)).alloc (.cells #[.string (wordK K), .int .i64 0, .int .i64 lst, .int .i64 mst] 113)).heap[w.heap.size + 1]? = some (.cells #[.string (wordK K), .int .i64 0, .int .i64 lst, .int .i64 mst] 113 (0, 0))) := hide (at_new (by simp))
  have HF0 := hide (hv.apart (Nat.le_refl _))
  have HF1 := hide (hv.apart (Nat.le_succ _))
  have hwk : (wordK T.k.toNat) = wordK K := by rw [hK, Int.toNat_natCast]
  have hlen : 0 < T.len := by
    have h6 : leastK T.k = 1 := by unfold leastK; rw [if_neg (by omega), if_pos (by omega)]
    omega
  have hkp := (T.kid 0).cnt_pos
  have hkc : 1 + (T.kid 0).cnt ≤ T.cnt := by
    have h1 := T.cnt_eq
    have h2 := sumTo_le (fun i => (T.kid i).cnt) (show 0 + 1 ≤ T.len from hlen)
    simp only [sumTo] at h2
    omega
  have HT : Hid (T.txt = (wordK K).data.toList ++ (40 :: (T.kid 0).txt ++ [41])) := hide (by
    rw [hte, if_neg (by omega), if_neg (by omega), if_neg (by omega), if_neg (by omega), if_neg (by omega), if_neg (by omega), if_neg (by omega), if_neg (by omega), if_neg (by omega), if_pos hw, hwk])
  have h20 : ((K : Int) == 20) = true := bt
  have HLW : Hid ((l ++ (wordK K).data.toList).length ≤ 65542) := hide (by
    have := wordK_size K
    have hq : (wordK K).data.toList.length = (wordK K).size := by simp
    rw [List.length_append]
    omega)
  have HKC := hide (hT.cells hlen)
  have HIA := hide (kid_at hT hlen)
  have HRM : Hid ((l ++ (wordK K).data.toList).length + 140000 ≤ 100000000) := hide (by
    have := wordK_size K
    have hq : (wordK K).data.toList.length = (wordK K).size := by simp
    rw [List.length_append]
    omega)
  rw [hK]
  have HKE := hide hK
  clear hK hte
  go_enter Tryz.func57, Tryz.ntmps57
  go_wp2_with (first | (at_builtin; refine wpx_str rfl _ _ rfl W.heap.size _ l (wordK K) rfl rfl (by exact hv.later (unhide HB0)) (by exact Nat.le_trans hbel.size (unhide HB0).size) (by have := wordK_size K; omega) ?_; intro v1 w1 hv1 he1; have HV1 := hide (And.intro hv1 he1); (obtain ⟨c0, c1, c2, c3, c4⟩ := cellsP (he1.row (unhide HF0) (unhide HX0))); (obtain ⟨y0, y1, y2, y3⟩ := cells4s (he1.row (unhide HF1) (unhide HX1))); clear hv1 he1))
  have HW1 : Hid (Below W.heap.size W w1) := hide ((bnext hbel (unhide HB0)).trans ((unhide HV1).2.bel (hv.later (unhide HB0)) (Nat.le_trans hbel.size (unhide HB0).size)))
  refine arb_region (B := W.heap.size) (r := l ++ (wordK K).data.toList) (bx := w.heap.size) (row := tbox (K : Int) T) (kids := .slice T.xa T.len T.cap) (kp := .pointer (some ⟨T.b, T.o, none⟩)) (kid := .agg #[.int .i64 (T.kid 0).k, .string (T.kid 0).t, .int .i64 (T.kid 0).n, .string (T.kid 0).nm, .slice (T.kid 0).xa (T.kid 0).len (T.kid 0).cap]) (M := fun l2 => Grew (l ++ (wordK K).data.toList ++ [40]) (T.kid 0).txt l2 (30 * (T.kid 0).cnt - 10)) opIs_of opIs_of opIs_of opIs_of opIs_of opIs_of opIs_of opIs_of opIs_of opIs_of opIs_of rfl rfl rfl (unhide HV1).1 (unhide HW1).size (unhide HRM) rfl ((unhide HV1).2.row (unhide HF0) (unhide HX0)) ((unhide HV1).2.far (unhide HF0) (by simp; omega)) (fun W => fa_pat _ 4 (by omega) W) (fun W hW => ld_sl (cellsP hW).2.2.2.2) (fun W => by simpa using unhide HIA W) (fun W' {c} he3 => by
      have hb := (unhide HW1).trans (he3.bel (unhide HV1).1 (unhide HW1).size)
      obtain ⟨k0, k1, k2, k3, k4⟩ := unhide HKC
      have := ld_pat (cell_later hb k0) (cell_later hb k1) (cell_later hb k2) (cell_later hb k3) (cell_later hb k4)
      simpa [PT.kv] using this) (fun l2 h2 => by
      have hm := h2.most
      have := unhide HLW
      rw [List.length_append, List.length_singleton] at hm
      omega) (fun w3 v3 hb3 he3 => (ih W w3 v3 (l ++ (wordK K).data.toList ++ [40]) hR (hT.kids hlen) ((unhide HW1).trans (he3.bel (unhide HV1).1 (unhide HW1).size)) ((bad_zero hbad).2 0 hlen) hb3 (by have := unhide HLW; rw [List.length_append, List.length_singleton]; omega) (by omega)).mono fun e w4 h => by
      obtain ⟨v4, r4, rfl, q1, q2, q3, q4⟩ := h
      exact ⟨v4, rfl, r4, q1, q2, q4⟩) ?_
  intro x w2 v2 l2 hb2 hl2 he2 hx4
  have HV2 := hide (And.intro hb2 (And.intro hl2 he2))
  clear hb2 hl2 he2
  simp only [fl]
  go_frame
  rw [hx4]
  clear hx4
  go_wp2_with fail
  go_ret
  obtain ⟨hb2, hl2, he2⟩ := unhide HV2
  obtain ⟨hv1, he1⟩ := unhide HV1
  have hws := wordK_size K
  have hwl : (wordK K).data.toList.length = (wordK K).size := by simp
  obtain ⟨l0, hg, rfl⟩ := hl2
  exact ⟨_, _, rfl, hb2, (Ext.below v (unhide HB0)).trans (he1.trans he2), (unhide HW1).trans (he2.bel hv1 (unhide HW1).size), (((((Grew.put l (wordK K).data.toList).trans (Grew.put _ [40])).trans hg).trans (Grew.put l0 [41])).cast (by rw [unhide HT]; simp)).more (by simp only [List.length_cons, List.length_nil]; omega)⟩
end Go.Proofs.YtpphjddljngkmaaGreatDoor
