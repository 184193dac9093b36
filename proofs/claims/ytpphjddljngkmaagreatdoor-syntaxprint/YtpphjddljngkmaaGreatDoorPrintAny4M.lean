/- What pats.appendPat and Print do, for every right pattern. What pats.Print answers. -/
import Derived.Test.YtpphjddljngkmaaGreatDoorPrintWord4sP
import Derived.Test.YtpphjddljngkmaaGreatDoorPrintReg5P
import Derived.Test.YtpphjddljngkmaaGreatDoorPrintSaid4M
import Derived.Lib.LaidTab
namespace Go.Proofs.YtpphjddljngkmaaGreatDoor
open Go.RowKit
set_option linter.unusedVariables false

theorem len_own4 {w : World} {B : Nat} {v : Value} {l : List UInt8} (h : Bytes w B v l) (W : World) : (Builtin.len_ #[50] 3 #[v]).run Tryz.prog W = .ok (.int .i64 (l.length : Int)) W := by
  rcases h.2 with ⟨rfl, h0⟩ | ⟨g, cap, cur, rfl, _, _, _, _, _, _⟩
  · rw [h0]; go_simp
  · go_simp
theorem worded_any (T : PT) (ih : ∀ i, i < T.len → AppSays (T.kid i)) (W w : World) (v : Value) (l : List UInt8) (hR : Ready W) (hT : T.In W) (hbel : Below W.heap.size W w) (hbad : T.bad = 0) (hv : Bytes w W.heap.size v l) (hl : l.length ≤ 65536) (hk : T.k ≠ 1 ∧ T.k ≠ 18 ∧ T.k ≠ 19 ∧ T.k ≠ 21 ∧ T.k ≠ 22 ∧ T.k ≠ 23 ∧ T.k ≠ 24) (hN : max l.length 196700 + 30 * T.cnt ≤ 10000000) (h4 : T.cnt ≤ 4096) :
    Calls Tryz.prog 57 #[v, .agg #[.int .i64 T.k, .string T.t, .int .i64 T.n, .string T.nm, .slice T.xa T.len T.cap]] w fun e w' => AppPost W w v l T.txt (30 * T.cnt - 10) e w' := by
  obtain ⟨r1, r2, -, -, -, r6, -⟩ := right_node (bad_zero hbad).1
  rcases (show T.k = 20 ∨ (12 ≤ T.k ∧ T.k ≤ 17) ∨ (T.k = 2 ∨ 8 ≤ T.k ∧ T.k ≤ 11) ∨ (3 ≤ T.k ∧ T.k ≤ 7) by omega) with q | q | q | q
  · have hlen : 0 < T.len := by
      have h6 : leastK T.k = 1 := by unfold leastK; rw [if_neg (by omega), if_pos (by omega)]
      omega
    exact word_arb T W w v l hR hT hbel hbad hv hl (by unfold hasK; rw [if_neg (by omega), if_neg (by omega), if_neg (by omega)]) q (ih 0 hlen) hN h4
  · exact word_none T W w v l hR hT hbel hbad hv hl (by unfold hasK; rw [if_neg (by omega), if_neg (by omega), if_neg (by omega)]) q
  · exact word_num T W w v l hR hT hbel hbad hv hl (by unfold hasK; rw [if_neg (by omega), if_pos (by omega)]) q
  · exact word_txt T W w v l hR hT hbel hbad hv hl (by unfold hasK; rw [if_pos (by omega)]) q
set_option maxRecDepth 100000 in
set_option maxHeartbeats 2000000 in
theorem pat_long (T : PT) (ih : ∀ i, i < T.len → AppSays (T.kid i)) (W w : World) (v : Value) (l : List UInt8) (hR : Ready W) (hT : T.In W) (hbel : Below W.heap.size W w) (hbad : T.bad = 0) (hv : Bytes w W.heap.size v l) (hN : max l.length 196700 + 30 * T.cnt ≤ 10000000) (h4 : T.cnt ≤ 4096) (hl : 65536 < l.length) (h0 : True) :
    Calls Tryz.prog 41 #[v, .agg #[.int .i64 T.k, .string T.t, .int .i64 T.n, .string T.nm, .slice T.xa T.len T.cap]] w fun e w' => AppPost W w v l T.txt (30 * T.cnt - 10) e w' := by
  obtain ⟨r1, r2, r3, r4, r5, r6, r7⟩ := right_node (bad_zero hbad).1
  have hte := PT.txt_eq r1
  have hcp := T.cnt_pos
  have hlen := len_own4 hv
  have HB0 := hide ((Below.refl w.heap.size w).alloc (Nat.le_refl _) (.cells #[.int .i64 T.k, .string T.t, .int .i64 T.n, .string T.nm, .slice T.xa T.len T.cap] 30))
  have HX0 : Hid ((w.alloc (.cells #[.int .i64 T.k, .string T.t, .int .i64 T.n, .string T.nm, .slice T.xa T.len T.cap] 30)).heap[w.heap.size]? = some (tbox T.k T)) := hide (at_new rfl)
  have HF0 := hide (hv.apart (Nat.le_refl _))
  have HV0 := hide (hv.later (unhide HB0))
  have HW0 := hide (bnext hbel (unhide HB0))
  have hs1 : (65536 : Int) < (l.length : Int) := by omega
  clear hte r1 r2 r3 r4 r5 r6 r7
  go_enter Tryz.func41, Tryz.ntmps41
  go_wp2_with fail
  go_ret
  exact ⟨_, l, rfl, unhide HV0, Ext.below v (unhide HB0), unhide HW0, (Grew.gave l _ hl).more (by omega)⟩
set_option maxRecDepth 100000 in
set_option maxHeartbeats 2000000 in
theorem pat_lit (T : PT) (ih : ∀ i, i < T.len → AppSays (T.kid i)) (W w : World) (v : Value) (l : List UInt8) (hR : Ready W) (hT : T.In W) (hbel : Below W.heap.size W w) (hbad : T.bad = 0) (hv : Bytes w W.heap.size v l) (hN : max l.length 196700 + 30 * T.cnt ≤ 10000000) (h4 : T.cnt ≤ 4096) (hl : l.length ≤ 65536) (hk : T.k = 1) :
    Calls Tryz.prog 41 #[v, .agg #[.int .i64 T.k, .string T.t, .int .i64 T.n, .string T.nm, .slice T.xa T.len T.cap]] w fun e w' => AppPost W w v l T.txt (30 * T.cnt - 10) e w' := by
  obtain ⟨r1, r2, r3, r4, r5, r6, r7⟩ := right_node (bad_zero hbad).1
  have hte := PT.txt_eq r1
  have hcp := T.cnt_pos
  have hlen := len_own4 hv
  have HB0 := hide ((Below.refl w.heap.size w).alloc (Nat.le_refl _) (.cells #[.int .i64 T.k, .string T.t, .int .i64 T.n, .string T.nm, .slice T.xa T.len T.cap] 30))
  have HX0 : Hid ((w.alloc (.cells #[.int .i64 T.k, .string T.t, .int .i64 T.n, .string T.nm, .slice T.xa T.len T.cap] 30)).heap[w.heap.size]? = some (tbox T.k T)) := hide (at_new rfl)
  have HF0 := hide (hv.apart (Nat.le_refl _))
  have HV0 := hide (hv.later (unhide HB0))
  have HW0 := hide (bnext hbel (unhide HB0))
  have e1 : (T.k == 1) = true := bt
  have e18 : (T.k == 18) = false := bn
  have e19 : (T.k == 19) = false := bn
  have e21 : (T.k == 21) = false := bn
  have e22 : (T.k == 22) = false := bn
  have e23 : (T.k == 23) = false := bn
  have e24 : (T.k == 24) = false := bn
  have hs1 : ¬ (65536 : Int) < (l.length : Int) := by omega
  have htz := r3 (by unfold hasK; rw [if_pos (by omega)])
  have hqs := quoteB_size T.t htz
  have HT : Hid (T.txt = (quoteB T.t).data.toList) := hide (by rw [hte, if_pos hk]; rfl)
  obtain ⟨mm, hmm⟩ := hR.lim
  have HQ := hide (quote_any T.t _ htz mm (cell_later (unhide HW0) hmm))
  clear hte r1 r2 r3 r4 r5 r6 r7 hk
  go_enter Tryz.func41, Tryz.ntmps41
  go_wp2_with (first | (go_at_call 55; refine (unhide HQ).mono ?_; rintro e w1 ⟨rfl, hb1⟩; have HB1 := hide hb1; clear hb1) | (at_builtin; refine wpx_str rfl _ _ rfl W.heap.size _ l (quoteB T.t) rfl rfl (by exact (unhide HV0).later (unhide HB1)) (by exact Nat.le_trans (unhide HW0).size (unhide HB1).size) (by omega) ?_; intro v1 w1' hv1 he1))
  go_ret
  have hql : (quoteB T.t).data.toList.length = (quoteB T.t).size := by simp
  exact ⟨_, _, rfl, hv1, ((Ext.below v (unhide HB0)).trans (Ext.below v (unhide HB1))).trans he1, (bnext (unhide HW0) (unhide HB1)).trans (he1.bel ((unhide HV0).later (unhide HB1)) (Nat.le_trans (unhide HW0).size (unhide HB1).size)), ((Grew.leaf l _ hl (by omega)).cast (unhide HT).symm).more (by omega)⟩
set_option maxRecDepth 100000 in
set_option maxHeartbeats 2000000 in
theorem pat_cat (T : PT) (ih : ∀ i, i < T.len → AppSays (T.kid i)) (W w : World) (v : Value) (l : List UInt8) (hR : Ready W) (hT : T.In W) (hbel : Below W.heap.size W w) (hbad : T.bad = 0) (hv : Bytes w W.heap.size v l) (hN : max l.length 196700 + 30 * T.cnt ≤ 10000000) (h4 : T.cnt ≤ 4096) (hl : l.length ≤ 65536) (hk : T.k = 18) :
    Calls Tryz.prog 41 #[v, .agg #[.int .i64 T.k, .string T.t, .int .i64 T.n, .string T.nm, .slice T.xa T.len T.cap]] w fun e w' => AppPost W w v l T.txt (30 * T.cnt - 10) e w' := by
  obtain ⟨r1, r2, r3, r4, r5, r6, r7⟩ := right_node (bad_zero hbad).1
  have hte := PT.txt_eq r1
  have hcp := T.cnt_pos
  have hlen := len_own4 hv
  have HB0 := hide ((Below.refl w.heap.size w).alloc (Nat.le_refl _) (.cells #[.int .i64 T.k, .string T.t, .int .i64 T.n, .string T.nm, .slice T.xa T.len T.cap] 30))
  have HX0 : Hid ((w.alloc (.cells #[.int .i64 T.k, .string T.t, .int .i64 T.n, .string T.nm, .slice T.xa T.len T.cap] 30)).heap[w.heap.size]? = some (tbox T.k T)) := hide (at_new rfl)
  have HF0 := hide (hv.apart (Nat.le_refl _))
  have HV0 := hide (hv.later (unhide HB0))
  have HW0 := hide (bnext hbel (unhide HB0))
  have e1 : (T.k == 1) = false := bn
  have e18 : (T.k == 18) = true := bt
  have e19 : (T.k == 19) = false := bn
  have e21 : (T.k == 21) = false := bn
  have e22 : (T.k == 22) = false := bn
  have e23 : (T.k == 23) = false := bn
  have e24 : (T.k == 24) = false := bn
  have hs1 : ¬ (65536 : Int) < (l.length : Int) := by omega
  have HT : Hid (T.txt = joinTo [32] T.kidT T.len) := hide (by rw [hte, if_neg (by omega), if_pos hk])
  have HC := hide (T.cnt_eq)
  have HK := hide (kids_step T ih ⟨#[32]⟩ (by decide) W _ v l hR hT (unhide HW0) hbad (unhide HV0) (by omega) h4)
  clear hte r1 r2 r3 r4 r5 r6 r7 hk
  go_enter Tryz.func41, Tryz.ntmps41
  go_wp2_with fail
  refine (unhide HK).mono ?_
  rintro e w1 ⟨v1, r1', rfl, hb1, he1, hB1, hg1⟩
  have HV1 := hide (And.intro hb1 (And.intro he1 (And.intro hB1 hg1)))
  clear hb1 he1 hB1 hg1
  go_wp2_with fail
  go_ret
  obtain ⟨hb1, he1, hB1, hg1⟩ := unhide HV1
  exact ⟨_, _, rfl, hb1, (Ext.below v (unhide HB0)).trans he1, hB1, (hg1.cast (by rw [unhide HT])).more (by have := unhide HC; omega)⟩
set_option maxRecDepth 100000 in
set_option maxHeartbeats 2000000 in
theorem pat_alt (T : PT) (ih : ∀ i, i < T.len → AppSays (T.kid i)) (W w : World) (v : Value) (l : List UInt8) (hR : Ready W) (hT : T.In W) (hbel : Below W.heap.size W w) (hbad : T.bad = 0) (hv : Bytes w W.heap.size v l) (hN : max l.length 196700 + 30 * T.cnt ≤ 10000000) (h4 : T.cnt ≤ 4096) (hl : l.length ≤ 65536) (hk : T.k = 19) :
    Calls Tryz.prog 41 #[v, .agg #[.int .i64 T.k, .string T.t, .int .i64 T.n, .string T.nm, .slice T.xa T.len T.cap]] w fun e w' => AppPost W w v l T.txt (30 * T.cnt - 10) e w' := by
  obtain ⟨r1, r2, r3, r4, r5, r6, r7⟩ := right_node (bad_zero hbad).1
  have hte := PT.txt_eq r1
  have hcp := T.cnt_pos
  have hlen := len_own4 hv
  have HB0 := hide ((Below.refl w.heap.size w).alloc (Nat.le_refl _) (.cells #[.int .i64 T.k, .string T.t, .int .i64 T.n, .string T.nm, .slice T.xa T.len T.cap] 30))
  have HX0 : Hid ((w.alloc (.cells #[.int .i64 T.k, .string T.t, .int .i64 T.n, .string T.nm, .slice T.xa T.len T.cap] 30)).heap[w.heap.size]? = some (tbox T.k T)) := hide (at_new rfl)
  have HF0 := hide (hv.apart (Nat.le_refl _))
  have HV0 := hide (hv.later (unhide HB0))
  have HW0 := hide (bnext hbel (unhide HB0))
  have e1 : (T.k == 1) = false := bn
  have e18 : (T.k == 18) = false := bn
  have e19 : (T.k == 19) = true := bt
  have e21 : (T.k == 21) = false := bn
  have e22 : (T.k == 22) = false := bn
  have e23 : (T.k == 23) = false := bn
  have e24 : (T.k == 24) = false := bn
  have hs1 : ¬ (65536 : Int) < (l.length : Int) := by omega
  have HT : Hid (T.txt = joinTo [32, 124, 32] T.kidT T.len) := hide (by rw [hte, if_neg (by omega), if_neg (by omega), if_pos hk])
  have HC := hide (T.cnt_eq)
  have HK := hide (kids_step T ih ⟨#[32, 124, 32]⟩ (by decide) W _ v l hR hT (unhide HW0) hbad (unhide HV0) (by omega) h4)
  clear hte r1 r2 r3 r4 r5 r6 r7 hk
  go_enter Tryz.func41, Tryz.ntmps41
  go_wp2_with fail
  refine (unhide HK).mono ?_
  rintro e w1 ⟨v1, r1', rfl, hb1, he1, hB1, hg1⟩
  have HV1 := hide (And.intro hb1 (And.intro he1 (And.intro hB1 hg1)))
  clear hb1 he1 hB1 hg1
  go_wp2_with fail
  go_ret
  obtain ⟨hb1, he1, hB1, hg1⟩ := unhide HV1
  exact ⟨_, _, rfl, hb1, (Ext.below v (unhide HB0)).trans he1, hB1, (hg1.cast (by rw [unhide HT])).more (by have := unhide HC; omega)⟩
set_option maxRecDepth 100000 in
set_option maxHeartbeats 2000000 in
theorem pat_cnd (T : PT) (ih : ∀ i, i < T.len → AppSays (T.kid i)) (W w : World) (v : Value) (l : List UInt8) (hR : Ready W) (hT : T.In W) (hbel : Below W.heap.size W w) (hbad : T.bad = 0) (hv : Bytes w W.heap.size v l) (hN : max l.length 196700 + 30 * T.cnt ≤ 10000000) (h4 : T.cnt ≤ 4096) (hl : l.length ≤ 65536) (hk : T.k = 21) :
    Calls Tryz.prog 41 #[v, .agg #[.int .i64 T.k, .string T.t, .int .i64 T.n, .string T.nm, .slice T.xa T.len T.cap]] w fun e w' => AppPost W w v l T.txt (30 * T.cnt - 10) e w' := by
  obtain ⟨r1, r2, r3, r4, r5, r6, r7⟩ := right_node (bad_zero hbad).1
  have hte := PT.txt_eq r1
  have hcp := T.cnt_pos
  have hlen := len_own4 hv
  have HB0 := hide ((Below.refl w.heap.size w).alloc (Nat.le_refl _) (.cells #[.int .i64 T.k, .string T.t, .int .i64 T.n, .string T.nm, .slice T.xa T.len T.cap] 30))
  have HX0 : Hid ((w.alloc (.cells #[.int .i64 T.k, .string T.t, .int .i64 T.n, .string T.nm, .slice T.xa T.len T.cap] 30)).heap[w.heap.size]? = some (tbox T.k T)) := hide (at_new rfl)
  have HF0 := hide (hv.apart (Nat.le_refl _))
  have HV0 := hide (hv.later (unhide HB0))
  have HW0 := hide (bnext hbel (unhide HB0))
  have e1 : (T.k == 1) = false := bn
  have e18 : (T.k == 18) = false := bn
  have e19 : (T.k == 19) = false := bn
  have e21 : (T.k == 21) = true := bt
  have e22 : (T.k == 22) = false := bn
  have e23 : (T.k == 23) = false := bn
  have e24 : (T.k == 24) = false := bn
  have hs1 : ¬ (65536 : Int) < (l.length : Int) := by omega
  have hnz : T.nm.size ≤ 16 := named_zero (bad_zero hbad).1 (by omega)
  have HT : Hid (T.txt = joinTo [] T.kidT T.len ++ [32, 46, 32] ++ T.nm.data.toList) := hide (by rw [hte, if_neg (by omega), if_neg (by omega), if_neg (by omega), if_pos hk])
  have HC := hide (T.cnt_eq)
  have HKS := hide (fun w1 (hb : Below W.heap.size W w1) (hv1 : Bytes w1 W.heap.size v l) => kids_step T ih ⟨#[]⟩ (by decide) W w1 v l hR hT hb hbad hv1 (by omega) h4)
  clear hte r1 r2 r3 r4 r5 r6 r7 hk
  go_enter Tryz.func41, Tryz.ntmps41
  go_wp2_with fail
  refine cnd_region (B := W.heap.size) (r := l) (bx := w.heap.size) (row := tbox T.k T) (nm := T.nm) (pat := .agg #[.int .i64 T.k, .string T.t, .int .i64 T.n, .string T.nm, .slice T.xa T.len T.cap]) (M := fun l2 => Grew l (joinTo [] T.kidT T.len) l2 (30 * sumTo (fun i => (T.kid i).cnt) T.len)) opIs_of opIs_of opIs_of opIs_of opIs_of opIs_of opIs_of opIs_of rfl rfl rfl (unhide HV0) (unhide HW0).size (by omega) rfl (unhide HX0) (unhide HF0) hnz (fun W => fa_pat _ 3 (by omega) W) (fun W hW => ld_str (cellsP hW).2.2.2.1) (fun W hW => by
      obtain ⟨k0, k1, k2, k3, k4⟩ := cellsP hW
      exact ld_pat k0 k1 k2 k3 k4) (fun l2 h2 => by have := h2.most; have := unhide HC; omega) (fun w3 hb3 he3 => (unhide HKS w3 ((unhide HW0).trans (he3.bel (unhide HV0) (unhide HW0).size)) hb3).mono fun e w4 h => by
      obtain ⟨v4, r4', rfl, q1, q2, q3, q4⟩ := h
      exact ⟨v4, rfl, r4', q1, q2, q4⟩) ?_
  intro x w2 v2 l2 hb2 hl2 he2 hx4
  have HV2 := hide (And.intro hb2 (And.intro hl2 he2))
  clear hb2 hl2 he2
  simp only [fl]
  go_frame
  rw [hx4]
  clear hx4
  go_wp2_with fail
  go_ret
  obtain ⟨hb2, hl2, he2⟩ := unhide HV2
  obtain ⟨l0, hg, rfl⟩ := hl2
  have hnl : T.nm.data.toList.length = T.nm.size := by simp
  have hC := unhide HC
  exact ⟨_, _, rfl, hb2, (Ext.below v (unhide HB0)).trans he2, (unhide HW0).trans (he2.bel (unhide HV0) (unhide HW0).size), (((hg.trans (Grew.put l0 [32, 46, 32])).trans (Grew.put _ T.nm.data.toList)).cast (unhide HT).symm).more (by simp only [List.length_cons, List.length_nil]; omega)⟩
set_option maxRecDepth 100000 in
set_option maxHeartbeats 2000000 in
theorem pat_imm (T : PT) (ih : ∀ i, i < T.len → AppSays (T.kid i)) (W w : World) (v : Value) (l : List UInt8) (hR : Ready W) (hT : T.In W) (hbel : Below W.heap.size W w) (hbad : T.bad = 0) (hv : Bytes w W.heap.size v l) (hN : max l.length 196700 + 30 * T.cnt ≤ 10000000) (h4 : T.cnt ≤ 4096) (hl : l.length ≤ 65536) (hk : T.k = 22) :
    Calls Tryz.prog 41 #[v, .agg #[.int .i64 T.k, .string T.t, .int .i64 T.n, .string T.nm, .slice T.xa T.len T.cap]] w fun e w' => AppPost W w v l T.txt (30 * T.cnt - 10) e w' := by
  obtain ⟨r1, r2, r3, r4, r5, r6, r7⟩ := right_node (bad_zero hbad).1
  have hte := PT.txt_eq r1
  have hcp := T.cnt_pos
  have hlen := len_own4 hv
  have HB0 := hide ((Below.refl w.heap.size w).alloc (Nat.le_refl _) (.cells #[.int .i64 T.k, .string T.t, .int .i64 T.n, .string T.nm, .slice T.xa T.len T.cap] 30))
  have HX0 : Hid ((w.alloc (.cells #[.int .i64 T.k, .string T.t, .int .i64 T.n, .string T.nm, .slice T.xa T.len T.cap] 30)).heap[w.heap.size]? = some (tbox T.k T)) := hide (at_new rfl)
  have HF0 := hide (hv.apart (Nat.le_refl _))
  have HV0 := hide (hv.later (unhide HB0))
  have HW0 := hide (bnext hbel (unhide HB0))
  have e1 : (T.k == 1) = false := bn
  have e18 : (T.k == 18) = false := bn
  have e19 : (T.k == 19) = false := bn
  have e21 : (T.k == 21) = false := bn
  have e22 : (T.k == 22) = true := bt
  have e23 : (T.k == 23) = false := bn
  have e24 : (T.k == 24) = false := bn
  have hs1 : ¬ (65536 : Int) < (l.length : Int) := by omega
  have hnz : T.nm.size ≤ 16 := named_zero (bad_zero hbad).1 (by omega)
  have HT : Hid (T.txt = joinTo [] T.kidT T.len ++ [32, 36, 32] ++ T.nm.data.toList) := hide (by rw [hte, if_neg (by omega), if_neg (by omega), if_neg (by omega), if_neg (by omega), if_pos hk])
  have HC := hide (T.cnt_eq)
  have HKS := hide (fun w1 (hb : Below W.heap.size W w1) (hv1 : Bytes w1 W.heap.size v l) => kids_step T ih ⟨#[]⟩ (by decide) W w1 v l hR hT hb hbad hv1 (by omega) h4)
  clear hte r1 r2 r3 r4 r5 r6 r7 hk
  go_enter Tryz.func41, Tryz.ntmps41
  go_wp2_with fail
  refine imm_region (B := W.heap.size) (r := l) (bx := w.heap.size) (row := tbox T.k T) (nm := T.nm) (pat := .agg #[.int .i64 T.k, .string T.t, .int .i64 T.n, .string T.nm, .slice T.xa T.len T.cap]) (M := fun l2 => Grew l (joinTo [] T.kidT T.len) l2 (30 * sumTo (fun i => (T.kid i).cnt) T.len)) opIs_of opIs_of opIs_of opIs_of opIs_of opIs_of opIs_of opIs_of rfl rfl rfl (unhide HV0) (unhide HW0).size (by omega) rfl (unhide HX0) (unhide HF0) hnz (fun W => fa_pat _ 3 (by omega) W) (fun W hW => ld_str (cellsP hW).2.2.2.1) (fun W hW => by
      obtain ⟨k0, k1, k2, k3, k4⟩ := cellsP hW
      exact ld_pat k0 k1 k2 k3 k4) (fun l2 h2 => by have := h2.most; have := unhide HC; omega) (fun w3 hb3 he3 => (unhide HKS w3 ((unhide HW0).trans (he3.bel (unhide HV0) (unhide HW0).size)) hb3).mono fun e w4 h => by
      obtain ⟨v4, r4', rfl, q1, q2, q3, q4⟩ := h
      exact ⟨v4, rfl, r4', q1, q2, q4⟩) ?_
  intro x w2 v2 l2 hb2 hl2 he2 hx4
  have HV2 := hide (And.intro hb2 (And.intro hl2 he2))
  clear hb2 hl2 he2
  simp only [fl]
  go_frame
  rw [hx4]
  clear hx4
  go_wp2_with fail
  go_ret
  obtain ⟨hb2, hl2, he2⟩ := unhide HV2
  obtain ⟨l0, hg, rfl⟩ := hl2
  have hnl : T.nm.data.toList.length = T.nm.size := by simp
  have hC := unhide HC
  exact ⟨_, _, rfl, hb2, (Ext.below v (unhide HB0)).trans he2, (unhide HW0).trans (he2.bel (unhide HV0) (unhide HW0).size), (((hg.trans (Grew.put l0 [32, 36, 32])).trans (Grew.put _ T.nm.data.toList)).cast (unhide HT).symm).more (by simp only [List.length_cons, List.length_nil]; omega)⟩
set_option maxRecDepth 100000 in
set_option maxHeartbeats 2000000 in
theorem pat_cur (T : PT) (ih : ∀ i, i < T.len → AppSays (T.kid i)) (W w : World) (v : Value) (l : List UInt8) (hR : Ready W) (hT : T.In W) (hbel : Below W.heap.size W w) (hbad : T.bad = 0) (hv : Bytes w W.heap.size v l) (hN : max l.length 196700 + 30 * T.cnt ≤ 10000000) (h4 : T.cnt ≤ 4096) (hl : l.length ≤ 65536) (hk : T.k = 23) :
    Calls Tryz.prog 41 #[v, .agg #[.int .i64 T.k, .string T.t, .int .i64 T.n, .string T.nm, .slice T.xa T.len T.cap]] w fun e w' => AppPost W w v l T.txt (30 * T.cnt - 10) e w' := by
  obtain ⟨r1, r2, r3, r4, r5, r6, r7⟩ := right_node (bad_zero hbad).1
  have hte := PT.txt_eq r1
  have hcp := T.cnt_pos
  have hlen := len_own4 hv
  have HB0 := hide ((Below.refl w.heap.size w).alloc (Nat.le_refl _) (.cells #[.int .i64 T.k, .string T.t, .int .i64 T.n, .string T.nm, .slice T.xa T.len T.cap] 30))
  have HX0 : Hid ((w.alloc (.cells #[.int .i64 T.k, .string T.t, .int .i64 T.n, .string T.nm, .slice T.xa T.len T.cap] 30)).heap[w.heap.size]? = some (tbox T.k T)) := hide (at_new rfl)
  have HF0 := hide (hv.apart (Nat.le_refl _))
  have HV0 := hide (hv.later (unhide HB0))
  have HW0 := hide (bnext hbel (unhide HB0))
  have e1 : (T.k == 1) = false := bn
  have e18 : (T.k == 18) = false := bn
  have e19 : (T.k == 19) = false := bn
  have e21 : (T.k == 21) = false := bn
  have e22 : (T.k == 22) = false := bn
  have e23 : (T.k == 23) = true := bt
  have e24 : (T.k == 24) = false := bn
  have hs1 : ¬ (65536 : Int) < (l.length : Int) := by omega
  have hnz : T.nm.size ≤ 16 := named_zero (bad_zero hbad).1 (by omega)
  have HT : Hid (T.txt = 64 :: T.nm.data.toList) := hide (by rw [hte, if_neg (by omega), if_neg (by omega), if_neg (by omega), if_neg (by omega), if_neg (by omega), if_pos hk])
  clear hte r1 r2 r3 r4 r5 r6 r7 hk
  go_enter Tryz.func41, Tryz.ntmps41
  go_wp2_with fail
  refine cur_region (B := W.heap.size) (r := l) (bx := w.heap.size) (row := tbox T.k T) (nm := T.nm) opIs_of opIs_of opIs_of opIs_of opIs_of opIs_of opIs_of rfl rfl rfl (unhide HV0) (unhide HW0).size (by omega) rfl (unhide HX0) (unhide HF0) hnz (fun W => fa_pat _ 3 (by omega) W) (fun W hW => ld_str (cellsP hW).2.2.2.1) ?_
  intro x w2 v2 l2 hb2 hl2 he2 hx4
  have HV2 := hide (And.intro hb2 (And.intro hl2 he2))
  clear hb2 hl2 he2
  simp only [fl]
  go_frame
  rw [hx4]
  clear hx4
  go_wp2_with fail
  go_ret
  obtain ⟨hb2, hl2, he2⟩ := unhide HV2
  have hl2 : l2 = l ++ [64] ++ T.nm.data.toList := hl2
  subst hl2
  have hnl : T.nm.data.toList.length = T.nm.size := by simp
  exact ⟨_, _, rfl, hb2, (Ext.below v (unhide HB0)).trans he2, (unhide HW0).trans (he2.bel (unhide HV0) (unhide HW0).size), (((Grew.leaf l (64 :: T.nm.data.toList) hl (by simp only [List.length_cons]; omega)).cast (unhide HT).symm).more (by omega)).ret (by simp)⟩
set_option maxRecDepth 100000 in
set_option maxHeartbeats 2000000 in
theorem pat_cal (T : PT) (ih : ∀ i, i < T.len → AppSays (T.kid i)) (W w : World) (v : Value) (l : List UInt8) (hR : Ready W) (hT : T.In W) (hbel : Below W.heap.size W w) (hbad : T.bad = 0) (hv : Bytes w W.heap.size v l) (hN : max l.length 196700 + 30 * T.cnt ≤ 10000000) (h4 : T.cnt ≤ 4096) (hl : l.length ≤ 65536) (hk : T.k = 24) :
    Calls Tryz.prog 41 #[v, .agg #[.int .i64 T.k, .string T.t, .int .i64 T.n, .string T.nm, .slice T.xa T.len T.cap]] w fun e w' => AppPost W w v l T.txt (30 * T.cnt - 10) e w' := by
  obtain ⟨r1, r2, r3, r4, r5, r6, r7⟩ := right_node (bad_zero hbad).1
  have hte := PT.txt_eq r1
  have hcp := T.cnt_pos
  have hlen := len_own4 hv
  have HB0 := hide ((Below.refl w.heap.size w).alloc (Nat.le_refl _) (.cells #[.int .i64 T.k, .string T.t, .int .i64 T.n, .string T.nm, .slice T.xa T.len T.cap] 30))
  have HX0 : Hid ((w.alloc (.cells #[.int .i64 T.k, .string T.t, .int .i64 T.n, .string T.nm, .slice T.xa T.len T.cap] 30)).heap[w.heap.size]? = some (tbox T.k T)) := hide (at_new rfl)
  have HF0 := hide (hv.apart (Nat.le_refl _))
  have HV0 := hide (hv.later (unhide HB0))
  have HW0 := hide (bnext hbel (unhide HB0))
  have e1 : (T.k == 1) = false := bn
  have e18 : (T.k == 18) = false := bn
  have e19 : (T.k == 19) = false := bn
  have e21 : (T.k == 21) = false := bn
  have e22 : (T.k == 22) = false := bn
  have e23 : (T.k == 23) = false := bn
  have e24 : (T.k == 24) = true := bt
  have hs1 : ¬ (65536 : Int) < (l.length : Int) := by omega
  have hnz : T.nm.size ≤ 16 := named_zero (bad_zero hbad).1 (by omega)
  have HT : Hid (T.txt = 42 :: T.nm.data.toList) := hide (by rw [hte, if_neg (by omega), if_neg (by omega), if_neg (by omega), if_neg (by omega), if_neg (by omega), if_neg (by omega), if_pos hk])
  clear hte r1 r2 r3 r4 r5 r6 r7 hk
  go_enter Tryz.func41, Tryz.ntmps41
  go_wp2_with fail
  refine cal_region (B := W.heap.size) (r := l) (bx := w.heap.size) (row := tbox T.k T) (nm := T.nm) opIs_of opIs_of opIs_of opIs_of opIs_of opIs_of opIs_of rfl rfl rfl (unhide HV0) (unhide HW0).size (by omega) rfl (unhide HX0) (unhide HF0) hnz (fun W => fa_pat _ 3 (by omega) W) (fun W hW => ld_str (cellsP hW).2.2.2.1) ?_
  intro x w2 v2 l2 hb2 hl2 he2 hx4
  have HV2 := hide (And.intro hb2 (And.intro hl2 he2))
  clear hb2 hl2 he2
  simp only [fl]
  go_frame
  rw [hx4]
  clear hx4
  go_wp2_with fail
  go_ret
  obtain ⟨hb2, hl2, he2⟩ := unhide HV2
  have hl2 : l2 = l ++ [42] ++ T.nm.data.toList := hl2
  subst hl2
  have hnl : T.nm.data.toList.length = T.nm.size := by simp
  exact ⟨_, _, rfl, hb2, (Ext.below v (unhide HB0)).trans he2, (unhide HW0).trans (he2.bel (unhide HV0) (unhide HW0).size), (((Grew.leaf l (42 :: T.nm.data.toList) hl (by simp only [List.length_cons]; omega)).cast (unhide HT).symm).more (by omega)).ret (by simp)⟩
set_option maxRecDepth 100000 in
set_option maxHeartbeats 2000000 in
theorem pat_word (T : PT) (ih : ∀ i, i < T.len → AppSays (T.kid i)) (W w : World) (v : Value) (l : List UInt8) (hR : Ready W) (hT : T.In W) (hbel : Below W.heap.size W w) (hbad : T.bad = 0) (hv : Bytes w W.heap.size v l) (hN : max l.length 196700 + 30 * T.cnt ≤ 10000000) (h4 : T.cnt ≤ 4096) (hl : l.length ≤ 65536) (hk : T.k ≠ 1 ∧ T.k ≠ 18 ∧ T.k ≠ 19 ∧ T.k ≠ 21 ∧ T.k ≠ 22 ∧ T.k ≠ 23 ∧ T.k ≠ 24) :
    Calls Tryz.prog 41 #[v, .agg #[.int .i64 T.k, .string T.t, .int .i64 T.n, .string T.nm, .slice T.xa T.len T.cap]] w fun e w' => AppPost W w v l T.txt (30 * T.cnt - 10) e w' := by
  obtain ⟨r1, r2, r3, r4, r5, r6, r7⟩ := right_node (bad_zero hbad).1
  have hte := PT.txt_eq r1
  have hcp := T.cnt_pos
  have hlen := len_own4 hv
  have HB0 := hide ((Below.refl w.heap.size w).alloc (Nat.le_refl _) (.cells #[.int .i64 T.k, .string T.t, .int .i64 T.n, .string T.nm, .slice T.xa T.len T.cap] 30))
  have HX0 : Hid ((w.alloc (.cells #[.int .i64 T.k, .string T.t, .int .i64 T.n, .string T.nm, .slice T.xa T.len T.cap] 30)).heap[w.heap.size]? = some (tbox T.k T)) := hide (at_new rfl)
  have HF0 := hide (hv.apart (Nat.le_refl _))
  have HV0 := hide (hv.later (unhide HB0))
  have HW0 := hide (bnext hbel (unhide HB0))
  have e1 : (T.k == 1) = false := bn
  have e18 : (T.k == 18) = false := bn
  have e19 : (T.k == 19) = false := bn
  have e21 : (T.k == 21) = false := bn
  have e22 : (T.k == 22) = false := bn
  have e23 : (T.k == 23) = false := bn
  have e24 : (T.k == 24) = false := bn
  have hs1 : ¬ (65536 : Int) < (l.length : Int) := by omega
  have HK := hide (worded_any T ih W _ v l hR hT (unhide HW0) hbad (unhide HV0) hl hk hN h4)
  clear hte r1 r2 r3 r4 r5 r6 r7 hk
  go_enter Tryz.func41, Tryz.ntmps41
  go_wp2_with fail
  refine (unhide HK).mono ?_
  rintro e w1 ⟨v1, r1', rfl, hb1, he1, hB1, hg1⟩
  have HV1 := hide (And.intro hb1 (And.intro he1 (And.intro hB1 hg1)))
  clear hb1 he1 hB1 hg1
  go_wp2_with fail
  go_ret
  obtain ⟨hb1, he1, hB1, hg1⟩ := unhide HV1
  exact ⟨_, _, rfl, hb1, (Ext.below v (unhide HB0)).trans he1, hB1, hg1⟩
theorem pat_any : ∀ T : PT, AppSays T := PT.ind fun T ih W w v l hR hT hbel hbad hv hN h4 => by
  rcases Nat.lt_or_ge 65536 l.length with hl | hl
  · exact pat_long T ih W w v l hR hT hbel hbad hv hN h4 hl trivial
  by_cases k1 : T.k = 1
  · exact pat_lit T ih W w v l hR hT hbel hbad hv hN h4 hl k1
  by_cases k18 : T.k = 18
  · exact pat_cat T ih W w v l hR hT hbel hbad hv hN h4 hl k18
  by_cases k19 : T.k = 19
  · exact pat_alt T ih W w v l hR hT hbel hbad hv hN h4 hl k19
  by_cases k21 : T.k = 21
  · exact pat_cnd T ih W w v l hR hT hbel hbad hv hN h4 hl k21
  by_cases k22 : T.k = 22
  · exact pat_imm T ih W w v l hR hT hbel hbad hv hN h4 hl k22
  by_cases k23 : T.k = 23
  · exact pat_cur T ih W w v l hR hT hbel hbad hv hN h4 hl k23
  by_cases k24 : T.k = 24
  · exact pat_cal T ih W w v l hR hT hbel hbad hv hN h4 hl k24
  exact pat_word T ih W w v l hR hT hbel hbad hv hN h4 hl ⟨k1, k18, k19, k21, k22, k23, k24⟩
end Go.Proofs.YtpphjddljngkmaaGreatDoor

namespace Go.Proofs.YtpphjddljngkmaaGreatDoor
open Go.RowKit

theorem Ready.later {w w' : World} (h : Ready w) (hb : Below w.heap.size w w') : Ready w' := by
  obtain ⟨m, hm⟩ := h.lim
  exact ⟨h.shapes.later hb, ⟨m, cell_later hb hm⟩, Lib.tabBelow_of_tabIs (h.pow w' hb)⟩
theorem out_str4 {w : World} {B : Nat} {v : Value} {l : List UInt8} (ho : Bytes w B v l) :
    (convert 50 9 v).run Tryz.prog w = .ok (.string ⟨l.toArray⟩) w := by
  rcases ho.2 with ⟨rfl, h0⟩ | ⟨g, cap, cur, rfl, _, _, _, _, _, _⟩
  · have : l = [] := List.eq_nil_of_length_eq_zero h0
    subst this
    exact run_convert_bytes_nil (P := Tryz.prog) w 50 5 Tryz.underlying50 Tryz.underlying5 0 0 9 Tryz.underlying9
  · exact run_convert_bytes_back (P := Tryz.prog) w 50 9 5 ⟨g, 0, none⟩ cap l Tryz.underlying50 Tryz.underlying5 Tryz.underlying9 (fun j hj => World.ownsRow.cells ho rfl j _ (by simp only [List.getElem?_map, List.getElem?_eq_getElem hj, Option.map_some, bc]))
set_option maxRecDepth 100000 in
set_option maxHeartbeats 2000000 in
theorem print_any (T : PT) (w : World) (hR : Ready w) (hT : T.In w) :
    Calls Tryz.prog 25 #[pv T] w fun e w' => e = .returned (printSaid T) ∧ Below w.heap.size w w' := by
  have HW := hide (fun W (h : Below w.heap.size w W) => wrong_any T W (PT.In.later h hT) (hR.shapes.later h))
  have hk0 := (Below.refl w.heap.size w).alloc (Nat.le_refl _) (.cells #[.int .i64 T.k, .string T.t, .int .i64 T.n, .string T.nm, .slice T.xa T.len T.cap] 30)
  have HP := hide (fun W (h : Below w.heap.size w W) hb hc => pat_any T w W (.slice none 0 0) [] hR hT h hb (World.ownsRow_nil _ _ _ _) (by show max 0 196700 + _ ≤ _; omega) hc)
  unfold pv at HW ⊢
  clear hT hR
  go_enter Tryz.func25, Tryz.ntmps25
  go_wp2_with fail
  refine (unhide HW _ hk0).mono ?_
  rintro e w1 ⟨rfl, hb1⟩
  have H1 := hide (bnext hk0 hb1)
  obtain ⟨c0, c1, c2, c3, c4⟩ := cells5s (row_below (at_new rfl) hb1)
  clear hk0 hb1 HW
  by_cases hz : T.wrong = 0
  · have HC := hide (wrong_nought hz)
    have HS : Hid (printSaid T = (if 65536 < T.txt.length then .tuple #[.string ⟨#[]⟩, .int .i64 4] else .tuple #[.string ⟨T.txt.toArray⟩, .int .i64 0])) := hide (by unfold printSaid; rw [if_pos hz])
    rw [hz]
    clear hz
    go_wp2_with fail
    refine (unhide HP _ (unhide H1) (unhide HC).1 (unhide HC).2).mono ?_
    rintro e w2 ⟨v2, r2, rfl, hb2, -, hB2, hg2⟩
    have H2 := hide hB2
    have hlen := len_own4 hb2
    have hout := out_str4 hb2
    have hs := hg2.same
    have hl := hg2.long
    rw [List.nil_append] at hs hl
    clear c0 c1 c2 c3 c4 hB2
    by_cases hq : 65536 < T.txt.length
    · have h1 : (65536 : Int) < (r2.length : Int) := by have := hl hq; omega
      have HE : Hid (printSaid T = .tuple #[.string ⟨#[]⟩, .int .i64 4]) := hide (by rw [unhide HS, if_pos hq])
      clear hq hs hl hg2 hb2
      go_wp2_with fail
      go_ret2
      exact ⟨by rw [unhide HE]; rfl, unhide H2⟩
    · have e := hs (by omega)
      subst e
      have h1 : ¬ (65536 : Int) < (T.txt.length : Int) := by omega
      have HE : Hid (printSaid T = .tuple #[.string ⟨T.txt.toArray⟩, .int .i64 0]) := hide (by rw [unhide HS, if_neg hq])
      generalize T.txt = tx at *
      clear hq hs hl hg2 hb2
      go_wp2_with fail
      go_ret2
      exact ⟨by rw [unhide HE]; rfl, unhide H2⟩
  · have HS : Hid (printSaid T = .tuple #[.string ⟨#[]⟩, .int .i64 T.wrong]) := hide (by unfold printSaid; rw [if_neg hz])
    have hne : (T.wrong != 0) = true := by rw [bne_iff_ne]; exact hz
    clear hz
    go_wp2_with fail
    go_ret2
    exact ⟨by rw [unhide HS]; rfl, unhide H1⟩
end Go.Proofs.YtpphjddljngkmaaGreatDoor
