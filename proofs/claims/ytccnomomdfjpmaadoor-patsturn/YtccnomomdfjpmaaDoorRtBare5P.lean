/- The document's Bare: more kinds. -/
import Derived.Test.YtccnomomdfjpmaaDoorRtBareP
namespace Go.Proofs.YtccnomomdfjpmaaDoor
open Go.RowKit

set_option maxRecDepth 100000 in
set_option maxHeartbeats 4000000 in
theorem bare_name {T : PT} (ih : ∀ i, i < T.len → BareSays (T.kid i)) (hc : 21 ≤ T.k ∧ T.k ≤ 24) : BareSays T := by
  intro w hT hbad
  have HA := hide hT
  have HBAD := hide hbad
  have HKB := hide (bad_zero hbad).2
  have IH := hide ih
  have HCN := hide (show T.len ≤ 4096 by
    obtain ⟨-, -, -, -, -, -, hmo⟩ := right_node (bad_zero hbad).1
    unfold mostK at hmo
    split at hmo
    · omega
    · split at hmo <;> omega)
  have HE1 := hide (show ⟨#[]⟩ = if hasK T.k = 1 then T.t else ⟨#[]⟩ by rw [if_neg (by intro q; unfold hasK at q; split at q <;> (try split at q) <;> (try split at q) <;> omega)])
  have HE2 := hide (show 0 = if hasK T.k = 2 then T.n else 0 by rw [if_neg (by intro q; unfold hasK at q; split at q <;> (try split at q) <;> (try split at q) <;> omega)])
  have HE3 := hide (show T.nm = if hasK T.k = 3 then T.nm else ⟨#[]⟩ by rw [if_pos (by unfold hasK; rw [if_neg (by omega), if_neg (by omega), if_pos (by omega)])])
  have e1 : (T.k == 1) = false := by rw [beq_eq_false_iff_ne]; omega
  have HT := hide (show isText T.k = false by unfold isText; exact decide_eq_false (by simp; omega))
  have HN := hide (show isNum T.k = false by unfold isNum; exact decide_eq_false (by simp; omega))
  have HM := hide (show isName T.k = true by unfold isName; exact decide_eq_true (by simp; omega))
  obtain ⟨W, hW⟩ : ∃ W, W = ((w.alloc (.cells (patO T) 24)).alloc (.cells zeroP 24)).alloc (.cells #[.int .i64 T.k, .string ⟨#[]⟩, .int .i64 0, .string ⟨#[]⟩, .slice none 0 0] 24) := ⟨_, rfl⟩
  have HB := hide (show Below w.heap.size w W by rw [hW]; exact (((Below.refl _ _).alloc (Nat.le_refl _) _).alloc (by simp) _).alloc (by simp; omega) _)
  have HO := hide (show W.heap[w.heap.size + 1 + 1]? = some (.cells #[.int .i64 T.k, .string ⟨#[]⟩, .int .i64 0, .string ⟨#[]⟩, .slice none 0 0] 24 (0, 0)) by rw [hW]; exact at_new (by simp))
  have HX := hide (show W.heap[w.heap.size + 1]? = some (.cells zeroP 24 (0, 0)) by rw [hW]; exact at_old (by simp) (at_new (by simp)))
  have HP := hide (show W.heap[w.heap.size]? = some (.cells (patO T) 24 (0, 0)) by rw [hW]; exact at_old (by simp; omega) (at_old (by simp) (at_new rfl)))
  have HW := hide hW
  have nq1 : ¬ w.heap.size = w.heap.size + 1 + 1 := by omega
  have nq2 : ¬ w.heap.size + 1 + 1 = w.heap.size := by omega
  clear hT hbad ih hW hc
  unfold pv
  go_enter Tryd.func12, Tryd.ntmps12
  go_wp2_with fail
  rw [show ((w.alloc (.cells #[.int .i64 T.k, .string T.t, .int .i64 T.n, .string T.nm, .slice T.xa T.len T.cap] 24)).alloc (.cells #[.int .i64 0, .string ⟨#[]⟩, .int .i64 0, .string ⟨#[]⟩, .slice none 0 0] 24)).alloc (.cells #[.int .i64 T.k, .string ⟨#[]⟩, .int .i64 0, .string ⟨#[]⟩, .slice none 0 0] 24) = W from (unhide HW).symm]
  clear HW
  refine (texts_any T.k _).mono ?_
  rintro e W1 ⟨rfl, hb⟩
  have HP := hide (row_below (unhide HP) hb)
  have HX := hide (row_below (unhide HX) hb)
  have HO := hide (row_below (unhide HO) hb)
  have HB := hide (bnext (unhide HB) hb)
  clear hb
  rw [unhide HT]
  generalize W1 = W at *
  obtain ⟨c0, c1, c2, c3, c4⟩ := pats5s (unhide HP)
  obtain ⟨o0, o1, o2, o3, o4⟩ := boxO (unhide HO)
  have of := fun k => frozen_of_row W (w.heap.size + 1 + 1) k _ _ (unhide HO)
  go_wp2_with fail
  clear c0 c1 c2 c3 c4 o0 o1 o2 o3 o4 of
  refine (numbers_any T.k _).mono ?_
  rintro e W1 ⟨rfl, hb⟩
  have HP := hide (row_below (unhide HP) hb)
  have HX := hide (row_below (unhide HX) hb)
  have HO := hide (row_below (unhide HO) hb)
  have HB := hide (bnext (unhide HB) hb)
  clear hb
  rw [unhide HN]
  generalize W1 = W at *
  obtain ⟨c0, c1, c2, c3, c4⟩ := pats5s (unhide HP)
  obtain ⟨o0, o1, o2, o3, o4⟩ := boxO (unhide HO)
  have of := fun k => frozen_of_row W (w.heap.size + 1 + 1) k _ _ (unhide HO)
  go_wp2_with fail
  clear c0 c1 c2 c3 c4 o0 o1 o2 o3 o4 of
  have hb9 : Below W.heap.size W (W.alloc (.cells #[.int .i64 21, .int .i64 22, .int .i64 23, .int .i64 24] 3)) := (Below.refl _ _).alloc (Nat.le_refl _) _
  refine (in_isName T.k _ _ (at_new (by simp))).mono ?_
  rintro e W1 ⟨rfl, rfl⟩
  have HP := hide (row_below (unhide HP) hb9)
  have HX := hide (row_below (unhide HX) hb9)
  have HO := hide (row_below (unhide HO) hb9)
  have HB := hide (bnext (unhide HB) hb9)
  clear hb9
  rw [unhide HM]
  generalize W.alloc (.cells #[.int .i64 21, .int .i64 22, .int .i64 23, .int .i64 24] 3) = W at *
  obtain ⟨c0, c1, c2, c3, c4⟩ := pats5s (unhide HP)
  obtain ⟨o0, o1, o2, o3, o4⟩ := boxO (unhide HO)
  have of := fun k => frozen_of_row W (w.heap.size + 1 + 1) k _ _ (unhide HO)
  go_wp2_with fail
  clear c0 c1 c2 c3 c4 o0 o1 o2 o3 o4 of
  have HP := hide (show (W.setCell ⟨w.heap.size + 1 + 1, 3, none⟩ (.string T.nm)).heap[w.heap.size]? = some (.cells (patO T) 24 (0, 0)) from (heap_setCell_other W ⟨w.heap.size + 1 + 1, 3, none⟩ _ _ (by show w.heap.size ≠ w.heap.size + 1 + 1; omega)).trans (unhide HP))
  have HX := hide (show (W.setCell ⟨w.heap.size + 1 + 1, 3, none⟩ (.string T.nm)).heap[w.heap.size + 1]? = some (.cells zeroP 24 (0, 0)) from (heap_setCell_other W ⟨w.heap.size + 1 + 1, 3, none⟩ _ _ (by show w.heap.size + 1 ≠ w.heap.size + 1 + 1; omega)).trans (unhide HX))
  have HO := hide (show (W.setCell ⟨w.heap.size + 1 + 1, 3, none⟩ (.string T.nm)).heap[w.heap.size + 1 + 1]? = some (.cells #[.int .i64 T.k, .string ⟨#[]⟩, .int .i64 0, .string T.nm, .slice none 0 0] 24 (0, 0)) from heap_setCell_same W (w.heap.size + 1 + 1) 3 _ _ _ (unhide HO))
  have HB := hide (show Below w.heap.size w (W.setCell ⟨w.heap.size + 1 + 1, 3, none⟩ (.string T.nm)) from below_cell (unhide HB) (by omega) _ _)
  generalize W.setCell ⟨w.heap.size + 1 + 1, 3, none⟩ (.string T.nm) = W at *
  have HB0 := hide (show Bre w T ⟨#[]⟩ 0 T.nm W (.slice none 0 0) 0 [] from ⟨unhide HP, unhide HX, unhide HO, unhide HB, ⟨World.ownsRow_nil _ _ _ _, rfl, fun x hx => absurd hx List.not_mem_nil⟩⟩)
  clear HP HX HO HB
  go_loopw [36] (fun x wr => ∃ (k : Nat) (v : Value) (L : List PT), k ≤ T.len ∧ x = .int .i64 (k : Int) ∧ Hid (Bre w T ⟨#[]⟩ 0 T.nm wr v k L)) (fun x _ => T.len - (intOf x).toNat)
  case atStart => exact ⟨0, _, [], Nat.zero_le _, rfl, unhide HB0⟩
  case round =>
    obtain ⟨k, v, L, hk, rfl, HK⟩ := hrel
    clear HB0
    have hcn := unhide HCN
    rcases Nat.lt_or_ge k T.len with hlt | hge
    · have g1 : (k : Int) < (T.len : Int) := by omega
      have hia := kid_at (unhide HA) hlt
      have hKA := (unhide HA).cells hlt
      unfold PT.kv at hKA
      have HC := hide (fun W (hb : Below w.heap.size w W) => unhide IH k hlt W (PT.In.later hb ((unhide HA).kids hlt)) (unhide HKB k hlt))
      have hKW := (fun (i : Nat) (x : Value) (h : w.cell? ⟨T.b, i, none⟩ = some x) => cell_later (unhide HK).bel h)
      have a0 := hKW _ _ hKA.1
      have a1 := hKW _ _ hKA.2.1
      have a2 := hKW _ _ hKA.2.2.1
      have a3 := hKW _ _ hKA.2.2.2.1
      have a4 := hKW _ _ hKA.2.2.2.2
      clear hKW hKA
      obtain ⟨P, hP⟩ : ∃ P, T.kid k = P := ⟨_, rfl⟩
      rw [hP] at HC a0 a1 a2 a3 a4
      have HPk := hide hP
      clear hP
      unfold pv at HC
      have hb3 : Below wr.heap.size wr (wr.alloc (.cells (patO P) 24)) := (Below.refl _ _).alloc (Nat.le_refl _) _
      have hq : (wr.alloc (.cells (patO P) 24)).heap[wr.heap.size]? = some (.cells (patO P) 24 (0, 0)) := at_new rfl
      have HO3 := hide (row_below (unhide HK).out hb3)
      have HB3 := hide hb3
      have HW3 := hide hq
      go_wp2_with fail
      rw [show (#[.int .i64 P.k, .string P.t, .int .i64 P.n, .string P.nm, .slice P.xa P.len P.cap] : Array Value) = patO P from rfl]
      generalize (wr.alloc (.cells (patO P) 24)) = w3 at *
      obtain ⟨q0, q1, q2, q3, q4⟩ := pats5s (unhide HW3)
      obtain ⟨o0, o1, o2, o3, o4⟩ := boxO (unhide HO3)
      clear hq hb3 a0 a1 a2 a3 a4 o0 o1 o2 o3
      have HLT := hide (unhide HK).lt
      obtain ⟨S0, hS0⟩ : ∃ S0 : World → Prop, S0 = fun w' => w'.cell? ⟨w.heap.size + 1 + 1, 4, none⟩ = some v ∧ w'.cell? ⟨wr.heap.size, 0, none⟩ = some (.int .i64 P.k) ∧ w'.cell? ⟨wr.heap.size, 1, none⟩ = some (.string P.t) ∧ w'.cell? ⟨wr.heap.size, 2, none⟩ = some (.int .i64 P.n) ∧ w'.cell? ⟨wr.heap.size, 3, none⟩ = some (.string P.nm) ∧ w'.cell? ⟨wr.heap.size, 4, none⟩ = some (.slice P.xa P.len P.cap) := ⟨_, rfl⟩
      have HS0 := hide hS0
      have hS : S0 w3.drew := by rw [hS0]; exact ⟨o4, q0, q1, q2, q3, q4⟩
      have HKE := hide (show ∀ W, Below w3.heap.size w3 W → S0 W from fun W h => by rw [hS0]; exact ⟨cell_later h o4, cell_later h q0, cell_later h q1, cell_later h q2, cell_later h q3, cell_later h q4⟩)
      clear hS0
      refine startE (by kernel_rfl) 7 S0 ⟨by kernel_rfl, by kernel_rfl, by kernel_rfl, rfl⟩ ?_
      intro F
      refine takeE F (i := 0) (oi := _) (v := ?v0a) rfl (by kernel_rfl) (by kernel_rfl) (by rfl) (fun _ _ _ h => h) hS (Or.inl ⟨by rfl, ?y0a⟩) ?r0a
      case y0a => (intro w hSw; rw [unhide HS0] at hSw; (try dsimp only at hSw); go_split_ands; (go_simp <;> (try with_reducible rfl)))
      (try go_frame)
      refine takeE F (i := 1) (oi := _) (v := ?v1a) rfl (by kernel_rfl) (by kernel_rfl) (by rfl) (fun _ _ _ h => h) hS (Or.inl ⟨by rfl, ?y1a⟩) ?r1a
      case y1a => (intro w hSw; rw [unhide HS0] at hSw; (try dsimp only at hSw); go_split_ands; (go_simp <;> (try with_reducible rfl)))
      (try go_frame)
      refine takeE F (i := 2) (oi := _) (v := ?v2a) rfl (by kernel_rfl) (by kernel_rfl) (by rfl) (fun _ _ _ h => h) hS (Or.inl ⟨by rfl, ?y2a⟩) ?r2a
      case y2a => (intro w hSw; rw [unhide HS0] at hSw; (try dsimp only at hSw); go_split_ands; (go_simp <;> (try with_reducible rfl)))
      (try go_frame)
      refine stepE (i := 3) (by kernel_rfl) rfl (by rfl) (fun K3 hK3 => ?_)
      go_simp
      have hb3w : Below w.heap.size w w3.drew := (bnext (unhide HK).bel (unhide HB3)).drew
      refine (unhide HC _ hb3w).mono ?_
      rintro e w4 ⟨⟨U, rfl, hU, hL⟩, hb4⟩
      have hb4' : Below w3.heap.size w3 w4 := bnext (Below.refl _ _).drew hb4
      refine hK3 _ _ (unhide HKE _ hb4') ?_
      refine stepE (i := 4) (by kernel_rfl) rfl (by rfl) (fun K4 hK4 => ?_)
      (try unfold pv)
      go_simp
      have hb5 : Below w4.heap.size w4 (w4.alloc (.cells (patO U) 24)) := (Below.refl _ _).alloc (Nat.le_refl _) _
      refine hK4 _ _ (unhide HKE _ (bnext hb4' hb5)) ?_
      refine stepE (i := 5) (by kernel_rfl) rfl (by rfl) (fun K5 hK5 => ?_)
      have hrow5 : Row (w4.alloc (.cells (patO U) 24)) (w.heap.size + 1 + 1 + 1) 24 5 five v L := ((unhide HK).kids.row.later (unhide HB3)).later (bnext hb4' hb5)
      have hLl := (unhide HK).len hk
      refine step_row Tryd.underlying22 info_pat rfl (by decide) (by decide) five_len five_one rfl (.tmp 41) (.tmp 44) rfl hrow5 (by rw [World.size_alloc]; have := unhide HLT; have := hb4'.size; have := (unhide HB3).size; omega) U w4.heap.size 1 rfl rfl new_five (by have := unhide HCN; omega) ?_
      intro v' w6 hrow hgrow hown
      have HEND := hide ((unhide HK).put hlt (unhide HB3) hb4' (by rw [hU, unhide HPk]) hL hrow hgrow hown)
      have hfz := frozen_of_row w6 (w.heap.size + 1 + 1) 4 _ _ (show w6.heap[w.heap.size + 1 + 1]? = _ from grown_old hrow5 hgrow (row_below (row_below (unhide HK).out (unhide HB3)) (bnext hb4' hb5)) (by omega))
      have hce := (boxO (show w6.heap[w.heap.size + 1 + 1]? = _ from grown_old hrow5 hgrow (row_below (row_below (unhide HK).out (unhide HB3)) (bnext hb4' hb5)) (by omega))).2.2.2.2
      have HS6 := hide (show S0 w6 by
        rw [unhide HS0]
        have hq6 : w6.heap[wr.heap.size]? = _ := (hgrow.block wr.heap.size (Nat.lt_of_lt_of_le (Array.getElem?_eq_some_iff.1 (unhide HW3)).1 (bnext hb4' hb5).size) (fun e => by have h1 := ((unhide HK).kids.row.low e.symm).2; omega)).trans (row_below (unhide HW3) (bnext hb4' hb5))
        obtain ⟨z0, z1, z2, z3, z4⟩ := pats5s hq6
        exact ⟨hce, z0, z1, z2, z3, z4⟩)
      obtain ⟨g6, cap6, hv6, -, -⟩ := hrow.form (by simp)
      generalize (L ++ [U]).length = n6 at hv6
      subst hv6
      refine hK5 _ _ (unhide HS6) ?_
      refine stepE (i := 6) (by kernel_rfl) rfl (by rfl) (fun K6 hK6 => ?_)
      go_simp
      refine hK6 _ _ (unhide HS6) ?_
      refine lastE (by kernel_rfl) rfl (by kernel_rfl) (fun K7 hK7 => ?_)
      clear hrow hgrow hown hrow5 hb5 hb4 hb4' hL hU hS q0 q1 q2 q3 q4 o4
      go_simp
      refine hK7 _ _ ?_
      (try simp only [List.getElem_toArray, List.getElem_cons_succ, List.getElem_cons_zero])
      (try go_frame)
      clear hK7 hK6 hK5 hK4 hK3 K7 K6 K5 K4 K3 F HS0 HKE hce hfz
      go_wp2_with fail
      exact ⟨⟨k + 1, _, L ++ [U], by omega, rfl, unhide HEND⟩, by simp [intOf]; omega⟩
    · obtain rfl : k = T.len := by omega
      have g1 : ¬ (T.len : Int) < (T.len : Int) := by omega
      obtain ⟨U, hU1, hU2, hU3⟩ := (unhide HK).fin (unhide HBAD) (unhide HE1) (unhide HE2) (unhide HE3)
      obtain ⟨o0, o1, o2, o3, o4⟩ := boxO (unhide HK).out
      have HX := hide (unhide HK).box
      have HU := hide (And.intro hU1 (And.intro hU2 hU3))
      have hsz := (unhide HK).lt
      clear hU1 hU2 hU3
      go_wp2_with (first
        | (refine wpList_store_row rfl 24 _ _ rfl (w.heap.size + 1) #[.int .i64 T.k, .string ⟨#[]⟩, .int .i64 0, .string T.nm, v] rfl rfl 24 zeroP (unhide HX) size_pat rfl (by rw [← (unhide HU).1]; exact patO_oneC U) ?_)
        | fail)
      (try simp only [Exit.inBlock, Exit.then])
      refine bodyPost_ret (results_cell_row rfl _ _ (w.heap.size + 1) 24 #[.int .i64 T.k, .string ⟨#[]⟩, .int .i64 0, .string T.nm, v] (0, 0) _ rfl (setRow_heap _ _ _ _ _ _ (unhide HX)) Tryd.underlying24 rfl size_pat) rfl ?_
      exact ⟨⟨U, by have h := (unhide HU).1; unfold patO at h; rw [h], (unhide HU).2.1, ((unhide HU).2.2.setRow (by omega) _).mono (by omega)⟩, below_setRow (unhide HK).bel _ (by omega) _⟩
end Go.Proofs.YtccnomomdfjpmaaDoor
