/- What tune.Simplify hands back. -/
import Derived.Test.YtbmngbpillihaaaDoorSimpSimpP
import Derived.Test.YtbmngbpillihaaaDoorPatBelowP
import Derived.Test.YtbmngbpillihaaaDoorScanRulesGP
namespace Go.Proofs.YtbmngbpillihaaaDoor
open Go.RowKit

theorem bad_of {T : PT} (h : T.wrong = 0) : T.bad = 0 := by
  unfold PT.wrong at h
  split at h
  · exact h
  · exact absurd h (by decide)
set_option maxRecDepth 100000 in
set_option maxHeartbeats 1000000 in
theorem simplify_right (T : PT) (w : World) (hT : T.In w) (hS : Shapes w) (h : T.wrong = 0) : Calls Tryd.prog 7 #[pv T] w fun e w' => ∃ U : PT, e = .returned (.tuple #[pv U, .int .i64 0]) ∧ (∀ X : World, (∀ i, w.heap.size ≤ i → i < w'.heap.size → X.heap[i]? = w'.heap[i]?) → U.In X) ∧ U.can = T.simp ∧ Below w.heap.size w w' := by
  obtain ⟨hF, -, hc⟩ := right_of h
  have HN := hide (simp_canon hF)
  have HS := hide (fun W (hb : Below w.heap.size w W) => simpler_any T hF (bad_of h) hc W (PT.In.later hb hT))
  have HW := hide (fun W (hb : Below w.heap.size w W) => h ▸ wrong_any T W (PT.In.later hb hT) (hS.later hb))
  unfold pv at HS HW ⊢
  have hk0 : Below w.heap.size w ((w.alloc (.cells #[.int .i64 T.k, .string T.t, .int .i64 T.n, .string T.nm, .slice T.xa T.len T.cap] 24)).alloc (.cells #[.int .i64 0, .string ⟨#[]⟩, .int .i64 0, .string ⟨#[]⟩, .slice none 0 0] 24)) := ((Below.refl _ _).alloc (Nat.le_refl _) _).alloc (by simp) _
  have gb : ((w.alloc (.cells #[.int .i64 T.k, .string T.t, .int .i64 T.n, .string T.nm, .slice T.xa T.len T.cap] 24)).alloc (.cells #[.int .i64 0, .string ⟨#[]⟩, .int .i64 0, .string ⟨#[]⟩, .slice none 0 0] 24)).heap[w.heap.size]? = some (.cells #[.int .i64 T.k, .string T.t, .int .i64 T.n, .string T.nm, .slice T.xa T.len T.cap] 24 (0, 0)) := at_old (by simp) (at_new rfl)
  have gz : ((w.alloc (.cells #[.int .i64 T.k, .string T.t, .int .i64 T.n, .string T.nm, .slice T.xa T.len T.cap] 24)).alloc (.cells #[.int .i64 0, .string ⟨#[]⟩, .int .i64 0, .string ⟨#[]⟩, .slice none 0 0] 24)).heap[w.heap.size + 1]? = some (.cells zeroP 24 (0, 0)) := at_new (by simp)
  have H0 := hide (And.intro hk0 (And.intro gb gz))
  clear hk0 gb gz hT hS hF hc h
  go_enter Tryd.func7, Tryd.ntmps7
  go_wp2_with fail
  refine (unhide HW _ (unhide H0).1).mono ?_
  rintro e w1 ⟨rfl, hb1⟩
  have gb := row_below (unhide H0).2.1 hb1
  have gz := row_below (unhide H0).2.2 hb1
  have HB1 := hide (bnext (unhide H0).1 hb1)
  have hs1 : w.heap.size + 2 ≤ w1.heap.size := by have := hb1.size; simp at this; omega
  obtain ⟨y0, y1, y2, y3, y4⟩ := pats5s gb
  have GZ := hide gz
  clear hb1 gb gz H0 HW
  go_wp2_with fail
  refine (unhide HS _ (unhide HB1)).mono ?_
  rintro e w2 ⟨U, rfl, hU, hUc, hb2⟩
  have g2 := row_below (unhide GZ) hb2
  have HB2 := hide (bnext (unhide HB1) hb2)
  have HUU := hide (And.intro hU (And.intro hUc hb2))
  clear hb2 hU hUc y0 y1 y2 y3 y4
  unfold pv
  go_wp2_with (first
    | (refine wpList_store_row rfl 24 _ _ rfl (w.heap.size + 1) (patO U) rfl rfl 24 zeroP g2 size_pat rfl (patO_oneC U) ?_)
    | fail)
  exact bodyPost_ret (results_patS rfl _ _ (w.heap.size + 1) (patO U) rfl (setRow_heap _ _ _ _ _ _ g2) size_pat) rfl ⟨U, rfl, fun X hX => (unhide HUU).1 X (fun x hx => by cases hx) (fun i a b => (hX i (by omega) (by rw [setRow_size]; exact b)).trans (setRow_other w2 (w.heap.size + 1) i _ (by omega))), (unhide HUU).2.1.trans (unhide HN), below_setRow (unhide HB2) _ (by omega) _⟩
set_option maxRecDepth 100000 in
set_option maxHeartbeats 1000000 in
theorem simplify_wrong (T : PT) (w : World) (hT : T.In w) (hS : Shapes w) (h : T.wrong ≠ 0) : Calls Tryd.prog 7 #[pv T] w fun e w' => e = .returned (.tuple #[.agg zeroP, .int .i64 T.wrong]) ∧ Below w.heap.size w w' := by
  have q : (T.wrong != 0) = true := by rw [bne_iff_ne]; exact h
  have HW := hide (fun W (hb : Below w.heap.size w W) => wrong_any T W (PT.In.later hb hT) (hS.later hb))
  unfold pv at HW ⊢
  have hk0 : Below w.heap.size w ((w.alloc (.cells #[.int .i64 T.k, .string T.t, .int .i64 T.n, .string T.nm, .slice T.xa T.len T.cap] 24)).alloc (.cells #[.int .i64 0, .string ⟨#[]⟩, .int .i64 0, .string ⟨#[]⟩, .slice none 0 0] 24)) := ((Below.refl _ _).alloc (Nat.le_refl _) _).alloc (by simp) _
  have gb : ((w.alloc (.cells #[.int .i64 T.k, .string T.t, .int .i64 T.n, .string T.nm, .slice T.xa T.len T.cap] 24)).alloc (.cells #[.int .i64 0, .string ⟨#[]⟩, .int .i64 0, .string ⟨#[]⟩, .slice none 0 0] 24)).heap[w.heap.size]? = some (.cells #[.int .i64 T.k, .string T.t, .int .i64 T.n, .string T.nm, .slice T.xa T.len T.cap] 24 (0, 0)) := at_old (by simp) (at_new rfl)
  have gz : ((w.alloc (.cells #[.int .i64 T.k, .string T.t, .int .i64 T.n, .string T.nm, .slice T.xa T.len T.cap] 24)).alloc (.cells #[.int .i64 0, .string ⟨#[]⟩, .int .i64 0, .string ⟨#[]⟩, .slice none 0 0] 24)).heap[w.heap.size + 1]? = some (.cells zeroP 24 (0, 0)) := at_new (by simp)
  have H0 := hide (And.intro hk0 (And.intro gb gz))
  clear hk0 gb gz hT hS h
  generalize T.wrong = c at *
  go_enter Tryd.func7, Tryd.ntmps7
  go_wp2_with fail
  refine (unhide HW _ (unhide H0).1).mono ?_
  rintro e w1 ⟨rfl, hb1⟩
  have gz := row_below (unhide H0).2.2 hb1
  have HB1 := hide (bnext (unhide H0).1 hb1)
  clear hb1 H0 HW
  go_wp2_with (first
    | (refine wpList_store_row rfl 24 _ _ rfl (w.heap.size + 1) zeroP rfl rfl 24 zeroP gz size_pat rfl (leafO_one _ _ _) ?_)
    | fail)
  exact bodyPost_ret (results_patS rfl _ _ (w.heap.size + 1) zeroP rfl (setRow_heap _ _ _ _ _ _ gz) size_pat) rfl ⟨rfl, below_setRow (unhide HB1) _ (by omega) _⟩
end Go.Proofs.YtbmngbpillihaaaDoor
