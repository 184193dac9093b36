/- What tune.upTo, oneOrMore, catOf hand back. What tune.arbnoOf hands back. Kids made simpler, in a row that grows. What tune.catOf hands back. -/
import Derived.Test.YtbmngbpillihaaaDoorSimpOnePM
import Derived.Test.YtbmngbpillihaaaDoorSimpFewCM
namespace Go.Proofs.YtbmngbpillihaaaDoor
open Go.RowKit

set_option maxRecDepth 100000 in
set_option maxHeartbeats 1000000 in
theorem upTo_any (fl fi : Nat) (w : World) : Calls Tryd.prog 77 #[fnV fl, fnV fi] w fun e w' => e = .returned (stV (w.heap.size + 1 + 1) (w.heap.size + 1) w.heap.size) ∧ w'.heap[w.heap.size + 1 + 1]? = some (box1 (.bool false) 4) ∧ w'.heap[w.heap.size + 1]? = some (box1 (fnV fi) 36) ∧ w'.heap[w.heap.size]? = some (box1 (fnV fl) 36) ∧ Below w.heap.size w w' := by
  have H := hide (show ∀ W, W = (((w.alloc (box1 (fnV fl) 36)).alloc (box1 (fnV fi) 36)).alloc (box1 (.bool false) 4)) → W.heap[w.heap.size + 1 + 1]? = some (box1 (.bool false) 4) ∧ W.heap[w.heap.size + 1]? = some (box1 (fnV fi) 36) ∧ W.heap[w.heap.size]? = some (box1 (fnV fl) 36) ∧ Below w.heap.size w W from fun W e => by
    subst e
    exact ⟨at_new (by simp only [World.size_alloc]), at_old (by simp only [World.size_alloc]; omega) (at_new (by simp only [World.size_alloc])), at_old (by simp only [World.size_alloc]; omega) (at_old (by simp only [World.size_alloc]; omega) (at_new rfl)), below3 w _ _ _⟩)
  unfold fnV
  go_enter Tryd.func77, Tryd.ntmps77
  go_wp2_with fail
  go_ret
  exact ⟨rfl, unhide H _ rfl⟩
def GivesP (F : List PT) (S : PT) (w : World) (e : Ending) (w' : World) : Prop := ∃ U : PT, e = .returned (pv U) ∧ (∀ X : World, (∀ x ∈ F, x.In X) → (∀ i, w.heap.size ≤ i → i < w'.heap.size → X.heap[i]? = w'.heap[i]?) → U.In X) ∧ U.can = S.can ∧ Below w.heap.size w w'
theorem five_row {w : World} {g : Nat} {T : PT} (h : w.heap[g]? = some (.cells (patO T) 24 (0, 0))) : w.cell? ⟨g, 0, none⟩ = some (.int .i64 T.k) ∧ w.cell? ⟨g, 1, none⟩ = some (.string T.t) ∧ w.cell? ⟨g, 2, none⟩ = some (.int .i64 T.n) ∧ w.cell? ⟨g, 3, none⟩ = some (.string T.nm) ∧ w.cell? ⟨g, 4, none⟩ = some (.slice T.xa T.len T.cap) := pats5s h
theorem patO_oneC (T : PT) : (patO T).all (·.oneCell') = true := by simp [patO, Value.oneCell']
def OneU (k : Int) (v : Value) (L : List PT) (N U : PT) : Prop := (L = [] ∧ U = N) ∨ (∃ x, L = [x] ∧ U = x) ∨ (2 ≤ L.length ∧ ∃ g cap, v = .slice (some ⟨g, 0, none⟩) L.length cap ∧ U = rowP k g cap L)
theorem oneU_can {k : Int} {v : Value} {L : List PT} {N U : PT} (h : OneU k v L N U) : U.can = (oneOrP k L N).can := by
  rcases h with ⟨rfl, rfl⟩ | ⟨x, rfl, rfl⟩ | ⟨h, g, cap, -, rfl⟩
  · rfl
  · rfl
  · rw [rowP_can]
    match L, h with
    | _ :: _ :: _, _ => rfl
set_option maxRecDepth 100000 in
set_option maxHeartbeats 2000000 in
theorem oneOrMore_any (k : Nat) (v : Value) (L : List PT) (N : PT) (B : Nat) (w : World) (hr : Row w B 24 5 five v L) :
    Calls Tryd.prog 75 #[.int .i64 (k : Int), v, .agg (patO N)] w fun e w' => (∃ U, e = .returned (pv U) ∧ OneU (k : Int) v L N U) ∧ Below w.heap.size w w' := by
  have hb2 : Below w.heap.size w ((w.alloc (.cells (patO N) 24)).alloc (.cells zeroP 24)) := ((Below.refl _ _).alloc (Nat.le_refl _) _).alloc (by simp) _
  have hz : ((w.alloc (.cells (patO N) 24)).alloc (.cells zeroP 24)).heap[w.heap.size + 1]? = some (.cells zeroP 24 (0, 0)) := at_new (by simp)
  have hn : ((w.alloc (.cells (patO N) 24)).alloc (.cells zeroP 24)).heap[w.heap.size]? = some (.cells (patO N) 24 (0, 0)) := at_old (by simp) (at_new rfl)
  have HZ := hide (And.intro hz hb2)
  match L, hr with
  | [], hr =>
    obtain ⟨a, c, rfl, -, -⟩ := hr.len
    obtain ⟨y0, y1, y2, y3, y4⟩ := five_row hn
    clear hr hz hn hb2
    unfold patO at *
    go_enter Tryd.func75, Tryd.ntmps75
    go_wp2_with (first
      | (refine wpList_store_row rfl 24 _ _ rfl (w.heap.size + 1) (patO N) rfl rfl 24 zeroP (unhide HZ).1 size_pat rfl (patO_oneC N) ?_)
      | fail)
    (try simp only [Exit.inBlock, Exit.then])
    exact bodyPost_ret (results_cell_row rfl _ _ (w.heap.size + 1) 24 (patO N) (0, 0) _ rfl (setRow_heap _ _ _ _ _ _ (unhide HZ).1) Tryd.underlying24 rfl size_pat) rfl ⟨⟨N, rfl, .inl ⟨rfl, rfl⟩⟩, below_setRow (unhide HZ).2 _ (by omega) _⟩
  | [x], hr =>
    obtain ⟨g, cap, rfl, -, -⟩ := hr.form (by simp)
    obtain ⟨x0, x1, x2, x3, x4⟩ := row_five (hr.later hb2) rfl (i := 0) (x := x) rfl
    have hix := idx_run (g := g) (cap := cap) (i := 0) (n := 1) Tryd.underlying22 size_pat (by decide)
    simp only [Nat.zero_mul, Nat.zero_add] at x0 x1 x2 x3 x4
    unfold zeroP leafO at x0 x1 x2 x3 x4
    clear hr hz hn hb2
    unfold patO at *
    go_enter Tryd.func75, Tryd.ntmps75
    go_wp2_with (first
      | (refine wpList_store_row rfl 24 _ _ rfl (w.heap.size + 1) (patO x) rfl rfl 24 zeroP (unhide HZ).1 size_pat rfl (patO_oneC x) ?_)
      | fail)
    (try simp only [Exit.inBlock, Exit.then])
    exact bodyPost_ret (results_cell_row rfl _ _ (w.heap.size + 1) 24 (patO x) (0, 0) _ rfl (setRow_heap _ _ _ _ _ _ (unhide HZ).1) Tryd.underlying24 rfl size_pat) rfl ⟨⟨x, rfl, .inr (.inl ⟨x, rfl, rfl⟩)⟩, below_setRow (unhide HZ).2 _ (by omega) _⟩
  | x :: y :: L', hr =>
    obtain ⟨g, cap, rfl, -, -⟩ := hr.form (by simp)
    have hm := hr.max
    unfold maxLen at hm
    obtain ⟨n, hn2⟩ : ∃ n, n = (x :: y :: L').length := ⟨_, rfl⟩
    have hge : 2 ≤ n := by rw [hn2]; simp
    have HU := hide (show OneU (k : Int) (.slice (some ⟨g, 0, none⟩) n cap) (x :: y :: L') N (rowP (k : Int) g cap (x :: y :: L')) from .inr (.inr ⟨by simp, g, cap, by rw [hn2], rfl⟩))
    have HP := hide (show patO (rowP (k : Int) g cap (x :: y :: L')) = #[.int .i64 (k : Int), .string ⟨#[]⟩, .int .i64 0, .string ⟨#[]⟩, .slice (some ⟨g, 0, none⟩) n cap] by rw [hn2]; rfl)
    have HPV := hide (show pv (rowP (k : Int) g cap (x :: y :: L')) = .agg #[.int .i64 (k : Int), .string ⟨#[]⟩, .int .i64 0, .string ⟨#[]⟩, .slice (some ⟨g, 0, none⟩) n cap] by rw [hn2]; rfl)
    rw [← hn2] at hm ⊢
    have q0 : ((n : Int) == 0) = false := by rw [beq_eq_false_iff_ne]; omega
    have q1 : ((n : Int) == 1) = false := by rw [beq_eq_false_iff_ne]; omega
    clear hr hz hn hb2 hn2
    generalize rowP (k : Int) g cap (x :: y :: L') = U at *
    unfold patO at *
    go_enter Tryd.func75, Tryd.ntmps75
    go_wp2_with (first
      | (refine wpList_store_row rfl 24 _ _ rfl (w.heap.size + 1) #[.int .i64 (k : Int), .string ⟨#[]⟩, .int .i64 0, .string ⟨#[]⟩, .slice (some ⟨g, 0, none⟩) n cap] rfl rfl 24 zeroP (unhide HZ).1 size_pat rfl (by simp [Value.oneCell']) ?_)
      | fail)
    (try simp only [Exit.inBlock, Exit.then])
    exact bodyPost_ret (results_cell_row rfl _ _ (w.heap.size + 1) 24 #[.int .i64 (k : Int), .string ⟨#[]⟩, .int .i64 0, .string ⟨#[]⟩, .slice (some ⟨g, 0, none⟩) n cap] (0, 0) _ rfl (setRow_heap _ _ _ _ _ _ (unhide HZ).1) Tryd.underlying24 rfl size_pat) rfl ⟨⟨U, by rw [unhide HPV], unhide HU⟩, below_setRow (unhide HZ).2 _ (by omega) _⟩
theorem lst_in {K : PT} {w : World} (hK : K.In w) {x : PT} (hx : x ∈ K.lst) : x.In w := by
  obtain ⟨i, hi⟩ := List.mem_iff_getElem?.1 hx
  have hlt : i < K.len := by have := (List.getElem?_eq_some_iff.1 hi).1; rwa [PT.lst_len] at this
  rw [PT.lst_at hlt] at hi
  rw [← Option.some.inj hi]
  exact hK.kids hlt
theorem flat_in {K : PT} {w : World} {k : Int} (hK : K.In w) {x : PT} (hx : x ∈ flatK k K.lst) : x.In w := by
  unfold flatK at hx
  obtain ⟨p, hp, hx⟩ := List.mem_flatMap.1 hx
  split at hx
  · exact lst_in (lst_in hK hp) hx
  · rw [List.mem_singleton] at hx; rw [hx]; exact lst_in hK hp
theorem cat_end {w w0 W : World} {F : List PT} {S N U : PT} {k : Nat} {v : Value} {L : List PT} (hL : ∀ x ∈ L, Fine5 x ∧ ∀ X, (∀ y ∈ F, y.In X) → x.In X) (hU : OneU (k : Int) v L N U) (hN : ∀ X, N.In X) (hS : S = oneOrP (k : Int) L N) (hr : Row W w0.heap.size 24 5 five v L) (hb : Below w.heap.size w W) (hs : w0.heap.size = w.heap.size + 1) (hk : k ≤ 100 := by decide) :
    GivesP F S w (.returned (pv U)) (W.setRow w.heap.size (patO U)) := by
  have hbX : Below w.heap.size w (W.setRow w.heap.size (patO U)) := below_setRow hb _ (Nat.le_refl _) _
  have hrX : Row (W.setRow w.heap.size (patO U)) w0.heap.size 24 5 five v L := hr.same fun j hj => by
    have := (hr.low hj).1
    exact setRow_other W w.heap.size j _ (by omega)
  refine ⟨U, rfl, ?_, by rw [oneU_can hU, hS], hbX⟩
  generalize W.setRow w.heap.size (patO U) = Y at *
  intro X hF hX
  have hrY : Row X w0.heap.size 24 5 five v L := hrX.same fun j hj => by
    have := hrX.low hj
    exact hX j (by omega) this.2
  rcases hU with ⟨-, rfl⟩ | ⟨x, rfl, rfl⟩ | ⟨-, g, cap, rfl, rfl⟩
  · exact hN X
  · exact (hL _ (List.mem_singleton.2 rfl)).2 X hF
  · exact rowP_in hrY (fun x hx => (hL x hx).2 X hF) _ rfl hk
end Go.Proofs.YtbmngbpillihaaaDoor

namespace Go.Proofs.YtbmngbpillihaaaDoor
open Go.RowKit

def asP (k : Int) (K : PT) : PT := ⟨k, ⟨#[]⟩, 0, ⟨#[]⟩, K.xa, K.b, K.o, K.len, K.cap, K.kids⟩
theorem asP_lst (k : Int) (K : PT) : (asP k K).lst = K.lst := rfl
theorem asP_can (k : Int) (K : PT) : (asP k K).can = (mkP k ⟨#[]⟩ 0 ⟨#[]⟩ K.lst).can := by rw [PT.can_eq, PT.can_eq, asP_lst, mkP_lst]; rfl
theorem asP_in {w : World} {K : PT} (h : K.In w) (k : Nat) (hk : k ≤ 100) : (asP (k : Int) K).In w := by
  cases K
  exact ⟨by constructor <;> omega, by unfold maxLen; decide, by decide, by unfold maxLen; decide, h.2.2.2.2.1, h.2.2.2.2.2.1, h.2.2.2.2.2.2.1, h.2.2.2.2.2.2.2⟩
theorem lst_first {K : PT} (h : 0 < K.len) : K.lst.getD 0 PT.nul = K.kid 0 := by
  have := PT.lst_at h
  rw [List.getD, this]; rfl
theorem lit_in : ∀ X : World, (litP ⟨#[]⟩).In X := fun X => leaf_in X (by decide) (by decide) (by unfold maxLen; decide)
theorem k13_in : ∀ X : World, (mkP 13 ⟨#[]⟩ 0 ⟨#[]⟩ []).In X := fun X => leaf_in X (by decide) (by decide) (by unfold maxLen; decide)
theorem gives_leaf {F : List PT} {S U : PT} {w W : World} (hU : ∀ X, U.In X) (hc : U = S) (hb : Below w.heap.size w W) : GivesP F S w (.returned (pv U)) W := ⟨U, rfl, fun X _ _ => hU X, by rw [hc], hb⟩
set_option maxRecDepth 100000 in
set_option maxHeartbeats 2000000 in
theorem arbnoOf_any (K : PT) (w : World) (hK : K.In w) (h0 : 0 < K.len) : Calls Tryd.prog 48 #[.slice K.xa K.len K.cap] w fun e w' => GivesP [K] (arbP K.lst) w e w' := by
  have hb0 : Below w.heap.size w ((w.alloc (.cells zeroP 24)).alloc (.cells (patO (K.kid 0)) 24)) := ((Below.refl _ _).alloc (Nat.le_refl _) _).alloc (by simp) _
  have hz : ((w.alloc (.cells zeroP 24)).alloc (.cells (patO (K.kid 0)) 24)).heap[w.heap.size]? = some (.cells zeroP 24 (0, 0)) := at_old (by simp) (at_new rfl)
  have hk : ((w.alloc (.cells zeroP 24)).alloc (.cells (patO (K.kid 0)) 24)).heap[w.heap.size + 1]? = some (.cells (patO (K.kid 0)) 24 (0, 0)) := at_new (by simp)
  obtain ⟨k0, k1, k2, k3, k4⟩ := hK.cells h0
  unfold PT.kv at k4
  have hia : ∀ W, (Instr.indexAt 22 (.slice K.xa K.len K.cap) (.int .i64 0)).run Tryd.prog W = .ok (.pointer (some ⟨K.b, K.o, none⟩)) W := fun W => by
    have := kid_at hK h0 W
    simpa using this
  have a0 := fun o => cell_later ((Below.refl w.heap.size w).alloc (Nat.le_refl _) o) k0
  have a1 := fun o => cell_later ((Below.refl w.heap.size w).alloc (Nat.le_refl _) o) k1
  have a2 := fun o => cell_later ((Below.refl w.heap.size w).alloc (Nat.le_refl _) o) k2
  have a3 := fun o => cell_later ((Below.refl w.heap.size w).alloc (Nat.le_refl _) o) k3
  have a4 := fun o => cell_later ((Below.refl w.heap.size w).alloc (Nat.le_refl _) o) k4
  have HS := hide (show arbP K.lst = if (isF (K.kid 0) || isE (K.kid 0)) = true then litP ⟨#[]⟩ else if (K.kid 0).k = 2 ∧ (K.kid 0).n = 1 then mkP 13 ⟨#[]⟩ 0 ⟨#[]⟩ [] else mkP 20 ⟨#[]⟩ 0 ⟨#[]⟩ K.lst by unfold arbP; rw [lst_first h0])
  have HK := hide (show ∀ X : World, K.In X → (asP 20 K).In X from fun X h => asP_in h 20 (by decide))
  have hm := hK.max
  unfold maxLen at hm
  have h0i : (0 : Int) < (K.len : Int) := by omega
  simp only [Nat.zero_mul, Nat.add_zero] at a0 a1 a2 a3 a4
  clear k0 k1 k2 k3 k4 hK
  have HF := hide (fun W => isFail_any (K.kid 0) W)
  have HE := hide (fun W => isEmpty_any (K.kid 0) W)
  unfold pv at HF HE
  unfold patO zeroP leafO at hb0 hz hk
  generalize K.kid 0 = T at *
  have HZ := hide (And.intro hz (And.intro hb0 hk))
  clear hz hb0 hk
  have HU := hide (show pv (asP 20 K) = .agg #[.int .i64 20, .string ⟨#[]⟩, .int .i64 0, .string ⟨#[]⟩, .slice K.xa K.len K.cap] from rfl)
  generalize isF T = f1 at *
  generalize isE T = f2 at *
  go_enter Tryd.func48, Tryd.ntmps48
  go_wp2_with fail
  refine (unhide HF _).mono ?_
  rintro e w1 ⟨rfl, hb1⟩
  have g0 := row_below (unhide HZ).1 hb1
  have g1 := row_below (unhide HZ).2.2 hb1
  have HB := hide (bnext (unhide HZ).2.1 hb1)
  have HG := hide g0
  obtain ⟨y0, y1, y2, y3, y4⟩ := pats5s g1
  have G1 := hide g1
  clear hb1 g0 g1 HZ HF a0 a1 a2 a3 a4 hia
  cases f1 with
  | true =>
    go_wp2_with fail
    refine (literalS ⟨#[]⟩ _).mono ?_
    rintro e w3 ⟨rfl, hb3⟩
    have g3 := row_below (unhide HG) hb3
    have HB3 := hide (bnext (unhide HB) hb3)
    clear hb3 y0 y1 y2 y3 y4
    go_wp2_with (first
      | (refine wpList_store_row rfl 24 _ _ rfl w.heap.size (leafO 1 0 ⟨#[]⟩) rfl rfl 24 zeroP g3 (leafO_info _ _ _) rfl (leafO_one _ _ _) ?_)
      | fail)
    (try simp only [Exit.inBlock, Exit.then])
    exact bodyPost_ret (results_cell_row rfl _ _ w.heap.size 24 (leafO 1 0 ⟨#[]⟩) (0, 0) _ rfl (setRow_heap _ _ _ _ _ _ g3) Tryd.underlying24 rfl size_pat) rfl (gives_leaf (U := litP ⟨#[]⟩) lit_in (by rw [unhide HS]; rfl) (below_setRow (unhide HB3) _ (by omega) _))
  | false =>
    go_wp2_with fail
    refine (unhide HE _).mono ?_
    rintro e w2 ⟨rfl, hb2⟩
    have g3 := row_below (unhide HG) hb2
    obtain ⟨y0, y1, y2, y3, y4⟩ := pats5s (row_below (unhide G1) hb2)
    have HB2 := hide (bnext (unhide HB) hb2)
    have HG3 := hide g3
    clear hb2 g3 HG HB G1 HE
    cases f2 with
    | true =>
      go_wp2_with fail
      refine (literalS ⟨#[]⟩ _).mono ?_
      rintro e w3 ⟨rfl, hb3⟩
      have g3 := row_below (unhide HG3) hb3
      have HB3 := hide (bnext (unhide HB2) hb3)
      clear hb3 y0 y1 y2 y3 y4
      go_wp2_with (first
        | (refine wpList_store_row rfl 24 _ _ rfl w.heap.size (leafO 1 0 ⟨#[]⟩) rfl rfl 24 zeroP g3 (leafO_info _ _ _) rfl (leafO_one _ _ _) ?_)
        | fail)
      (try simp only [Exit.inBlock, Exit.then])
      exact bodyPost_ret (results_cell_row rfl _ _ w.heap.size 24 (leafO 1 0 ⟨#[]⟩) (0, 0) _ rfl (setRow_heap _ _ _ _ _ _ g3) Tryd.underlying24 rfl size_pat) rfl (gives_leaf (U := litP ⟨#[]⟩) lit_in (by rw [unhide HS]; rfl) (below_setRow (unhide HB3) _ (by omega) _))
    | false =>
      by_cases q2 : T.k = 2
      · by_cases q1 : T.n = 1
        · rw [q2] at y0
          rw [q1] at y2
          have HS2 := hide ((unhide HS).trans (by rw [if_neg (by decide), if_pos ⟨q2, q1⟩]))
          clear HS
          go_wp2_with (first
            | (refine wpList_store_row rfl 24 _ _ rfl w.heap.size (leafO 13 0 ⟨#[]⟩) rfl rfl 24 zeroP (unhide HG3) (leafO_info _ _ _) rfl (leafO_one _ _ _) ?_)
            | fail)
          (try simp only [Exit.inBlock, Exit.then])
          exact bodyPost_ret (results_cell_row rfl _ _ w.heap.size 24 (leafO 13 0 ⟨#[]⟩) (0, 0) _ rfl (setRow_heap _ _ _ _ _ _ (unhide HG3)) Tryd.underlying24 rfl size_pat) rfl (gives_leaf (U := mkP 13 ⟨#[]⟩ 0 ⟨#[]⟩ []) k13_in (by rw [unhide HS2]) (below_setRow (unhide HB2) _ (by omega) _))
        · rw [q2] at y0
          have HN := hide (show ¬(T.k = 2 ∧ T.n = 1) from fun h => q1 h.2)
          have q1 : (T.n == 1) = false := by rw [beq_eq_false_iff_ne]; exact q1
          have HS2 := hide ((unhide HS).trans (by rw [if_neg (by decide), if_neg (unhide HN)]))
          clear HS
          go_wp2_with (first
            | (refine wpList_store_row rfl 24 _ _ rfl w.heap.size #[.int .i64 20, .string ⟨#[]⟩, .int .i64 0, .string ⟨#[]⟩, .slice K.xa K.len K.cap] rfl rfl 24 zeroP (unhide HG3) size_pat rfl (by simp [Value.oneCell']) ?_)
            | fail)
          (try simp only [Exit.inBlock, Exit.then])
          exact bodyPost_ret (results_cell_row rfl _ _ w.heap.size 24 #[.int .i64 20, .string ⟨#[]⟩, .int .i64 0, .string ⟨#[]⟩, .slice K.xa K.len K.cap] (0, 0) _ rfl (setRow_heap _ _ _ _ _ _ (unhide HG3)) Tryd.underlying24 rfl size_pat) rfl ⟨asP 20 K, by rw [unhide HU], fun X hX _ => unhide HK X (hX K (List.mem_singleton.2 rfl)), by rw [unhide HS2, asP_can], below_setRow (unhide HB2) _ (by omega) _⟩
      · have HN := hide (show ¬(T.k = 2 ∧ T.n = 1) from fun h => q2 h.1)
        have q2 : (T.k == 2) = false := by rw [beq_eq_false_iff_ne]; exact q2
        have HS2 := hide ((unhide HS).trans (by rw [if_neg (by decide), if_neg (unhide HN)]))
        clear HS
        go_wp2_with (first
          | (refine wpList_store_row rfl 24 _ _ rfl w.heap.size #[.int .i64 20, .string ⟨#[]⟩, .int .i64 0, .string ⟨#[]⟩, .slice K.xa K.len K.cap] rfl rfl 24 zeroP (unhide HG3) size_pat rfl (by simp [Value.oneCell']) ?_)
          | fail)
        (try simp only [Exit.inBlock, Exit.then])
        exact bodyPost_ret (results_cell_row rfl _ _ w.heap.size 24 #[.int .i64 20, .string ⟨#[]⟩, .int .i64 0, .string ⟨#[]⟩, .slice K.xa K.len K.cap] (0, 0) _ rfl (setRow_heap _ _ _ _ _ _ (unhide HG3)) Tryd.underlying24 rfl size_pat) rfl ⟨asP 20 K, by rw [unhide HU], fun X hX _ => unhide HK X (hX K (List.mem_singleton.2 rfl)), by rw [unhide HS2, asP_can], below_setRow (unhide HB2) _ (by omega) _⟩
end Go.Proofs.YtbmngbpillihaaaDoor

namespace Go.Proofs.YtbmngbpillihaaaDoor
open Go.RowKit

def Rests (w : World) (B : Nat) (v : Value) (U : PT) : Prop := ∃ lo hi, B ≤ lo ∧ hi ≤ w.heap.size ∧ (∀ k, v.ownBlock = some k → k < lo ∨ hi ≤ k) ∧ ∀ X : World, (∀ i, lo ≤ i → i < hi → X.heap[i]? = w.heap[i]?) → U.In X
theorem Rests.later {w w' : World} {B : Nat} {v : Value} {U : PT} (h : Rests w B v U) (hb : Below w.heap.size w w') : Rests w' B v U := by
  obtain ⟨lo, hi, h1, h2, h3, h4⟩ := h
  exact ⟨lo, hi, h1, Nat.le_trans h2 hb.size, h3, fun X hX => h4 X fun i a b => (hX i a b).trans (hb.block i (by omega))⟩
theorem Rests.grown {w w' : World} {B : Nat} {v v' : Value} {U : PT} (h : Rests w B v U) (hg : w.grownBy w' v.ownBlock) (hown : v'.ownBlock = v.ownBlock ∨ v'.ownBlock = some w.heap.size) : Rests w' B v' U := by
  obtain ⟨lo, hi, h1, h2, h3, h4⟩ := h
  refine ⟨lo, hi, h1, Nat.le_trans h2 hg.size, fun k hk => ?_, fun X hX => h4 X fun i a b => (hX i a b).trans (hg.block i (by omega) fun e => ?_)⟩
  · rcases hown with e | e
    · exact h3 k (e ▸ hk)
    · rw [e] at hk
      injection hk with hk
      right; omega
  · have := h3 i e.symm
    omega
structure KidsAt (w : World) (B : Nat) (v : Value) (Us : List PT) : Prop where
  row : Row w B 24 5 five v Us
  lie : ∀ U ∈ Us, Rests w B v U
theorem KidsAt.nil (w : World) (B : Nat) : KidsAt w B (.slice none 0 0) [] := ⟨World.ownsRow_nil _ _ _ 5, fun U hU => by cases hU⟩
theorem KidsAt.later {w w' : World} {B : Nat} {v : Value} {Us : List PT} (h : KidsAt w B v Us) (hb : Below w.heap.size w w') : KidsAt w' B v Us := ⟨h.row.later hb, fun U hU => (h.lie U hU).later hb⟩
theorem KidsAt.put {w w1 w2 w' : World} {B : Nat} {v v' : Value} {Us : List PT} {U : PT} (h : KidsAt w B v Us) (hB : B ≤ w.heap.size) (hb : Below w.heap.size w w1) (hU : ∀ X : World, (∀ i, w.heap.size ≤ i → i < w1.heap.size → X.heap[i]? = w1.heap[i]?) → U.In X) (hb2 : Below w1.heap.size w1 w2) (hr : Row w' B 24 5 five v' (Us ++ [U])) (hg : w2.grownBy w' v.ownBlock) (hown : v'.ownBlock = v.ownBlock ∨ v'.ownBlock = some w2.heap.size) : KidsAt w' B v' (Us ++ [U]) := by
  have h2 := (h.later hb).later hb2
  refine ⟨hr, fun x hx => ?_⟩
  rcases List.mem_append.1 hx with hx | hx
  · exact (h2.lie x hx).grown hg hown
  · rw [List.mem_singleton.1 hx]
    have : Rests w1 B v U := ⟨w.heap.size, w1.heap.size, hB, Nat.le_refl _, fun k hk => .inl (h.row.low hk).2, hU⟩
    exact (this.later hb2).grown hg hown
theorem KidsAt.pt {w : World} {B : Nat} {v : Value} {Us : List PT} (h : KidsAt w B v Us) : ∃ K : PT, v = .slice K.xa K.len K.cap ∧ K.lst = Us ∧ ∀ X : World, (∀ i, B ≤ i → i < w.heap.size → X.heap[i]? = w.heap[i]?) → K.In X := by
  match Us, h with
  | [], h =>
    obtain ⟨a, c, rfl, -, -⟩ := h.row.len
    refine ⟨⟨0, ⟨#[]⟩, 0, ⟨#[]⟩, a, 0, 0, 0, c, fun i => i.elim0⟩, rfl, rfl, fun X _ => ⟨by decide, by unfold maxLen; decide, by decide, by unfold maxLen; decide, by unfold maxLen; decide, Nat.zero_le _, fun h => absurd h (by decide), fun i => i.elim0⟩⟩
  | x :: l, h =>
    obtain ⟨g, cap, rfl, -, -⟩ := h.row.form (by simp)
    refine ⟨rowP ((0 : Nat) : Int) g cap (x :: l), rfl, rowP_lst _ _ _ _, fun X hX => rowP_in (B := B) (k' := 0) (h.row.same fun k hk => hX k (h.row.low hk).1 (h.row.low hk).2) (fun y hy => ?_) _ rfl (by decide)⟩
    obtain ⟨lo, hi, h1, h2, h3, h4⟩ := h.lie y hy
    exact h4 X fun i a b => hX i (by omega) (by omega)
def nmP (k : Int) (nm : ByteArray) (K : PT) : PT := ⟨k, ⟨#[]⟩, 0, nm, K.xa, K.b, K.o, K.len, K.cap, K.kids⟩
theorem nmP_can (k : Int) (nm : ByteArray) (K : PT) : (nmP k nm K).can = (mkP k ⟨#[]⟩ 0 nm K.lst).can := by rw [PT.can_eq, PT.can_eq, mkP_lst]; rfl
theorem nmP_in {w : World} {K : PT} (h : K.In w) (k : Nat) (hk : k ≤ 100) {nm : ByteArray} (hn : nm.size ≤ maxLen) : (nmP (k : Int) nm K).In w := by
  cases K
  exact ⟨by constructor <;> omega, by unfold maxLen; decide, by decide, hn, h.2.2.2.2.1, h.2.2.2.2.2.1, h.2.2.2.2.2.2.1, h.2.2.2.2.2.2.2⟩
theorem gives_new {F : List PT} {S S' : PT} {w W w' w'' : World} {B : Nat} {e : Ending} (h : GivesP F S W e w') (hS : S.can = S'.can) (hB : B = w.heap.size) (hs : w'.heap.size ≤ w''.heap.size) (hw : ∀ i, B + 2 ≤ i → i < w'.heap.size → w''.heap[i]? = w'.heap[i]?) (hb2 : Below B w w'') (hF2 : ∀ X : World, (∀ i, w.heap.size + 2 ≤ i → i < W.heap.size → X.heap[i]? = W.heap[i]?) → ∀ x ∈ F, x.In X) (hlt : w.heap.size + 2 ≤ W.heap.size) : GivesP [] S' w e w'' := by
  obtain ⟨U, rfl, hU, hc, hb1⟩ := h
  refine ⟨U, rfl, fun X _ hX => hU X (hF2 X fun i a b => ?_) fun i a b => ?_, hc.trans hS, hB ▸ hb2⟩
  · have := hb1.size
    rw [hX i (by omega) (by omega), hw i (by omega) (by omega), hb1.block i b]
  · rw [hX i (by omega) (by omega), hw i (by omega) b]
end Go.Proofs.YtbmngbpillihaaaDoor

namespace Go.Proofs.YtbmngbpillihaaaDoor
open Go.RowKit

theorem few_inC {K : PT} (hF : ∀ x ∈ flatK 18 K.lst, Fine5 x) : ∀ x ∈ fewP 18 nev isE behindP K.lst, Fine5 x ∧ ∀ X : World, (∀ y ∈ flatK 18 K.lst, y.In X) → x.In X :=
  few_all (P := fun x => Fine5 x ∧ ∀ X : World, (∀ y ∈ flatK 18 K.lst, y.In X) → x.In X) (fun a b y ha hb h => ⟨behind_fine a b y ha.1 hb.1 h, fun X _ => behind_in X a b y ha.1 hb.1 h⟩) (fun x hx => ⟨hF x hx, fun _ hX => hX x hx⟩)
set_option maxRecDepth 100000 in
set_option maxHeartbeats 2000000 in
theorem catOfC (K : PT) (w : World) (hK : K.In w) (hc : (flatK 18 K.lst).length ≤ 90000) (hF : ∀ x ∈ flatK 18 K.lst, Fine5 x) : Calls Tryd.prog 46 #[.slice K.xa K.len K.cap] w fun e w' => GivesP (flatK 18 K.lst) (catP K.lst) w e w' := by
  have hb0 : Below w.heap.size w (w.alloc (.cells zeroP 24)) := (Below.refl _ _).alloc (Nat.le_refl _) _
  have hz0 : (w.alloc (.cells zeroP 24)).heap[w.heap.size]? = some (.cells zeroP 24 (0, 0)) := at_new rfl
  have hs0 : (w.alloc (.cells zeroP 24)).heap.size = w.heap.size + 1 := World.size_alloc _ _
  have HFew := hide (fun w1 zo zi zl => fewerC K (w.alloc (.cells zeroP 24)) w1 zo zi zl (PT.In.later hb0 hK))
  have HIn := hide (few_inC hF)
  have HCF := hide (And.intro hc hF)
  unfold zeroP leafO at hb0 hz0 hs0 HFew
  have H0 := hide (And.intro hb0 (And.intro hz0 hs0))
  clear hK hc hF hb0 hz0 hs0
  go_enter Tryd.func46, Tryd.ntmps46
  go_wp2_with fail
  generalize w.alloc (.cells #[.int .i64 0, .string ⟨#[]⟩, .int .i64 0, .string ⟨#[]⟩, .slice none 0 0] 24) = w0 at *
  refine (upTo_any 49 78 w0).mono ?_
  rintro e w1 ⟨rfl, b1, b2, b3, hb1⟩
  have HC := hide (unhide HFew w1 _ _ _ hb1 (by omega) b1 b2 b3 (unhide HCF).1 (unhide HCF).2)
  clear b1 b2 b3 hb1 HFew
  unfold stV fnV at HC
  unfold stV
  go_wp2_with fail
  refine (unhide HC).mono ?_
  rintro e w2 ⟨v, rfl, hr2, hb2⟩
  have HR2 := hide (And.intro hr2 hb2)
  clear hr2 hb2 HC
  go_wp2_with fail
  refine (literalS ⟨#[]⟩ _).mono ?_
  rintro e w3 ⟨rfl, hb3⟩
  have HB3 := hide hb3
  clear hb3
  unfold leafO
  go_wp2_with fail
  refine (oneOrMore_any 18 v _ (litP ⟨#[]⟩) _ w3 ((unhide HR2).1.later (unhide HB3))).mono ?_
  rintro e w4 ⟨⟨U, rfl, hU⟩, hb4⟩
  have hbz := bnext (bnext (unhide HR2).2 (unhide HB3)) hb4
  have hrow := ((unhide HR2).1.later (unhide HB3)).later hb4
  have gz := row_below (unhide H0).2.1 hbz
  have HE := hide (cat_end (F := flatK 18 K.lst) (S := catP K.lst) (unhide HIn) hU (fun X => leaf_in X (by decide) (by decide) (by unfold maxLen; decide)) rfl hrow (bnext (unhide H0).1 hbz) (unhide H0).2.2)
  clear hb4 hbz hrow hU
  unfold pv
  go_wp2_with (first
    | (refine wpList_store_row rfl 24 _ _ rfl w.heap.size (patO U) rfl rfl 24 zeroP gz size_pat rfl (patO_oneC U) ?_)
    | fail)
  exact bodyPost_ret (results_cell_row rfl _ _ w.heap.size 24 (patO U) (0, 0) _ rfl (setRow_heap _ _ _ _ _ _ gz) Tryd.underlying24 rfl size_pat) rfl (unhide HE)
end Go.Proofs.YtbmngbpillihaaaDoor
