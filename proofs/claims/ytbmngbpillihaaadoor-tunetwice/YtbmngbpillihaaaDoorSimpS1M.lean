/- What is made simpler, without where it lies. tune.simpler of a text. -/
import Derived.Test.YtbmngbpillihaaaDoorSimpSPM
namespace Go.Proofs.YtbmngbpillihaaaDoor
open Go.RowKit

section
variable {last idle : PT → Bool} {join : PT → PT → Option PT}
theorem stay_can (hl : ∀ x : PT, last x.can = last x) (hi : ∀ x : PT, idle x.can = idle x) : ∀ (l : List PT) (ov : Bool), stay last idle ov (l.map PT.can) = (stay last idle ov l).map PT.can
  | [], ov => by cases ov <;> rfl
  | p :: l, true => stay_can hl hi l true
  | p :: l, false => by
    show (if idle p.can then stay last idle false (l.map PT.can) else p.can :: stay last idle (last p.can) (l.map PT.can)) = (if idle p then stay last idle false l else p :: stay last idle (last p) l).map PT.can
    rw [hi, hl, stay_can hl hi l, stay_can hl hi l]
    cases idle p <;> rfl
theorem add_can (hj : ∀ a b : PT, join a.can b.can = (join a b).map PT.can) (out : List PT) (p : PT) : addP join (out.map PT.can) p.can = (addP join out p).map PT.can := by
  unfold addP
  rw [List.getLast?_map]
  cases out.getLast? with
  | none => rfl
  | some x =>
    show (match join x.can p.can with | some y => (out.map PT.can).dropLast ++ [y] | none => out.map PT.can ++ [p.can]) = (match join x p with | some y => out.dropLast ++ [y] | none => out ++ [p]).map PT.can
    rw [hj]
    cases join x p with
    | none => simp
    | some y => simp [List.map_dropLast]
theorem fold_can (hj : ∀ a b : PT, join a.can b.can = (join a b).map PT.can) : ∀ L out : List PT, (L.map PT.can).foldl (addP join) (out.map PT.can) = (L.foldl (addP join) out).map PT.can
  | [], _ => rfl
  | p :: L, out => by
    show (L.map PT.can).foldl (addP join) (addP join (out.map PT.can) p.can) = _
    rw [add_can hj, fold_can hj L]; rfl
theorem flat_can (k : Int) (l : List PT) : flatK k (l.map PT.can) = (flatK k l).map PT.can := by
  unfold flatK
  rw [List.flatMap_map, List.map_flatMap]
  congr 1
  funext p
  rw [can_k, can_lst]
  split <;> rfl
theorem few_can (k : Int) (hl : ∀ x : PT, last x.can = last x) (hi : ∀ x : PT, idle x.can = idle x) (hj : ∀ a b : PT, join a.can b.can = (join a b).map PT.can) (l : List PT) : fewP k last idle join (l.map PT.can) = (fewP k last idle join l).map PT.can := by
  unfold fewP
  rw [flat_can, stay_can hl hi]
  exact fold_can hj _ []
end
theorem mkP_can (k : Int) (t : ByteArray) (n : Int) (nm : ByteArray) (l : List PT) : (mkP k t n nm l).can = mkP k t n nm (l.map PT.can) := by rw [PT.can_eq, mkP_lst]; rfl
theorem one_can (k : Int) (l : List PT) (z : PT) : (oneOrP k l z).can = oneOrP k (l.map PT.can) z.can := by
  match l with
  | [] => rfl
  | [x] => rfl
  | x :: y :: l => exact mkP_can _ _ _ _ _
theorem isE_can (x : PT) : isE x.can = isE x := by unfold isE; rw [can_k, can_t]
theorem isF_can (x : PT) : isF x.can = isF x := by unfold isF; rw [can_k]
theorem isA_can (x : PT) : isA x.can = isA x := by unfold isA; rw [can_k]
theorem nev_can (x : PT) : nev x.can = nev x := by unfold nev; rw [isF_can, isA_can]
theorem oneB_can (x : PT) : oneB x.can = oneB x := by unfold oneB; rw [can_k, can_t]
theorem any_can (p : Nat → Bool) : (anyP p).can = anyP p := by
  unfold anyP
  split
  · exact mkP_can _ _ _ _ _
  · exact mkP_can _ _ _ _ _
theorem cnt_can (k n : Int) : (cntP k n).can = cntP k n := by
  unfold cntP
  split
  · exact mkP_can _ _ _ _ _
  · split
    · exact mkP_can _ _ _ _ _
    · exact mkP_can _ _ _ _ _
theorem behind_can (a b : PT) : behindP a.can b.can = (behindP a b).map PT.can := by
  unfold behindP
  rw [can_k, can_k, can_t, can_t, can_n, can_n]
  split
  · rfl
  · split
    · exact congrArg some (mkP_can 1 _ 0 ⟨#[]⟩ []).symm
    · split
      · exact congrArg some (cnt_can 2 _).symm
      · rfl
theorem either_can (a b : PT) : eitherP a.can b.can = (eitherP a b).map PT.can := by
  unfold eitherP
  rw [oneB_can, oneB_can, can_t, can_t]
  split
  · rfl
  · split
    · exact congrArg some (any_can _).symm
    · rfl
theorem cat_can (l : List PT) : (catP l).can = catP (l.map PT.can) := by
  unfold catP
  rw [one_can, few_can 18 nev_can isE_can behind_can]; exact congrArg _ (mkP_can 1 ⟨#[]⟩ 0 ⟨#[]⟩ [])
theorem alt_can (l : List PT) : (altP l).can = altP (l.map PT.can) := by
  unfold altP
  rw [one_can, few_can 19 isA_can isF_can either_can]; exact congrArg _ (mkP_can 15 ⟨#[]⟩ 0 ⟨#[]⟩ [])
theorem getD_can {l : List PT} (h : 0 < l.length) : (l.map PT.can).getD 0 PT.nul = (l.getD 0 PT.nul).can := by
  match l, h with
  | x :: l, _ => rfl
theorem arb_can {l : List PT} (h : 0 < l.length) : (arbP l).can = arbP (l.map PT.can) := by
  unfold arbP
  rw [getD_can h, isF_can, isE_can, can_k, can_n]
  split
  · exact mkP_can _ _ _ _ _
  · split
    · exact mkP_can _ _ _ _ _
    · exact mkP_can _ _ _ _ _
theorem Smp_can : ∀ U : PT, U.Smp → U.can = U := mem_lst_ind fun U ih h => by
  obtain ⟨hN, hk⟩ := (Smp_iff U).1 h
  rw [PT.can_eq]
  have : U.lst.map PT.can = U.lst := by
    conv => rhs; rw [← List.map_id U.lst]
    exact List.map_congr_left fun x hx => ih x hx (hk x hx)
  rw [this]
  exact hN.eq.symm
end Go.Proofs.YtbmngbpillihaaaDoor

namespace Go.Proofs.YtbmngbpillihaaaDoor
open Go.RowKit

set_option maxRecDepth 100000 in
set_option maxHeartbeats 4000000 in
theorem simp_k1 (T : PT) (q : T.k = 1) (w : World) (hT : T.In w) (hn : T.len ≤ 100000) (ih : SimpIH T) (ht : T.t.size ≤ 65536) (hS : T.simp = litP T.t) :
    Calls Tryd.prog 21 #[pv T] w fun e w' => GivesP [] T.simp w e w' := by
  have hb0 : Below w.heap.size w ((w.alloc (.cells #[.int .i64 T.k, .string T.t, .int .i64 T.n, .string T.nm, .slice T.xa T.len T.cap] 24)).alloc (.cells #[.int .i64 0, .string ⟨#[]⟩, .int .i64 0, .string ⟨#[]⟩, .slice none 0 0] 24)) := ((Below.refl _ _).alloc (Nat.le_refl _) _).alloc (by simp) _
  have gb : ((w.alloc (.cells #[.int .i64 T.k, .string T.t, .int .i64 T.n, .string T.nm, .slice T.xa T.len T.cap] 24)).alloc (.cells #[.int .i64 0, .string ⟨#[]⟩, .int .i64 0, .string ⟨#[]⟩, .slice none 0 0] 24)).heap[w.heap.size]? = some (.cells #[.int .i64 T.k, .string T.t, .int .i64 T.n, .string T.nm, .slice T.xa T.len T.cap] 24 (0, 0)) := at_old (by simp) (at_new rfl)
  have gz : ((w.alloc (.cells #[.int .i64 T.k, .string T.t, .int .i64 T.n, .string T.nm, .slice T.xa T.len T.cap] 24)).alloc (.cells #[.int .i64 0, .string ⟨#[]⟩, .int .i64 0, .string ⟨#[]⟩, .slice none 0 0] 24)).heap[w.heap.size + 1]? = some (.cells zeroP 24 (0, 0)) := at_new (by simp)
  have hs1 : ((w.alloc (.cells #[.int .i64 T.k, .string T.t, .int .i64 T.n, .string T.nm, .slice T.xa T.len T.cap] 24)).alloc (.cells #[.int .i64 0, .string ⟨#[]⟩, .int .i64 0, .string ⟨#[]⟩, .slice none 0 0] 24)).heap.size = w.heap.size + 2 := by simp
  have H0 := hide (And.intro hb0 (And.intro gb (And.intro gz hs1)))
  have HT := hide hT
  have HI := hide info_pat
  have IH := hide ih
  have HS := hide (And.intro ht hS)
  clear ht hS
  have hmax := hT.max
  unfold maxLen at hmax
  obtain ⟨y0, y1, y2, y3, y4⟩ := pats5s gb
  unfold pv
  have HQ := hide q
  clear hb0 gb gz hs1 hT ih q
  go_enter Tryd.func21, Tryd.ntmps21
  go_wp2_with fail
  generalize ((w.alloc (.cells #[.int .i64 T.k, .string T.t, .int .i64 T.n, .string T.nm, .slice T.xa T.len T.cap] 24)).alloc (.cells #[.int .i64 0, .string ⟨#[]⟩, .int .i64 0, .string ⟨#[]⟩, .slice none 0 0] 24)) = W1 at *
  clear y0 y1 y2 y3 y4
  go_loopw [3, 10] (fun v x wr => ∃ (k : Nat) (Us : List PT), k ≤ T.len ∧ x = .int .i64 (k : Int) ∧ Us.length = k ∧ Hid (KidsAt wr (w.heap.size + 2) v Us) ∧ Hid (Below W1.heap.size W1 wr) ∧ Hid (Us.map PT.can = (T.lst.take k).map fun x => x.simp.can)) (fun _ x _ => T.len - (intOf x).toNat)
  case atStart => exact ⟨0, [], Nat.zero_le _, rfl, rfl, KidsAt.nil _ _, Below.refl _ _, rfl⟩
  case round =>
    obtain ⟨k, Us, hk, rfl, hul, HKd, HBr, HE⟩ := hrel
    rcases Nat.lt_or_ge k T.len with hlt | hge
    · have g1 : (k : Int) < (T.len : Int) := by omega
      have HBw := hide (bnext2 (unhide H0).1 (unhide HBr))
      obtain ⟨k0, k1, k2, k3, k4⟩ := (unhide HT).cells hlt
      have k0 := cell_later (unhide HBw) k0
      have k1 := cell_later (unhide HBw) k1
      have k2 := cell_later (unhide HBw) k2
      have k3 := cell_later (unhide HBw) k3
      have k4 := cell_later (unhide HBw) k4
      unfold PT.kv at k4
      have hia := kid_at (unhide HT) hlt
      have HTI := hide ((unhide HT).kids hlt)
      have HC := hide (fun W h => unhide IH k hlt W h)
      have hlk : k < T.lst.length := by rw [PT.lst_len]; exact hlt
      have HE2 := hide (show (T.lst.take (k + 1)).map (fun x => x.simp.can) = Us.map PT.can ++ [(T.kid k).simp.can] by
        have hgk : T.lst[k] = T.kid k := by have h := PT.lst_at hlt; rw [List.getElem?_eq_getElem hlk] at h; exact Option.some.inj h
        rw [List.take_succ_eq_append_getElem hlk, List.map_append, ← unhide HE, hgk]; rfl)
      generalize T.kid k = P at *
      unfold pv at HC
      have HAl := hide ((Below.refl wr.heap.size wr).alloc (Nat.le_refl _) (.cells #[.int .i64 P.k, .string P.t, .int .i64 P.n, .string P.nm, .slice P.xa P.len P.cap] 24))
      clear hlk
      go_wp2_with fail
      refine (unhide HC _ (PT.In.later (unhide HAl) (PT.In.later (unhide HBw) (unhide HTI)))).mono ?_
      rintro e w3 ⟨U, rfl, hU, hUc, hb3⟩
      have HK3 := hide ((unhide HKd).later (unhide HAl))
      have HUU := hide (And.intro (fun X => hU X (fun x hx => by cases hx)) (And.intro hUc hb3))
      have HB3 := hide (bnext2 (bnext2 (unhide HBr) (unhide HAl)) hb3)
      have HB0 := hide (show w.heap.size + 2 ≤ wr.heap.size from (unhide H0).2.2.2 ▸ (unhide HBr).size)
      clear hU hUc hb3 k0 k1 k2 k3 k4 hia
      unfold pv
      go_wp2_with (at_builtin; refine wpList_row Tryd.underlying22 (unhide HI) rfl (by decide) (by decide) five_len five_one rfl _ _ rfl (row_allocP ((unhide HK3).later (unhide HUU).2.2).row _) (by have := unhide HB0; have := (unhide HAl).size; have := (unhide HUU).2.2.size; rw [World.size_alloc]; omega) U w3.heap.size 1 rfl rfl (by exact five_cell) (by omega) ?_; intro v' w4 hrow hgrow hown)
      have HK5 := hide ((unhide HK3).put (by have := unhide HB0; have := (unhide HAl).size; omega) (unhide HUU).2.2 (unhide HUU).1 ((Below.refl _ _).alloc (Nat.le_refl _) _) hrow hgrow hown)
      have HB5 := hide (below_grown ((unhide HB3).alloc (unhide HB3).size _) (e := 24) (sz := 5) (f := five) (l := Us) (by rw [(unhide H0).2.2.2]; exact row_allocP ((unhide HK3).later (unhide HUU).2.2).row _) (Nat.le_refl _) hgrow)
      clear hrow hgrow hown
      go_wp2_with fail
      exact ⟨⟨k + 1, Us ++ [U], by omega, rfl, by simp; omega, HK5, HB5, by show _ = _; rw [List.map_append, unhide HE2, List.map_cons, (unhide HUU).2.1]; rfl⟩, by simp [intOf]; omega⟩
    · obtain rfl : k = T.len := by omega
      have g1 : ¬ (T.len : Int) < (T.len : Int) := by omega
      have HE2 := hide (show Us.map PT.can = T.lst.map (fun x => x.simp.can) by rw [unhide HE, ← PT.lst_len, List.take_length])
      obtain ⟨K, hv, hKl, hKi⟩ := (unhide HKd).pt
      subst hv
      have HKK := hide (And.intro hKl hKi)
      have gb := row_below (unhide H0).2.1 (unhide HBr)
      have gz := row_below (unhide H0).2.2.1 (unhide HBr)
      have HBw := hide (bnext2 (unhide H0).1 (unhide HBr))
      have HB0 := hide (show w.heap.size + 2 ≤ wr.heap.size from (unhide H0).2.2.2 ▸ (unhide HBr).size)
      obtain ⟨y0, y1, y2, y3, y4⟩ := pats5s gb
      have HG := hide (And.intro gb gz)
      clear hKl hKi gb gz hk hul HE HKd H0 HBr IH HT
      have q := unhide HQ
      rw [q] at y0
      go_wp2_with fail
      refine (clone_any T.t _ (by have := (unhide HS).1; omega)).mono ?_
      rintro e w4 ⟨rfl, hb4⟩
      have g4 := row_below (unhide HG).2 hb4
      have HB4 := hide (bnext (unhide HBw) hb4)
      clear hb4 y0 y1 y2 y3 y4
      go_wp2_with fail
      refine (literalS T.t _).mono ?_
      rintro e w5 ⟨rfl, hb5⟩
      have g5 := row_below g4 hb5
      have HB5 := hide (bnext (unhide HB4) hb5)
      clear hb5 g4
      go_wp2_with (first
        | (refine wpList_store_row rfl 24 _ _ rfl (w.heap.size + 1) (leafO 1 0 T.t) rfl rfl 24 zeroP g5 size_pat rfl (leafO_one _ _ _) ?_)
        | fail)
      exact bodyPost_ret (results_cell_row rfl _ _ (w.heap.size + 1) 24 (leafO 1 0 T.t) (0, 0) _ rfl (setRow_heap _ _ _ _ _ _ g5) Tryd.underlying24 rfl size_pat) rfl (gives_leafS (U := litP T.t) (fun X => leaf_in X (by decide) (by decide) (by have := (unhide HS).1; unfold maxLen; omega)) (unhide HS).2.symm (below_setRow (unhide HB5) _ (by omega) _))
end Go.Proofs.YtbmngbpillihaaaDoor
