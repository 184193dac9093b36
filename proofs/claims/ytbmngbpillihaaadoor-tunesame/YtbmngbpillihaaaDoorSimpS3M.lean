/- tune.simpler of counts. tune.simpler of a byte of a set. -/
import Derived.Test.YtbmngbpillihaaaDoorSimpS1M
namespace Go.Proofs.YtbmngbpillihaaaDoor
open Go.RowKit

set_option maxRecDepth 100000 in
set_option maxHeartbeats 4000000 in
theorem simp_k2 (T : PT) (q : T.k = 2) (w : World) (hT : T.In w) (hn : T.len ≤ 100000) (ih : SimpIH T) (hN : 0 ≤ T.n ∧ T.n ≤ 65536) (hS : T.simp = cntP 2 T.n) :
    Calls Tryd.prog 21 #[pv T] w fun e w' => GivesP [] T.simp w e w' := by
  have hb0 : Below w.heap.size w ((w.alloc (.cells #[.int .i64 T.k, .string T.t, .int .i64 T.n, .string T.nm, .slice T.xa T.len T.cap] 24)).alloc (.cells #[.int .i64 0, .string ⟨#[]⟩, .int .i64 0, .string ⟨#[]⟩, .slice none 0 0] 24)) := ((Below.refl _ _).alloc (Nat.le_refl _) _).alloc (by simp) _
  have gb : ((w.alloc (.cells #[.int .i64 T.k, .string T.t, .int .i64 T.n, .string T.nm, .slice T.xa T.len T.cap] 24)).alloc (.cells #[.int .i64 0, .string ⟨#[]⟩, .int .i64 0, .string ⟨#[]⟩, .slice none 0 0] 24)).heap[w.heap.size]? = some (.cells #[.int .i64 T.k, .string T.t, .int .i64 T.n, .string T.nm, .slice T.xa T.len T.cap] 24 (0, 0)) := at_old (by simp) (at_new rfl)
  have gz : ((w.alloc (.cells #[.int .i64 T.k, .string T.t, .int .i64 T.n, .string T.nm, .slice T.xa T.len T.cap] 24)).alloc (.cells #[.int .i64 0, .string ⟨#[]⟩, .int .i64 0, .string ⟨#[]⟩, .slice none 0 0] 24)).heap[w.heap.size + 1]? = some (.cells zeroP 24 (0, 0)) := at_new (by simp)
  have hs1 : ((w.alloc (.cells #[.int .i64 T.k, .string T.t, .int .i64 T.n, .string T.nm, .slice T.xa T.len T.cap] 24)).alloc (.cells #[.int .i64 0, .string ⟨#[]⟩, .int .i64 0, .string ⟨#[]⟩, .slice none 0 0] 24)).heap.size = w.heap.size + 2 := by simp
  have H0 := hide (And.intro hb0 (And.intro gb (And.intro gz hs1)))
  have HT := hide hT
  have HI := hide info_pat
  have IH := hide ih
  have HS := hide (And.intro hN hS)
  clear hN hS
  have hmax := hT.max
  unfold maxLen at hmax
  obtain ⟨y0, y1, y2, y3, y4⟩ := pats5s gb
  unfold pv
  have HQ := hide q
  clear hb0 gb gz hs1 hT ih q
  go_enter Tryd.func21, Tryd.ntmps21
  go_wp2_with fail
  generalize ((w.alloc (.cells #[.int .i64 T.k, .string T.t, .int .i64 T.n, .string T.nm, .slice T.xa T.len T.cap] 24)).alloc (.cells #[.int .i64 0, .string ⟨#[]⟩, .int .i64 0, .string ⟨#[]⟩, .slice none 0 0] 24)) = W1 at *
  clear y0 y1 y2 y3 y4
  go_loopw [3, 10] (fun v x wr => ∃ (k : Nat) (Us : List PT), k ≤ T.len ∧ x = .int .i64 (k : Int) ∧ Us.length = k ∧ Hid (KidsAt wr (w.heap.size + 2) v Us) ∧ Hid (Below W1.heap.size W1 wr) ∧ Hid (Us.map PT.can = (T.lst.take k).map fun x => x.simp.can)) (fun _ x _ => T.len - (intOf x).toNat)
  case atStart => exact ⟨0, [], Nat.zero_le _, rfl, rfl, KidsAt.nil _ _, Below.refl _ _, rfl⟩
  case round =>
    obtain ⟨k, Us, hk, rfl, hul, HKd, HBr, HE⟩ := hrel
    rcases Nat.lt_or_ge k T.len with hlt | hge
    · have g1 : (k : Int) < (T.len : Int) := by omega
      have HBw := hide (bnext2 (unhide H0).1 (unhide HBr))
      obtain ⟨k0, k1, k2, k3, k4⟩ := (unhide HT).cells hlt
      have k0 := cell_later (unhide HBw) k0
      have k1 := cell_later (unhide HBw) k1
      have k2 := cell_later (unhide HBw) k2
      have k3 := cell_later (unhide HBw) k3
      have k4 := cell_later (unhide HBw) k4
      unfold PT.kv at k4
      have hia := kid_at (unhide HT) hlt
      have HTI := hide ((unhide HT).kids hlt)
      have HC := hide (fun W h => unhide IH k hlt W h)
      have hlk : k < T.lst.length := by rw [PT.lst_len]; exact hlt
      have HE2 := hide (show (T.lst.take (k + 1)).map (fun x => x.simp.can) = Us.map PT.can ++ [(T.kid k).simp.can] by
        have hgk : T.lst[k] = T.kid k := by have h := PT.lst_at hlt; rw [List.getElem?_eq_getElem hlk] at h; exact Option.some.inj h
        rw [List.take_succ_eq_append_getElem hlk, List.map_append, ← unhide HE, hgk]; rfl)
      generalize T.kid k = P at *
      unfold pv at HC
      have HAl := hide ((Below.refl wr.heap.size wr).alloc (Nat.le_refl _) (.cells #[.int .i64 P.k, .string P.t, .int .i64 P.n, .string P.nm, .slice P.xa P.len P.cap] 24))
      clear hlk
      go_wp2_with fail
      refine (unhide HC _ (PT.In.later (unhide HAl) (PT.In.later (unhide HBw) (unhide HTI)))).mono ?_
      rintro e w3 ⟨U, rfl, hU, hUc, hb3⟩
      have HK3 := hide ((unhide HKd).later (unhide HAl))
      have HUU := hide (And.intro (fun X => hU X (fun x hx => by cases hx)) (And.intro hUc hb3))
      have HB3 := hide (bnext2 (bnext2 (unhide HBr) (unhide HAl)) hb3)
      have HB0 := hide (show w.heap.size + 2 ≤ wr.heap.size from (unhide H0).2.2.2 ▸ (unhide HBr).size)
      clear hU hUc hb3 k0 k1 k2 k3 k4 hia
      unfold pv
      go_wp2_with (at_builtin; refine wpList_row Tryd.underlying22 (unhide HI) rfl (by decide) (by decide) five_len five_one rfl _ _ rfl (row_allocP ((unhide HK3).later (unhide HUU).2.2).row _) (by have := unhide HB0; have := (unhide HAl).size; have := (unhide HUU).2.2.size; rw [World.size_alloc]; omega) U w3.heap.size 1 rfl rfl (by exact five_cell) (by omega) ?_; intro v' w4 hrow hgrow hown)
      have HK5 := hide ((unhide HK3).put (by have := unhide HB0; have := (unhide HAl).size; omega) (unhide HUU).2.2 (unhide HUU).1 ((Below.refl _ _).alloc (Nat.le_refl _) _) hrow hgrow hown)
      have HB5 := hide (below_grown ((unhide HB3).alloc (unhide HB3).size _) (e := 24) (sz := 5) (f := five) (l := Us) (by rw [(unhide H0).2.2.2]; exact row_allocP ((unhide HK3).later (unhide HUU).2.2).row _) (Nat.le_refl _) hgrow)
      clear hrow hgrow hown
      go_wp2_with fail
      exact ⟨⟨k + 1, Us ++ [U], by omega, rfl, by simp; omega, HK5, HB5, by show _ = _; rw [List.map_append, unhide HE2, List.map_cons, (unhide HUU).2.1]; rfl⟩, by simp [intOf]; omega⟩
    · obtain rfl : k = T.len := by omega
      have g1 : ¬ (T.len : Int) < (T.len : Int) := by omega
      have HE2 := hide (show Us.map PT.can = T.lst.map (fun x => x.simp.can) by rw [unhide HE, ← PT.lst_len, List.take_length])
      obtain ⟨K, hv, hKl, hKi⟩ := (unhide HKd).pt
      subst hv
      have HKK := hide (And.intro hKl hKi)
      have gb := row_below (unhide H0).2.1 (unhide HBr)
      have gz := row_below (unhide H0).2.2.1 (unhide HBr)
      have HBw := hide (bnext2 (unhide H0).1 (unhide HBr))
      have HB0 := hide (show w.heap.size + 2 ≤ wr.heap.size from (unhide H0).2.2.2 ▸ (unhide HBr).size)
      obtain ⟨y0, y1, y2, y3, y4⟩ := pats5s gb
      have HG := hide (And.intro gb gz)
      clear hKl hKi gb gz hk hul HE HKd H0 HBr IH HT
      have q := unhide HQ
      rw [q] at y0
      have HC := hide (fun W => counted_any 2 T.n W)
      have HU := hide (show ∀ X : World, (cntP 2 T.n).In X from fun X => cntP_in X (by decide) (unhide HS).1)
      generalize cntP 2 T.n = U at *
      go_wp2_with fail
      refine (unhide HC _).mono ?_
      rintro e w5 ⟨rfl, hb5⟩
      have g5 := row_below (unhide HG).2 hb5
      have HB5 := hide (bnext (unhide HBw) hb5)
      clear hb5 y0 y1 y2 y3 y4
      unfold pv
      go_wp2_with (first
        | (refine wpList_store_row rfl 24 _ _ rfl (w.heap.size + 1) (patO U) rfl rfl 24 zeroP g5 size_pat rfl (patO_oneC U) ?_)
        | fail)
      exact bodyPost_ret (results_cell_row rfl _ _ (w.heap.size + 1) 24 (patO U) (0, 0) _ rfl (setRow_heap _ _ _ _ _ _ g5) Tryd.underlying24 rfl size_pat) rfl (gives_leafS (U := U) (unhide HU) (unhide HS).2.symm (below_setRow (unhide HB5) _ (by omega) _))
set_option maxRecDepth 100000 in
set_option maxHeartbeats 4000000 in
theorem simp_k8 (T : PT) (q : T.k = 8) (w : World) (hT : T.In w) (hn : T.len ≤ 100000) (ih : SimpIH T) (hN : 0 ≤ T.n ∧ T.n ≤ 65536) (hS : T.simp = cntP 8 T.n) :
    Calls Tryd.prog 21 #[pv T] w fun e w' => GivesP [] T.simp w e w' := by
  have hb0 : Below w.heap.size w ((w.alloc (.cells #[.int .i64 T.k, .string T.t, .int .i64 T.n, .string T.nm, .slice T.xa T.len T.cap] 24)).alloc (.cells #[.int .i64 0, .string ⟨#[]⟩, .int .i64 0, .string ⟨#[]⟩, .slice none 0 0] 24)) := ((Below.refl _ _).alloc (Nat.le_refl _) _).alloc (by simp) _
  have gb : ((w.alloc (.cells #[.int .i64 T.k, .string T.t, .int .i64 T.n, .string T.nm, .slice T.xa T.len T.cap] 24)).alloc (.cells #[.int .i64 0, .string ⟨#[]⟩, .int .i64 0, .string ⟨#[]⟩, .slice none 0 0] 24)).heap[w.heap.size]? = some (.cells #[.int .i64 T.k, .string T.t, .int .i64 T.n, .string T.nm, .slice T.xa T.len T.cap] 24 (0, 0)) := at_old (by simp) (at_new rfl)
  have gz : ((w.alloc (.cells #[.int .i64 T.k, .string T.t, .int .i64 T.n, .string T.nm, .slice T.xa T.len T.cap] 24)).alloc (.cells #[.int .i64 0, .string ⟨#[]⟩, .int .i64 0, .string ⟨#[]⟩, .slice none 0 0] 24)).heap[w.heap.size + 1]? = some (.cells zeroP 24 (0, 0)) := at_new (by simp)
  have hs1 : ((w.alloc (.cells #[.int .i64 T.k, .string T.t, .int .i64 T.n, .string T.nm, .slice T.xa T.len T.cap] 24)).alloc (.cells #[.int .i64 0, .string ⟨#[]⟩, .int .i64 0, .string ⟨#[]⟩, .slice none 0 0] 24)).heap.size = w.heap.size + 2 := by simp
  have H0 := hide (And.intro hb0 (And.intro gb (And.intro gz hs1)))
  have HT := hide hT
  have HI := hide info_pat
  have IH := hide ih
  have HS := hide (And.intro hN hS)
  clear hN hS
  have hmax := hT.max
  unfold maxLen at hmax
  obtain ⟨y0, y1, y2, y3, y4⟩ := pats5s gb
  unfold pv
  have HQ := hide q
  clear hb0 gb gz hs1 hT ih q
  go_enter Tryd.func21, Tryd.ntmps21
  go_wp2_with fail
  generalize ((w.alloc (.cells #[.int .i64 T.k, .string T.t, .int .i64 T.n, .string T.nm, .slice T.xa T.len T.cap] 24)).alloc (.cells #[.int .i64 0, .string ⟨#[]⟩, .int .i64 0, .string ⟨#[]⟩, .slice none 0 0] 24)) = W1 at *
  clear y0 y1 y2 y3 y4
  go_loopw [3, 10] (fun v x wr => ∃ (k : Nat) (Us : List PT), k ≤ T.len ∧ x = .int .i64 (k : Int) ∧ Us.length = k ∧ Hid (KidsAt wr (w.heap.size + 2) v Us) ∧ Hid (Below W1.heap.size W1 wr) ∧ Hid (Us.map PT.can = (T.lst.take k).map fun x => x.simp.can)) (fun _ x _ => T.len - (intOf x).toNat)
  case atStart => exact ⟨0, [], Nat.zero_le _, rfl, rfl, KidsAt.nil _ _, Below.refl _ _, rfl⟩
  case round =>
    obtain ⟨k, Us, hk, rfl, hul, HKd, HBr, HE⟩ := hrel
    rcases Nat.lt_or_ge k T.len with hlt | hge
    · have g1 : (k : Int) < (T.len : Int) := by omega
      have HBw := hide (bnext2 (unhide H0).1 (unhide HBr))
      obtain ⟨k0, k1, k2, k3, k4⟩ := (unhide HT).cells hlt
      have k0 := cell_later (unhide HBw) k0
      have k1 := cell_later (unhide HBw) k1
      have k2 := cell_later (unhide HBw) k2
      have k3 := cell_later (unhide HBw) k3
      have k4 := cell_later (unhide HBw) k4
      unfold PT.kv at k4
      have hia := kid_at (unhide HT) hlt
      have HTI := hide ((unhide HT).kids hlt)
      have HC := hide (fun W h => unhide IH k hlt W h)
      have hlk : k < T.lst.length := by rw [PT.lst_len]; exact hlt
      have HE2 := hide (show (T.lst.take (k + 1)).map (fun x => x.simp.can) = Us.map PT.can ++ [(T.kid k).simp.can] by
        have hgk : T.lst[k] = T.kid k := by have h := PT.lst_at hlt; rw [List.getElem?_eq_getElem hlk] at h; exact Option.some.inj h
        rw [List.take_succ_eq_append_getElem hlk, List.map_append, ← unhide HE, hgk]; rfl)
      generalize T.kid k = P at *
      unfold pv at HC
      have HAl := hide ((Below.refl wr.heap.size wr).alloc (Nat.le_refl _) (.cells #[.int .i64 P.k, .string P.t, .int .i64 P.n, .string P.nm, .slice P.xa P.len P.cap] 24))
      clear hlk
      go_wp2_with fail
      refine (unhide HC _ (PT.In.later (unhide HAl) (PT.In.later (unhide HBw) (unhide HTI)))).mono ?_
      rintro e w3 ⟨U, rfl, hU, hUc, hb3⟩
      have HK3 := hide ((unhide HKd).later (unhide HAl))
      have HUU := hide (And.intro (fun X => hU X (fun x hx => by cases hx)) (And.intro hUc hb3))
      have HB3 := hide (bnext2 (bnext2 (unhide HBr) (unhide HAl)) hb3)
      have HB0 := hide (show w.heap.size + 2 ≤ wr.heap.size from (unhide H0).2.2.2 ▸ (unhide HBr).size)
      clear hU hUc hb3 k0 k1 k2 k3 k4 hia
      unfold pv
      go_wp2_with (at_builtin; refine wpList_row Tryd.underlying22 (unhide HI) rfl (by decide) (by decide) five_len five_one rfl _ _ rfl (row_allocP ((unhide HK3).later (unhide HUU).2.2).row _) (by have := unhide HB0; have := (unhide HAl).size; have := (unhide HUU).2.2.size; rw [World.size_alloc]; omega) U w3.heap.size 1 rfl rfl (by exact five_cell) (by omega) ?_; intro v' w4 hrow hgrow hown)
      have HK5 := hide ((unhide HK3).put (by have := unhide HB0; have := (unhide HAl).size; omega) (unhide HUU).2.2 (unhide HUU).1 ((Below.refl _ _).alloc (Nat.le_refl _) _) hrow hgrow hown)
      have HB5 := hide (below_grown ((unhide HB3).alloc (unhide HB3).size _) (e := 24) (sz := 5) (f := five) (l := Us) (by rw [(unhide H0).2.2.2]; exact row_allocP ((unhide HK3).later (unhide HUU).2.2).row _) (Nat.le_refl _) hgrow)
      clear hrow hgrow hown
      go_wp2_with fail
      exact ⟨⟨k + 1, Us ++ [U], by omega, rfl, by simp; omega, HK5, HB5, by show _ = _; rw [List.map_append, unhide HE2, List.map_cons, (unhide HUU).2.1]; rfl⟩, by simp [intOf]; omega⟩
    · obtain rfl : k = T.len := by omega
      have g1 : ¬ (T.len : Int) < (T.len : Int) := by omega
      have HE2 := hide (show Us.map PT.can = T.lst.map (fun x => x.simp.can) by rw [unhide HE, ← PT.lst_len, List.take_length])
      obtain ⟨K, hv, hKl, hKi⟩ := (unhide HKd).pt
      subst hv
      have HKK := hide (And.intro hKl hKi)
      have gb := row_below (unhide H0).2.1 (unhide HBr)
      have gz := row_below (unhide H0).2.2.1 (unhide HBr)
      have HBw := hide (bnext2 (unhide H0).1 (unhide HBr))
      have HB0 := hide (show w.heap.size + 2 ≤ wr.heap.size from (unhide H0).2.2.2 ▸ (unhide HBr).size)
      obtain ⟨y0, y1, y2, y3, y4⟩ := pats5s gb
      have HG := hide (And.intro gb gz)
      clear hKl hKi gb gz hk hul HE HKd H0 HBr IH HT
      have q := unhide HQ
      rw [q] at y0
      have HC := hide (fun W => counted_any 8 T.n W)
      have HU := hide (show ∀ X : World, (cntP 8 T.n).In X from fun X => cntP_in X (by decide) (unhide HS).1)
      generalize cntP 8 T.n = U at *
      go_wp2_with fail
      refine (unhide HC _).mono ?_
      rintro e w5 ⟨rfl, hb5⟩
      have g5 := row_below (unhide HG).2 hb5
      have HB5 := hide (bnext (unhide HBw) hb5)
      clear hb5 y0 y1 y2 y3 y4
      unfold pv
      go_wp2_with (first
        | (refine wpList_store_row rfl 24 _ _ rfl (w.heap.size + 1) (patO U) rfl rfl 24 zeroP g5 size_pat rfl (patO_oneC U) ?_)
        | fail)
      exact bodyPost_ret (results_cell_row rfl _ _ (w.heap.size + 1) 24 (patO U) (0, 0) _ rfl (setRow_heap _ _ _ _ _ _ g5) Tryd.underlying24 rfl size_pat) rfl (gives_leafS (U := U) (unhide HU) (unhide HS).2.symm (below_setRow (unhide HB5) _ (by omega) _))
set_option maxRecDepth 100000 in
set_option maxHeartbeats 4000000 in
theorem simp_k9 (T : PT) (q : T.k = 9) (w : World) (hT : T.In w) (hn : T.len ≤ 100000) (ih : SimpIH T) (hN : 0 ≤ T.n ∧ T.n ≤ 65536) (hS : T.simp = cntP 9 T.n) :
    Calls Tryd.prog 21 #[pv T] w fun e w' => GivesP [] T.simp w e w' := by
  have hb0 : Below w.heap.size w ((w.alloc (.cells #[.int .i64 T.k, .string T.t, .int .i64 T.n, .string T.nm, .slice T.xa T.len T.cap] 24)).alloc (.cells #[.int .i64 0, .string ⟨#[]⟩, .int .i64 0, .string ⟨#[]⟩, .slice none 0 0] 24)) := ((Below.refl _ _).alloc (Nat.le_refl _) _).alloc (by simp) _
  have gb : ((w.alloc (.cells #[.int .i64 T.k, .string T.t, .int .i64 T.n, .string T.nm, .slice T.xa T.len T.cap] 24)).alloc (.cells #[.int .i64 0, .string ⟨#[]⟩, .int .i64 0, .string ⟨#[]⟩, .slice none 0 0] 24)).heap[w.heap.size]? = some (.cells #[.int .i64 T.k, .string T.t, .int .i64 T.n, .string T.nm, .slice T.xa T.len T.cap] 24 (0, 0)) := at_old (by simp) (at_new rfl)
  have gz : ((w.alloc (.cells #[.int .i64 T.k, .string T.t, .int .i64 T.n, .string T.nm, .slice T.xa T.len T.cap] 24)).alloc (.cells #[.int .i64 0, .string ⟨#[]⟩, .int .i64 0, .string ⟨#[]⟩, .slice none 0 0] 24)).heap[w.heap.size + 1]? = some (.cells zeroP 24 (0, 0)) := at_new (by simp)
  have hs1 : ((w.alloc (.cells #[.int .i64 T.k, .string T.t, .int .i64 T.n, .string T.nm, .slice T.xa T.len T.cap] 24)).alloc (.cells #[.int .i64 0, .string ⟨#[]⟩, .int .i64 0, .string ⟨#[]⟩, .slice none 0 0] 24)).heap.size = w.heap.size + 2 := by simp
  have H0 := hide (And.intro hb0 (And.intro gb (And.intro gz hs1)))
  have HT := hide hT
  have HI := hide info_pat
  have IH := hide ih
  have HS := hide (And.intro hN hS)
  clear hN hS
  have hmax := hT.max
  unfold maxLen at hmax
  obtain ⟨y0, y1, y2, y3, y4⟩ := pats5s gb
  unfold pv
  have HQ := hide q
  clear hb0 gb gz hs1 hT ih q
  go_enter Tryd.func21, Tryd.ntmps21
  go_wp2_with fail
  generalize ((w.alloc (.cells #[.int .i64 T.k, .string T.t, .int .i64 T.n, .string T.nm, .slice T.xa T.len T.cap] 24)).alloc (.cells #[.int .i64 0, .string ⟨#[]⟩, .int .i64 0, .string ⟨#[]⟩, .slice none 0 0] 24)) = W1 at *
  clear y0 y1 y2 y3 y4
  go_loopw [3, 10] (fun v x wr => ∃ (k : Nat) (Us : List PT), k ≤ T.len ∧ x = .int .i64 (k : Int) ∧ Us.length = k ∧ Hid (KidsAt wr (w.heap.size + 2) v Us) ∧ Hid (Below W1.heap.size W1 wr) ∧ Hid (Us.map PT.can = (T.lst.take k).map fun x => x.simp.can)) (fun _ x _ => T.len - (intOf x).toNat)
  case atStart => exact ⟨0, [], Nat.zero_le _, rfl, rfl, KidsAt.nil _ _, Below.refl _ _, rfl⟩
  case round =>
    obtain ⟨k, Us, hk, rfl, hul, HKd, HBr, HE⟩ := hrel
    rcases Nat.lt_or_ge k T.len with hlt | hge
    · have g1 : (k : Int) < (T.len : Int) := by omega
      have HBw := hide (bnext2 (unhide H0).1 (unhide HBr))
      obtain ⟨k0, k1, k2, k3, k4⟩ := (unhide HT).cells hlt
      have k0 := cell_later (unhide HBw) k0
      have k1 := cell_later (unhide HBw) k1
      have k2 := cell_later (unhide HBw) k2
      have k3 := cell_later (unhide HBw) k3
      have k4 := cell_later (unhide HBw) k4
      unfold PT.kv at k4
      have hia := kid_at (unhide HT) hlt
      have HTI := hide ((unhide HT).kids hlt)
      have HC := hide (fun W h => unhide IH k hlt W h)
      have hlk : k < T.lst.length := by rw [PT.lst_len]; exact hlt
      have HE2 := hide (show (T.lst.take (k + 1)).map (fun x => x.simp.can) = Us.map PT.can ++ [(T.kid k).simp.can] by
        have hgk : T.lst[k] = T.kid k := by have h := PT.lst_at hlt; rw [List.getElem?_eq_getElem hlk] at h; exact Option.some.inj h
        rw [List.take_succ_eq_append_getElem hlk, List.map_append, ← unhide HE, hgk]; rfl)
      generalize T.kid k = P at *
      unfold pv at HC
      have HAl := hide ((Below.refl wr.heap.size wr).alloc (Nat.le_refl _) (.cells #[.int .i64 P.k, .string P.t, .int .i64 P.n, .string P.nm, .slice P.xa P.len P.cap] 24))
      clear hlk
      go_wp2_with fail
      refine (unhide HC _ (PT.In.later (unhide HAl) (PT.In.later (unhide HBw) (unhide HTI)))).mono ?_
      rintro e w3 ⟨U, rfl, hU, hUc, hb3⟩
      have HK3 := hide ((unhide HKd).later (unhide HAl))
      have HUU := hide (And.intro (fun X => hU X (fun x hx => by cases hx)) (And.intro hUc hb3))
      have HB3 := hide (bnext2 (bnext2 (unhide HBr) (unhide HAl)) hb3)
      have HB0 := hide (show w.heap.size + 2 ≤ wr.heap.size from (unhide H0).2.2.2 ▸ (unhide HBr).size)
      clear hU hUc hb3 k0 k1 k2 k3 k4 hia
      unfold pv
      go_wp2_with (at_builtin; refine wpList_row Tryd.underlying22 (unhide HI) rfl (by decide) (by decide) five_len five_one rfl _ _ rfl (row_allocP ((unhide HK3).later (unhide HUU).2.2).row _) (by have := unhide HB0; have := (unhide HAl).size; have := (unhide HUU).2.2.size; rw [World.size_alloc]; omega) U w3.heap.size 1 rfl rfl (by exact five_cell) (by omega) ?_; intro v' w4 hrow hgrow hown)
      have HK5 := hide ((unhide HK3).put (by have := unhide HB0; have := (unhide HAl).size; omega) (unhide HUU).2.2 (unhide HUU).1 ((Below.refl _ _).alloc (Nat.le_refl _) _) hrow hgrow hown)
      have HB5 := hide (below_grown ((unhide HB3).alloc (unhide HB3).size _) (e := 24) (sz := 5) (f := five) (l := Us) (by rw [(unhide H0).2.2.2]; exact row_allocP ((unhide HK3).later (unhide HUU).2.2).row _) (Nat.le_refl _) hgrow)
      clear hrow hgrow hown
      go_wp2_with fail
      exact ⟨⟨k + 1, Us ++ [U], by omega, rfl, by simp; omega, HK5, HB5, by show _ = _; rw [List.map_append, unhide HE2, List.map_cons, (unhide HUU).2.1]; rfl⟩, by simp [intOf]; omega⟩
    · obtain rfl : k = T.len := by omega
      have g1 : ¬ (T.len : Int) < (T.len : Int) := by omega
      have HE2 := hide (show Us.map PT.can = T.lst.map (fun x => x.simp.can) by rw [unhide HE, ← PT.lst_len, List.take_length])
      obtain ⟨K, hv, hKl, hKi⟩ := (unhide HKd).pt
      subst hv
      have HKK := hide (And.intro hKl hKi)
      have gb := row_below (unhide H0).2.1 (unhide HBr)
      have gz := row_below (unhide H0).2.2.1 (unhide HBr)
      have HBw := hide (bnext2 (unhide H0).1 (unhide HBr))
      have HB0 := hide (show w.heap.size + 2 ≤ wr.heap.size from (unhide H0).2.2.2 ▸ (unhide HBr).size)
      obtain ⟨y0, y1, y2, y3, y4⟩ := pats5s gb
      have HG := hide (And.intro gb gz)
      clear hKl hKi gb gz hk hul HE HKd H0 HBr IH HT
      have q := unhide HQ
      rw [q] at y0
      have HC := hide (fun W => counted_any 9 T.n W)
      have HU := hide (show ∀ X : World, (cntP 9 T.n).In X from fun X => cntP_in X (by decide) (unhide HS).1)
      generalize cntP 9 T.n = U at *
      go_wp2_with fail
      refine (unhide HC _).mono ?_
      rintro e w5 ⟨rfl, hb5⟩
      have g5 := row_below (unhide HG).2 hb5
      have HB5 := hide (bnext (unhide HBw) hb5)
      clear hb5 y0 y1 y2 y3 y4
      unfold pv
      go_wp2_with (first
        | (refine wpList_store_row rfl 24 _ _ rfl (w.heap.size + 1) (patO U) rfl rfl 24 zeroP g5 size_pat rfl (patO_oneC U) ?_)
        | fail)
      exact bodyPost_ret (results_cell_row rfl _ _ (w.heap.size + 1) 24 (patO U) (0, 0) _ rfl (setRow_heap _ _ _ _ _ _ g5) Tryd.underlying24 rfl size_pat) rfl (gives_leafS (U := U) (unhide HU) (unhide HS).2.symm (below_setRow (unhide HB5) _ (by omega) _))
set_option maxRecDepth 100000 in
set_option maxHeartbeats 4000000 in
theorem simp_k10 (T : PT) (q : T.k = 10) (w : World) (hT : T.In w) (hn : T.len ≤ 100000) (ih : SimpIH T) (hN : 0 ≤ T.n ∧ T.n ≤ 65536) (hS : T.simp = cntP 10 T.n) :
    Calls Tryd.prog 21 #[pv T] w fun e w' => GivesP [] T.simp w e w' := by
  have hb0 : Below w.heap.size w ((w.alloc (.cells #[.int .i64 T.k, .string T.t, .int .i64 T.n, .string T.nm, .slice T.xa T.len T.cap] 24)).alloc (.cells #[.int .i64 0, .string ⟨#[]⟩, .int .i64 0, .string ⟨#[]⟩, .slice none 0 0] 24)) := ((Below.refl _ _).alloc (Nat.le_refl _) _).alloc (by simp) _
  have gb : ((w.alloc (.cells #[.int .i64 T.k, .string T.t, .int .i64 T.n, .string T.nm, .slice T.xa T.len T.cap] 24)).alloc (.cells #[.int .i64 0, .string ⟨#[]⟩, .int .i64 0, .string ⟨#[]⟩, .slice none 0 0] 24)).heap[w.heap.size]? = some (.cells #[.int .i64 T.k, .string T.t, .int .i64 T.n, .string T.nm, .slice T.xa T.len T.cap] 24 (0, 0)) := at_old (by simp) (at_new rfl)
  have gz : ((w.alloc (.cells #[.int .i64 T.k, .string T.t, .int .i64 T.n, .string T.nm, .slice T.xa T.len T.cap] 24)).alloc (.cells #[.int .i64 0, .string ⟨#[]⟩, .int .i64 0, .string ⟨#[]⟩, .slice none 0 0] 24)).heap[w.heap.size + 1]? = some (.cells zeroP 24 (0, 0)) := at_new (by simp)
  have hs1 : ((w.alloc (.cells #[.int .i64 T.k, .string T.t, .int .i64 T.n, .string T.nm, .slice T.xa T.len T.cap] 24)).alloc (.cells #[.int .i64 0, .string ⟨#[]⟩, .int .i64 0, .string ⟨#[]⟩, .slice none 0 0] 24)).heap.size = w.heap.size + 2 := by simp
  have H0 := hide (And.intro hb0 (And.intro gb (And.intro gz hs1)))
  have HT := hide hT
  have HI := hide info_pat
  have IH := hide ih
  have HS := hide (And.intro hN hS)
  clear hN hS
  have hmax := hT.max
  unfold maxLen at hmax
  obtain ⟨y0, y1, y2, y3, y4⟩ := pats5s gb
  unfold pv
  have HQ := hide q
  clear hb0 gb gz hs1 hT ih q
  go_enter Tryd.func21, Tryd.ntmps21
  go_wp2_with fail
  generalize ((w.alloc (.cells #[.int .i64 T.k, .string T.t, .int .i64 T.n, .string T.nm, .slice T.xa T.len T.cap] 24)).alloc (.cells #[.int .i64 0, .string ⟨#[]⟩, .int .i64 0, .string ⟨#[]⟩, .slice none 0 0] 24)) = W1 at *
  clear y0 y1 y2 y3 y4
  go_loopw [3, 10] (fun v x wr => ∃ (k : Nat) (Us : List PT), k ≤ T.len ∧ x = .int .i64 (k : Int) ∧ Us.length = k ∧ Hid (KidsAt wr (w.heap.size + 2) v Us) ∧ Hid (Below W1.heap.size W1 wr) ∧ Hid (Us.map PT.can = (T.lst.take k).map fun x => x.simp.can)) (fun _ x _ => T.len - (intOf x).toNat)
  case atStart => exact ⟨0, [], Nat.zero_le _, rfl, rfl, KidsAt.nil _ _, Below.refl _ _, rfl⟩
  case round =>
    obtain ⟨k, Us, hk, rfl, hul, HKd, HBr, HE⟩ := hrel
    rcases Nat.lt_or_ge k T.len with hlt | hge
    · have g1 : (k : Int) < (T.len : Int) := by omega
      have HBw := hide (bnext2 (unhide H0).1 (unhide HBr))
      obtain ⟨k0, k1, k2, k3, k4⟩ := (unhide HT).cells hlt
      have k0 := cell_later (unhide HBw) k0
      have k1 := cell_later (unhide HBw) k1
      have k2 := cell_later (unhide HBw) k2
      have k3 := cell_later (unhide HBw) k3
      have k4 := cell_later (unhide HBw) k4
      unfold PT.kv at k4
      have hia := kid_at (unhide HT) hlt
      have HTI := hide ((unhide HT).kids hlt)
      have HC := hide (fun W h => unhide IH k hlt W h)
      have hlk : k < T.lst.length := by rw [PT.lst_len]; exact hlt
      have HE2 := hide (show (T.lst.take (k + 1)).map (fun x => x.simp.can) = Us.map PT.can ++ [(T.kid k).simp.can] by
        have hgk : T.lst[k] = T.kid k := by have h := PT.lst_at hlt; rw [List.getElem?_eq_getElem hlk] at h; exact Option.some.inj h
        rw [List.take_succ_eq_append_getElem hlk, List.map_append, ← unhide HE, hgk]; rfl)
      generalize T.kid k = P at *
      unfold pv at HC
      have HAl := hide ((Below.refl wr.heap.size wr).alloc (Nat.le_refl _) (.cells #[.int .i64 P.k, .string P.t, .int .i64 P.n, .string P.nm, .slice P.xa P.len P.cap] 24))
      clear hlk
      go_wp2_with fail
      refine (unhide HC _ (PT.In.later (unhide HAl) (PT.In.later (unhide HBw) (unhide HTI)))).mono ?_
      rintro e w3 ⟨U, rfl, hU, hUc, hb3⟩
      have HK3 := hide ((unhide HKd).later (unhide HAl))
      have HUU := hide (And.intro (fun X => hU X (fun x hx => by cases hx)) (And.intro hUc hb3))
      have HB3 := hide (bnext2 (bnext2 (unhide HBr) (unhide HAl)) hb3)
      have HB0 := hide (show w.heap.size + 2 ≤ wr.heap.size from (unhide H0).2.2.2 ▸ (unhide HBr).size)
      clear hU hUc hb3 k0 k1 k2 k3 k4 hia
      unfold pv
      go_wp2_with (at_builtin; refine wpList_row Tryd.underlying22 (unhide HI) rfl (by decide) (by decide) five_len five_one rfl _ _ rfl (row_allocP ((unhide HK3).later (unhide HUU).2.2).row _) (by have := unhide HB0; have := (unhide HAl).size; have := (unhide HUU).2.2.size; rw [World.size_alloc]; omega) U w3.heap.size 1 rfl rfl (by exact five_cell) (by omega) ?_; intro v' w4 hrow hgrow hown)
      have HK5 := hide ((unhide HK3).put (by have := unhide HB0; have := (unhide HAl).size; omega) (unhide HUU).2.2 (unhide HUU).1 ((Below.refl _ _).alloc (Nat.le_refl _) _) hrow hgrow hown)
      have HB5 := hide (below_grown ((unhide HB3).alloc (unhide HB3).size _) (e := 24) (sz := 5) (f := five) (l := Us) (by rw [(unhide H0).2.2.2]; exact row_allocP ((unhide HK3).later (unhide HUU).2.2).row _) (Nat.le_refl _) hgrow)
      clear hrow hgrow hown
      go_wp2_with fail
      exact ⟨⟨k + 1, Us ++ [U], by omega, rfl, by simp; omega, HK5, HB5, by show _ = _; rw [List.map_append, unhide HE2, List.map_cons, (unhide HUU).2.1]; rfl⟩, by simp [intOf]; omega⟩
    · obtain rfl : k = T.len := by omega
      have g1 : ¬ (T.len : Int) < (T.len : Int) := by omega
      have HE2 := hide (show Us.map PT.can = T.lst.map (fun x => x.simp.can) by rw [unhide HE, ← PT.lst_len, List.take_length])
      obtain ⟨K, hv, hKl, hKi⟩ := (unhide HKd).pt
      subst hv
      have HKK := hide (And.intro hKl hKi)
      have gb := row_below (unhide H0).2.1 (unhide HBr)
      have gz := row_below (unhide H0).2.2.1 (unhide HBr)
      have HBw := hide (bnext2 (unhide H0).1 (unhide HBr))
      have HB0 := hide (show w.heap.size + 2 ≤ wr.heap.size from (unhide H0).2.2.2 ▸ (unhide HBr).size)
      obtain ⟨y0, y1, y2, y3, y4⟩ := pats5s gb
      have HG := hide (And.intro gb gz)
      clear hKl hKi gb gz hk hul HE HKd H0 HBr IH HT
      have q := unhide HQ
      rw [q] at y0
      have HC := hide (fun W => counted_any 10 T.n W)
      have HU := hide (show ∀ X : World, (cntP 10 T.n).In X from fun X => cntP_in X (by decide) (unhide HS).1)
      generalize cntP 10 T.n = U at *
      go_wp2_with fail
      refine (unhide HC _).mono ?_
      rintro e w5 ⟨rfl, hb5⟩
      have g5 := row_below (unhide HG).2 hb5
      have HB5 := hide (bnext (unhide HBw) hb5)
      clear hb5 y0 y1 y2 y3 y4
      unfold pv
      go_wp2_with (first
        | (refine wpList_store_row rfl 24 _ _ rfl (w.heap.size + 1) (patO U) rfl rfl 24 zeroP g5 size_pat rfl (patO_oneC U) ?_)
        | fail)
      exact bodyPost_ret (results_cell_row rfl _ _ (w.heap.size + 1) 24 (patO U) (0, 0) _ rfl (setRow_heap _ _ _ _ _ _ g5) Tryd.underlying24 rfl size_pat) rfl (gives_leafS (U := U) (unhide HU) (unhide HS).2.symm (below_setRow (unhide HB5) _ (by omega) _))
set_option maxRecDepth 100000 in
set_option maxHeartbeats 4000000 in
theorem simp_k11 (T : PT) (q : T.k = 11) (w : World) (hT : T.In w) (hn : T.len ≤ 100000) (ih : SimpIH T) (hN : 0 ≤ T.n ∧ T.n ≤ 65536) (hS : T.simp = cntP 11 T.n) :
    Calls Tryd.prog 21 #[pv T] w fun e w' => GivesP [] T.simp w e w' := by
  have hb0 : Below w.heap.size w ((w.alloc (.cells #[.int .i64 T.k, .string T.t, .int .i64 T.n, .string T.nm, .slice T.xa T.len T.cap] 24)).alloc (.cells #[.int .i64 0, .string ⟨#[]⟩, .int .i64 0, .string ⟨#[]⟩, .slice none 0 0] 24)) := ((Below.refl _ _).alloc (Nat.le_refl _) _).alloc (by simp) _
  have gb : ((w.alloc (.cells #[.int .i64 T.k, .string T.t, .int .i64 T.n, .string T.nm, .slice T.xa T.len T.cap] 24)).alloc (.cells #[.int .i64 0, .string ⟨#[]⟩, .int .i64 0, .string ⟨#[]⟩, .slice none 0 0] 24)).heap[w.heap.size]? = some (.cells #[.int .i64 T.k, .string T.t, .int .i64 T.n, .string T.nm, .slice T.xa T.len T.cap] 24 (0, 0)) := at_old (by simp) (at_new rfl)
  have gz : ((w.alloc (.cells #[.int .i64 T.k, .string T.t, .int .i64 T.n, .string T.nm, .slice T.xa T.len T.cap] 24)).alloc (.cells #[.int .i64 0, .string ⟨#[]⟩, .int .i64 0, .string ⟨#[]⟩, .slice none 0 0] 24)).heap[w.heap.size + 1]? = some (.cells zeroP 24 (0, 0)) := at_new (by simp)
  have hs1 : ((w.alloc (.cells #[.int .i64 T.k, .string T.t, .int .i64 T.n, .string T.nm, .slice T.xa T.len T.cap] 24)).alloc (.cells #[.int .i64 0, .string ⟨#[]⟩, .int .i64 0, .string ⟨#[]⟩, .slice none 0 0] 24)).heap.size = w.heap.size + 2 := by simp
  have H0 := hide (And.intro hb0 (And.intro gb (And.intro gz hs1)))
  have HT := hide hT
  have HI := hide info_pat
  have IH := hide ih
  have HS := hide (And.intro hN hS)
  clear hN hS
  have hmax := hT.max
  unfold maxLen at hmax
  obtain ⟨y0, y1, y2, y3, y4⟩ := pats5s gb
  unfold pv
  have HQ := hide q
  clear hb0 gb gz hs1 hT ih q
  go_enter Tryd.func21, Tryd.ntmps21
  go_wp2_with fail
  generalize ((w.alloc (.cells #[.int .i64 T.k, .string T.t, .int .i64 T.n, .string T.nm, .slice T.xa T.len T.cap] 24)).alloc (.cells #[.int .i64 0, .string ⟨#[]⟩, .int .i64 0, .string ⟨#[]⟩, .slice none 0 0] 24)) = W1 at *
  clear y0 y1 y2 y3 y4
  go_loopw [3, 10] (fun v x wr => ∃ (k : Nat) (Us : List PT), k ≤ T.len ∧ x = .int .i64 (k : Int) ∧ Us.length = k ∧ Hid (KidsAt wr (w.heap.size + 2) v Us) ∧ Hid (Below W1.heap.size W1 wr) ∧ Hid (Us.map PT.can = (T.lst.take k).map fun x => x.simp.can)) (fun _ x _ => T.len - (intOf x).toNat)
  case atStart => exact ⟨0, [], Nat.zero_le _, rfl, rfl, KidsAt.nil _ _, Below.refl _ _, rfl⟩
  case round =>
    obtain ⟨k, Us, hk, rfl, hul, HKd, HBr, HE⟩ := hrel
    rcases Nat.lt_or_ge k T.len with hlt | hge
    · have g1 : (k : Int) < (T.len : Int) := by omega
      have HBw := hide (bnext2 (unhide H0).1 (unhide HBr))
      obtain ⟨k0, k1, k2, k3, k4⟩ := (unhide HT).cells hlt
      have k0 := cell_later (unhide HBw) k0
      have k1 := cell_later (unhide HBw) k1
      have k2 := cell_later (unhide HBw) k2
      have k3 := cell_later (unhide HBw) k3
      have k4 := cell_later (unhide HBw) k4
      unfold PT.kv at k4
      have hia := kid_at (unhide HT) hlt
      have HTI := hide ((unhide HT).kids hlt)
      have HC := hide (fun W h => unhide IH k hlt W h)
      have hlk : k < T.lst.length := by rw [PT.lst_len]; exact hlt
      have HE2 := hide (show (T.lst.take (k + 1)).map (fun x => x.simp.can) = Us.map PT.can ++ [(T.kid k).simp.can] by
        have hgk : T.lst[k] = T.kid k := by have h := PT.lst_at hlt; rw [List.getElem?_eq_getElem hlk] at h; exact Option.some.inj h
        rw [List.take_succ_eq_append_getElem hlk, List.map_append, ← unhide HE, hgk]; rfl)
      generalize T.kid k = P at *
      unfold pv at HC
      have HAl := hide ((Below.refl wr.heap.size wr).alloc (Nat.le_refl _) (.cells #[.int .i64 P.k, .string P.t, .int .i64 P.n, .string P.nm, .slice P.xa P.len P.cap] 24))
      clear hlk
      go_wp2_with fail
      refine (unhide HC _ (PT.In.later (unhide HAl) (PT.In.later (unhide HBw) (unhide HTI)))).mono ?_
      rintro e w3 ⟨U, rfl, hU, hUc, hb3⟩
      have HK3 := hide ((unhide HKd).later (unhide HAl))
      have HUU := hide (And.intro (fun X => hU X (fun x hx => by cases hx)) (And.intro hUc hb3))
      have HB3 := hide (bnext2 (bnext2 (unhide HBr) (unhide HAl)) hb3)
      have HB0 := hide (show w.heap.size + 2 ≤ wr.heap.size from (unhide H0).2.2.2 ▸ (unhide HBr).size)
      clear hU hUc hb3 k0 k1 k2 k3 k4 hia
      unfold pv
      go_wp2_with (at_builtin; refine wpList_row Tryd.underlying22 (unhide HI) rfl (by decide) (by decide) five_len five_one rfl _ _ rfl (row_allocP ((unhide HK3).later (unhide HUU).2.2).row _) (by have := unhide HB0; have := (unhide HAl).size; have := (unhide HUU).2.2.size; rw [World.size_alloc]; omega) U w3.heap.size 1 rfl rfl (by exact five_cell) (by omega) ?_; intro v' w4 hrow hgrow hown)
      have HK5 := hide ((unhide HK3).put (by have := unhide HB0; have := (unhide HAl).size; omega) (unhide HUU).2.2 (unhide HUU).1 ((Below.refl _ _).alloc (Nat.le_refl _) _) hrow hgrow hown)
      have HB5 := hide (below_grown ((unhide HB3).alloc (unhide HB3).size _) (e := 24) (sz := 5) (f := five) (l := Us) (by rw [(unhide H0).2.2.2]; exact row_allocP ((unhide HK3).later (unhide HUU).2.2).row _) (Nat.le_refl _) hgrow)
      clear hrow hgrow hown
      go_wp2_with fail
      exact ⟨⟨k + 1, Us ++ [U], by omega, rfl, by simp; omega, HK5, HB5, by show _ = _; rw [List.map_append, unhide HE2, List.map_cons, (unhide HUU).2.1]; rfl⟩, by simp [intOf]; omega⟩
    · obtain rfl : k = T.len := by omega
      have g1 : ¬ (T.len : Int) < (T.len : Int) := by omega
      have HE2 := hide (show Us.map PT.can = T.lst.map (fun x => x.simp.can) by rw [unhide HE, ← PT.lst_len, List.take_length])
      obtain ⟨K, hv, hKl, hKi⟩ := (unhide HKd).pt
      subst hv
      have HKK := hide (And.intro hKl hKi)
      have gb := row_below (unhide H0).2.1 (unhide HBr)
      have gz := row_below (unhide H0).2.2.1 (unhide HBr)
      have HBw := hide (bnext2 (unhide H0).1 (unhide HBr))
      have HB0 := hide (show w.heap.size + 2 ≤ wr.heap.size from (unhide H0).2.2.2 ▸ (unhide HBr).size)
      obtain ⟨y0, y1, y2, y3, y4⟩ := pats5s gb
      have HG := hide (And.intro gb gz)
      clear hKl hKi gb gz hk hul HE HKd H0 HBr IH HT
      have q := unhide HQ
      rw [q] at y0
      have HC := hide (fun W => counted_any 11 T.n W)
      have HU := hide (show ∀ X : World, (cntP 11 T.n).In X from fun X => cntP_in X (by decide) (unhide HS).1)
      generalize cntP 11 T.n = U at *
      go_wp2_with fail
      refine (unhide HC _).mono ?_
      rintro e w5 ⟨rfl, hb5⟩
      have g5 := row_below (unhide HG).2 hb5
      have HB5 := hide (bnext (unhide HBw) hb5)
      clear hb5 y0 y1 y2 y3 y4
      unfold pv
      go_wp2_with (first
        | (refine wpList_store_row rfl 24 _ _ rfl (w.heap.size + 1) (patO U) rfl rfl 24 zeroP g5 size_pat rfl (patO_oneC U) ?_)
        | fail)
      exact bodyPost_ret (results_cell_row rfl _ _ (w.heap.size + 1) 24 (patO U) (0, 0) _ rfl (setRow_heap _ _ _ _ _ _ g5) Tryd.underlying24 rfl size_pat) rfl (gives_leafS (U := U) (unhide HU) (unhide HS).2.symm (below_setRow (unhide HB5) _ (by omega) _))
end Go.Proofs.YtbmngbpillihaaaDoor

namespace Go.Proofs.YtbmngbpillihaaaDoor
open Go.RowKit

set_option maxRecDepth 100000 in
set_option maxHeartbeats 4000000 in
theorem simp_k3 (T : PT) (q : T.k = 3) (w : World) (hT : T.In w) (hn : T.len ≤ 100000) (ih : SimpIH T) (U : PT) (Z : Array Value) (hO : ∀ W, Calls Tryd.prog 43 #[.string T.t] W fun e w' => e = .returned (.agg Z) ∧ Below W.heap.size W w') (hA : ∀ W, Calls Tryd.prog 42 #[.agg Z] W fun e w' => e = .returned (pv U) ∧ Below W.heap.size W w') (hU : ∀ X : World, U.In X) (hS : U = T.simp) :
    Calls Tryd.prog 21 #[pv T] w fun e w' => GivesP [] T.simp w e w' := by
  have hb0 : Below w.heap.size w ((w.alloc (.cells #[.int .i64 T.k, .string T.t, .int .i64 T.n, .string T.nm, .slice T.xa T.len T.cap] 24)).alloc (.cells #[.int .i64 0, .string ⟨#[]⟩, .int .i64 0, .string ⟨#[]⟩, .slice none 0 0] 24)) := ((Below.refl _ _).alloc (Nat.le_refl _) _).alloc (by simp) _
  have gb : ((w.alloc (.cells #[.int .i64 T.k, .string T.t, .int .i64 T.n, .string T.nm, .slice T.xa T.len T.cap] 24)).alloc (.cells #[.int .i64 0, .string ⟨#[]⟩, .int .i64 0, .string ⟨#[]⟩, .slice none 0 0] 24)).heap[w.heap.size]? = some (.cells #[.int .i64 T.k, .string T.t, .int .i64 T.n, .string T.nm, .slice T.xa T.len T.cap] 24 (0, 0)) := at_old (by simp) (at_new rfl)
  have gz : ((w.alloc (.cells #[.int .i64 T.k, .string T.t, .int .i64 T.n, .string T.nm, .slice T.xa T.len T.cap] 24)).alloc (.cells #[.int .i64 0, .string ⟨#[]⟩, .int .i64 0, .string ⟨#[]⟩, .slice none 0 0] 24)).heap[w.heap.size + 1]? = some (.cells zeroP 24 (0, 0)) := at_new (by simp)
  have hs1 : ((w.alloc (.cells #[.int .i64 T.k, .string T.t, .int .i64 T.n, .string T.nm, .slice T.xa T.len T.cap] 24)).alloc (.cells #[.int .i64 0, .string ⟨#[]⟩, .int .i64 0, .string ⟨#[]⟩, .slice none 0 0] 24)).heap.size = w.heap.size + 2 := by simp
  have H0 := hide (And.intro hb0 (And.intro gb (And.intro gz hs1)))
  have HT := hide hT
  have HI := hide info_pat
  have IH := hide ih
  have HO := hide hO
  have HC := hide hA
  have HU := hide (And.intro hU hS)
  clear hO hA hU hS
  have hmax := hT.max
  unfold maxLen at hmax
  obtain ⟨y0, y1, y2, y3, y4⟩ := pats5s gb
  unfold pv
  have HQ := hide q
  clear hb0 gb gz hs1 hT ih q
  go_enter Tryd.func21, Tryd.ntmps21
  go_wp2_with fail
  generalize ((w.alloc (.cells #[.int .i64 T.k, .string T.t, .int .i64 T.n, .string T.nm, .slice T.xa T.len T.cap] 24)).alloc (.cells #[.int .i64 0, .string ⟨#[]⟩, .int .i64 0, .string ⟨#[]⟩, .slice none 0 0] 24)) = W1 at *
  clear y0 y1 y2 y3 y4
  go_loopw [3, 10] (fun v x wr => ∃ (k : Nat) (Us : List PT), k ≤ T.len ∧ x = .int .i64 (k : Int) ∧ Us.length = k ∧ Hid (KidsAt wr (w.heap.size + 2) v Us) ∧ Hid (Below W1.heap.size W1 wr) ∧ Hid (Us.map PT.can = (T.lst.take k).map fun x => x.simp.can)) (fun _ x _ => T.len - (intOf x).toNat)
  case atStart => exact ⟨0, [], Nat.zero_le _, rfl, rfl, KidsAt.nil _ _, Below.refl _ _, rfl⟩
  case round =>
    obtain ⟨k, Us, hk, rfl, hul, HKd, HBr, HE⟩ := hrel
    rcases Nat.lt_or_ge k T.len with hlt | hge
    · have g1 : (k : Int) < (T.len : Int) := by omega
      have HBw := hide (bnext2 (unhide H0).1 (unhide HBr))
      obtain ⟨k0, k1, k2, k3, k4⟩ := (unhide HT).cells hlt
      have k0 := cell_later (unhide HBw) k0
      have k1 := cell_later (unhide HBw) k1
      have k2 := cell_later (unhide HBw) k2
      have k3 := cell_later (unhide HBw) k3
      have k4 := cell_later (unhide HBw) k4
      unfold PT.kv at k4
      have hia := kid_at (unhide HT) hlt
      have HTI := hide ((unhide HT).kids hlt)
      have HC := hide (fun W h => unhide IH k hlt W h)
      have hlk : k < T.lst.length := by rw [PT.lst_len]; exact hlt
      have HE2 := hide (show (T.lst.take (k + 1)).map (fun x => x.simp.can) = Us.map PT.can ++ [(T.kid k).simp.can] by
        have hgk : T.lst[k] = T.kid k := by have h := PT.lst_at hlt; rw [List.getElem?_eq_getElem hlk] at h; exact Option.some.inj h
        rw [List.take_succ_eq_append_getElem hlk, List.map_append, ← unhide HE, hgk]; rfl)
      generalize T.kid k = P at *
      unfold pv at HC
      have HAl := hide ((Below.refl wr.heap.size wr).alloc (Nat.le_refl _) (.cells #[.int .i64 P.k, .string P.t, .int .i64 P.n, .string P.nm, .slice P.xa P.len P.cap] 24))
      clear hlk
      go_wp2_with fail
      refine (unhide HC _ (PT.In.later (unhide HAl) (PT.In.later (unhide HBw) (unhide HTI)))).mono ?_
      rintro e w3 ⟨U, rfl, hU, hUc, hb3⟩
      have HK3 := hide ((unhide HKd).later (unhide HAl))
      have HUU := hide (And.intro (fun X => hU X (fun x hx => by cases hx)) (And.intro hUc hb3))
      have HB3 := hide (bnext2 (bnext2 (unhide HBr) (unhide HAl)) hb3)
      have HB0 := hide (show w.heap.size + 2 ≤ wr.heap.size from (unhide H0).2.2.2 ▸ (unhide HBr).size)
      clear hU hUc hb3 k0 k1 k2 k3 k4 hia
      unfold pv
      go_wp2_with (at_builtin; refine wpList_row Tryd.underlying22 (unhide HI) rfl (by decide) (by decide) five_len five_one rfl _ _ rfl (row_allocP ((unhide HK3).later (unhide HUU).2.2).row _) (by have := unhide HB0; have := (unhide HAl).size; have := (unhide HUU).2.2.size; rw [World.size_alloc]; omega) U w3.heap.size 1 rfl rfl (by exact five_cell) (by omega) ?_; intro v' w4 hrow hgrow hown)
      have HK5 := hide ((unhide HK3).put (by have := unhide HB0; have := (unhide HAl).size; omega) (unhide HUU).2.2 (unhide HUU).1 ((Below.refl _ _).alloc (Nat.le_refl _) _) hrow hgrow hown)
      have HB5 := hide (below_grown ((unhide HB3).alloc (unhide HB3).size _) (e := 24) (sz := 5) (f := five) (l := Us) (by rw [(unhide H0).2.2.2]; exact row_allocP ((unhide HK3).later (unhide HUU).2.2).row _) (Nat.le_refl _) hgrow)
      clear hrow hgrow hown
      go_wp2_with fail
      exact ⟨⟨k + 1, Us ++ [U], by omega, rfl, by simp; omega, HK5, HB5, by show _ = _; rw [List.map_append, unhide HE2, List.map_cons, (unhide HUU).2.1]; rfl⟩, by simp [intOf]; omega⟩
    · obtain rfl : k = T.len := by omega
      have g1 : ¬ (T.len : Int) < (T.len : Int) := by omega
      have HE2 := hide (show Us.map PT.can = T.lst.map (fun x => x.simp.can) by rw [unhide HE, ← PT.lst_len, List.take_length])
      obtain ⟨K, hv, hKl, hKi⟩ := (unhide HKd).pt
      subst hv
      have HKK := hide (And.intro hKl hKi)
      have gb := row_below (unhide H0).2.1 (unhide HBr)
      have gz := row_below (unhide H0).2.2.1 (unhide HBr)
      have HBw := hide (bnext2 (unhide H0).1 (unhide HBr))
      have HB0 := hide (show w.heap.size + 2 ≤ wr.heap.size from (unhide H0).2.2.2 ▸ (unhide HBr).size)
      obtain ⟨y0, y1, y2, y3, y4⟩ := pats5s gb
      have HG := hide (And.intro gb gz)
      clear hKl hKi gb gz hk hul HE HKd H0 HBr IH HT
      have q := unhide HQ
      rw [q] at y0
      go_wp2_with fail
      refine (unhide HO _).mono ?_
      rintro e w4 ⟨rfl, hb4⟩
      have g4 := row_below (unhide HG).2 hb4
      have HB4 := hide (bnext (unhide HBw) hb4)
      clear hb4 y0 y1 y2 y3 y4
      go_wp2_with fail
      refine (unhide HC _).mono ?_
      rintro e w5 ⟨rfl, hb5⟩
      have g5 := row_below g4 hb5
      have HB5 := hide (bnext (unhide HB4) hb5)
      clear hb5 g4
      unfold pv
      go_wp2_with (first
        | (refine wpList_store_row rfl 24 _ _ rfl (w.heap.size + 1) (patO U) rfl rfl 24 zeroP g5 size_pat rfl (patO_oneC U) ?_)
        | fail)
      exact bodyPost_ret (results_cell_row rfl _ _ (w.heap.size + 1) 24 (patO U) (0, 0) _ rfl (setRow_heap _ _ _ _ _ _ g5) Tryd.underlying24 rfl size_pat) rfl (gives_leafS (U := U) (unhide HU).1 (unhide HU).2 (below_setRow (unhide HB5) _ (by omega) _))
end Go.Proofs.YtbmngbpillihaaaDoor
