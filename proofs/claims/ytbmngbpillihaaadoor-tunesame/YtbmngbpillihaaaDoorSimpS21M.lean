/- tune.simpler of a row of patterns, one behind the other. tune.simpler of a row of patterns, one of them. tune.simpler of a pattern again and again. tune.simpler of what is given a name. -/
import Derived.Test.YtbmngbpillihaaaDoorSimpS1M
namespace Go.Proofs.YtbmngbpillihaaaDoor
open Go.RowKit

set_option maxRecDepth 100000 in
set_option maxHeartbeats 4000000 in
theorem simp_k18 (T : PT) (q : T.k = 18) (w : World) (hT : T.In w) (hn : T.len ≤ 100000) (ih : SimpIH T) (hP : ∀ Us : List PT, Us.map PT.can = T.lst.map (fun x => x.simp.can) → (flatK 18 Us).length ≤ 90000 ∧ (∀ x ∈ flatK 18 Us, Fine5 x) ∧ (catP Us).can = T.simp.can) :
    Calls Tryd.prog 21 #[pv T] w fun e w' => GivesP [] T.simp w e w' := by
  have hb0 : Below w.heap.size w ((w.alloc (.cells #[.int .i64 T.k, .string T.t, .int .i64 T.n, .string T.nm, .slice T.xa T.len T.cap] 24)).alloc (.cells #[.int .i64 0, .string ⟨#[]⟩, .int .i64 0, .string ⟨#[]⟩, .slice none 0 0] 24)) := ((Below.refl _ _).alloc (Nat.le_refl _) _).alloc (by simp) _
  have gb : ((w.alloc (.cells #[.int .i64 T.k, .string T.t, .int .i64 T.n, .string T.nm, .slice T.xa T.len T.cap] 24)).alloc (.cells #[.int .i64 0, .string ⟨#[]⟩, .int .i64 0, .string ⟨#[]⟩, .slice none 0 0] 24)).heap[w.heap.size]? = some (.cells #[.int .i64 T.k, .string T.t, .int .i64 T.n, .string T.nm, .slice T.xa T.len T.cap] 24 (0, 0)) := at_old (by simp) (at_new rfl)
  have gz : ((w.alloc (.cells #[.int .i64 T.k, .string T.t, .int .i64 T.n, .string T.nm, .slice T.xa T.len T.cap] 24)).alloc (.cells #[.int .i64 0, .string ⟨#[]⟩, .int .i64 0, .string ⟨#[]⟩, .slice none 0 0] 24)).heap[w.heap.size + 1]? = some (.cells zeroP 24 (0, 0)) := at_new (by simp)
  have hs1 : ((w.alloc (.cells #[.int .i64 T.k, .string T.t, .int .i64 T.n, .string T.nm, .slice T.xa T.len T.cap] 24)).alloc (.cells #[.int .i64 0, .string ⟨#[]⟩, .int .i64 0, .string ⟨#[]⟩, .slice none 0 0] 24)).heap.size = w.heap.size + 2 := by simp
  have H0 := hide (And.intro hb0 (And.intro gb (And.intro gz hs1)))
  have HT := hide hT
  have HI := hide info_pat
  have IH := hide ih
  have HP := hide hP
  clear hP
  have hmax := hT.max
  unfold maxLen at hmax
  obtain ⟨y0, y1, y2, y3, y4⟩ := pats5s gb
  unfold pv
  have HQ := hide q
  clear hb0 gb gz hs1 hT ih q
  go_enter Tryd.func21, Tryd.ntmps21
  go_wp2_with fail
  generalize ((w.alloc (.cells #[.int .i64 T.k, .string T.t, .int .i64 T.n, .string T.nm, .slice T.xa T.len T.cap] 24)).alloc (.cells #[.int .i64 0, .string ⟨#[]⟩, .int .i64 0, .string ⟨#[]⟩, .slice none 0 0] 24)) = W1 at *
  clear y0 y1 y2 y3 y4
  go_loopw [3, 10] (fun v x wr => ∃ (k : Nat) (Us : List PT), k ≤ T.len ∧ x = .int .i64 (k : Int) ∧ Us.length = k ∧ Hid (KidsAt wr (w.heap.size + 2) v Us) ∧ Hid (Below W1.heap.size W1 wr) ∧ Hid (Us.map PT.can = (T.lst.take k).map fun x => x.simp.can)) (fun _ x _ => T.len - (intOf x).toNat)
  case atStart => exact ⟨0, [], Nat.zero_le _, rfl, rfl, KidsAt.nil _ _, Below.refl _ _, rfl⟩
  case round =>
    obtain ⟨k, Us, hk, rfl, hul, HKd, HBr, HE⟩ := hrel
    rcases Nat.lt_or_ge k T.len with hlt | hge
    · have g1 : (k : Int) < (T.len : Int) := by omega
      have HBw := hide (bnext2 (unhide H0).1 (unhide HBr))
      obtain ⟨k0, k1, k2, k3, k4⟩ := (unhide HT).cells hlt
      have k0 := cell_later (unhide HBw) k0
      have k1 := cell_later (unhide HBw) k1
      have k2 := cell_later (unhide HBw) k2
      have k3 := cell_later (unhide HBw) k3
      have k4 := cell_later (unhide HBw) k4
      unfold PT.kv at k4
      have hia := kid_at (unhide HT) hlt
      have HTI := hide ((unhide HT).kids hlt)
      have HC := hide (fun W h => unhide IH k hlt W h)
      have hlk : k < T.lst.length := by rw [PT.lst_len]; exact hlt
      have HE2 := hide (show (T.lst.take (k + 1)).map (fun x => x.simp.can) = Us.map PT.can ++ [(T.kid k).simp.can] by
        have hgk : T.lst[k] = T.kid k := by have h := PT.lst_at hlt; rw [List.getElem?_eq_getElem hlk] at h; exact Option.some.inj h
        rw [List.take_succ_eq_append_getElem hlk, List.map_append, ← unhide HE, hgk]; rfl)
      generalize T.kid k = P at *
      unfold pv at HC
      have HAl := hide ((Below.refl wr.heap.size wr).alloc (Nat.le_refl _) (.cells #[.int .i64 P.k, .string P.t, .int .i64 P.n, .string P.nm, .slice P.xa P.len P.cap] 24))
      clear hlk
      go_wp2_with fail
      refine (unhide HC _ (PT.In.later (unhide HAl) (PT.In.later (unhide HBw) (unhide HTI)))).mono ?_
      rintro e w3 ⟨U, rfl, hU, hUc, hb3⟩
      have HK3 := hide ((unhide HKd).later (unhide HAl))
      have HUU := hide (And.intro (fun X => hU X (fun x hx => by cases hx)) (And.intro hUc hb3))
      have HB3 := hide (bnext2 (bnext2 (unhide HBr) (unhide HAl)) hb3)
      have HB0 := hide (show w.heap.size + 2 ≤ wr.heap.size from (unhide H0).2.2.2 ▸ (unhide HBr).size)
      clear hU hUc hb3 k0 k1 k2 k3 k4 hia
      unfold pv
      go_wp2_with (at_builtin; refine wpList_row Tryd.underlying22 (unhide HI) rfl (by decide) (by decide) five_len five_one rfl _ _ rfl (row_allocP ((unhide HK3).later (unhide HUU).2.2).row _) (by have := unhide HB0; have := (unhide HAl).size; have := (unhide HUU).2.2.size; rw [World.size_alloc]; omega) U w3.heap.size 1 rfl rfl (by exact five_cell) (by omega) ?_; intro v' w4 hrow hgrow hown)
      have HK5 := hide ((unhide HK3).put (by have := unhide HB0; have := (unhide HAl).size; omega) (unhide HUU).2.2 (unhide HUU).1 ((Below.refl _ _).alloc (Nat.le_refl _) _) hrow hgrow hown)
      have HB5 := hide (below_grown ((unhide HB3).alloc (unhide HB3).size _) (e := 24) (sz := 5) (f := five) (l := Us) (by rw [(unhide H0).2.2.2]; exact row_allocP ((unhide HK3).later (unhide HUU).2.2).row _) (Nat.le_refl _) hgrow)
      clear hrow hgrow hown
      go_wp2_with fail
      exact ⟨⟨k + 1, Us ++ [U], by omega, rfl, by simp; omega, HK5, HB5, by show _ = _; rw [List.map_append, unhide HE2, List.map_cons, (unhide HUU).2.1]; rfl⟩, by simp [intOf]; omega⟩
    · obtain rfl : k = T.len := by omega
      have g1 : ¬ (T.len : Int) < (T.len : Int) := by omega
      have HE2 := hide (show Us.map PT.can = T.lst.map (fun x => x.simp.can) by rw [unhide HE, ← PT.lst_len, List.take_length])
      obtain ⟨K, hv, hKl, hKi⟩ := (unhide HKd).pt
      subst hv
      have HKK := hide (And.intro hKl hKi)
      have gb := row_below (unhide H0).2.1 (unhide HBr)
      have gz := row_below (unhide H0).2.2.1 (unhide HBr)
      have HBw := hide (bnext2 (unhide H0).1 (unhide HBr))
      have HB0 := hide (show w.heap.size + 2 ≤ wr.heap.size from (unhide H0).2.2.2 ▸ (unhide HBr).size)
      obtain ⟨y0, y1, y2, y3, y4⟩ := pats5s gb
      have HG := hide (And.intro gb gz)
      clear hKl hKi gb gz hk hul HE HKd H0 HBr IH HT
      have q := unhide HQ
      rw [q] at y0
      obtain ⟨hf1, hf2, hf3⟩ := unhide HP K.lst ((unhide HKK).1 ▸ unhide HE2)
      have HC := hide (catOfC K wr ((unhide HKK).2 wr fun _ _ _ => rfl) hf1 hf2)
      have HS := hide hf3
      clear hf1 hf2 hf3
      go_wp2_with fail
      refine (unhide HC).mono ?_
      intro e w4 hG
      obtain ⟨U, rfl, hU, hUc, hb4⟩ := hG
      have HGG := hide (show GivesP (flatK 18 K.lst) (catP K.lst) wr (.returned (pv U)) w4 from ⟨U, rfl, hU, hUc, hb4⟩)
      have g4 := row_below (unhide HG).2 hb4
      have HB4 := hide (bnext (unhide HBw) hb4)
      clear hU hUc hb4 y0 y1 y2 y3 y4
      unfold pv
      go_wp2_with (first
        | (refine wpList_store_row rfl 24 _ _ rfl (w.heap.size + 1) (patO U) rfl rfl 24 zeroP g4 size_pat rfl (patO_oneC U) ?_)
        | fail)
      exact bodyPost_ret (results_cell_row rfl _ _ (w.heap.size + 1) 24 (patO U) (0, 0) _ rfl (setRow_heap _ _ _ _ _ _ g4) Tryd.underlying24 rfl size_pat) rfl (gives_new (unhide HGG) (unhide HS) rfl (by rw [setRow_size]; exact Nat.le_refl _) (fun i a _ => setRow_other w4 (w.heap.size + 1) i _ (by omega)) (below_setRow (unhide HB4) _ (by omega) _) (fun X hX x hx => flat_in ((unhide HKK).2 X hX) hx) (unhide HB0))
end Go.Proofs.YtbmngbpillihaaaDoor

namespace Go.Proofs.YtbmngbpillihaaaDoor
open Go.RowKit

set_option maxRecDepth 100000 in
set_option maxHeartbeats 4000000 in
theorem simp_k19 (T : PT) (q : T.k = 19) (w : World) (hT : T.In w) (hn : T.len ≤ 100000) (ih : SimpIH T) (hP : ∀ Us : List PT, Us.map PT.can = T.lst.map (fun x => x.simp.can) → (flatK 19 Us).length ≤ 90000 ∧ (∀ x ∈ flatK 19 Us, Fine5 x) ∧ (altP Us).can = T.simp.can) :
    Calls Tryd.prog 21 #[pv T] w fun e w' => GivesP [] T.simp w e w' := by
  have hb0 : Below w.heap.size w ((w.alloc (.cells #[.int .i64 T.k, .string T.t, .int .i64 T.n, .string T.nm, .slice T.xa T.len T.cap] 24)).alloc (.cells #[.int .i64 0, .string ⟨#[]⟩, .int .i64 0, .string ⟨#[]⟩, .slice none 0 0] 24)) := ((Below.refl _ _).alloc (Nat.le_refl _) _).alloc (by simp) _
  have gb : ((w.alloc (.cells #[.int .i64 T.k, .string T.t, .int .i64 T.n, .string T.nm, .slice T.xa T.len T.cap] 24)).alloc (.cells #[.int .i64 0, .string ⟨#[]⟩, .int .i64 0, .string ⟨#[]⟩, .slice none 0 0] 24)).heap[w.heap.size]? = some (.cells #[.int .i64 T.k, .string T.t, .int .i64 T.n, .string T.nm, .slice T.xa T.len T.cap] 24 (0, 0)) := at_old (by simp) (at_new rfl)
  have gz : ((w.alloc (.cells #[.int .i64 T.k, .string T.t, .int .i64 T.n, .string T.nm, .slice T.xa T.len T.cap] 24)).alloc (.cells #[.int .i64 0, .string ⟨#[]⟩, .int .i64 0, .string ⟨#[]⟩, .slice none 0 0] 24)).heap[w.heap.size + 1]? = some (.cells zeroP 24 (0, 0)) := at_new (by simp)
  have hs1 : ((w.alloc (.cells #[.int .i64 T.k, .string T.t, .int .i64 T.n, .string T.nm, .slice T.xa T.len T.cap] 24)).alloc (.cells #[.int .i64 0, .string ⟨#[]⟩, .int .i64 0, .string ⟨#[]⟩, .slice none 0 0] 24)).heap.size = w.heap.size + 2 := by simp
  have H0 := hide (And.intro hb0 (And.intro gb (And.intro gz hs1)))
  have HT := hide hT
  have HI := hide info_pat
  have IH := hide ih
  have HP := hide hP
  clear hP
  have hmax := hT.max
  unfold maxLen at hmax
  obtain ⟨y0, y1, y2, y3, y4⟩ := pats5s gb
  unfold pv
  have HQ := hide q
  clear hb0 gb gz hs1 hT ih q
  go_enter Tryd.func21, Tryd.ntmps21
  go_wp2_with fail
  generalize ((w.alloc (.cells #[.int .i64 T.k, .string T.t, .int .i64 T.n, .string T.nm, .slice T.xa T.len T.cap] 24)).alloc (.cells #[.int .i64 0, .string ⟨#[]⟩, .int .i64 0, .string ⟨#[]⟩, .slice none 0 0] 24)) = W1 at *
  clear y0 y1 y2 y3 y4
  go_loopw [3, 10] (fun v x wr => ∃ (k : Nat) (Us : List PT), k ≤ T.len ∧ x = .int .i64 (k : Int) ∧ Us.length = k ∧ Hid (KidsAt wr (w.heap.size + 2) v Us) ∧ Hid (Below W1.heap.size W1 wr) ∧ Hid (Us.map PT.can = (T.lst.take k).map fun x => x.simp.can)) (fun _ x _ => T.len - (intOf x).toNat)
  case atStart => exact ⟨0, [], Nat.zero_le _, rfl, rfl, KidsAt.nil _ _, Below.refl _ _, rfl⟩
  case round =>
    obtain ⟨k, Us, hk, rfl, hul, HKd, HBr, HE⟩ := hrel
    rcases Nat.lt_or_ge k T.len with hlt | hge
    · have g1 : (k : Int) < (T.len : Int) := by omega
      have HBw := hide (bnext2 (unhide H0).1 (unhide HBr))
      obtain ⟨k0, k1, k2, k3, k4⟩ := (unhide HT).cells hlt
      have k0 := cell_later (unhide HBw) k0
      have k1 := cell_later (unhide HBw) k1
      have k2 := cell_later (unhide HBw) k2
      have k3 := cell_later (unhide HBw) k3
      have k4 := cell_later (unhide HBw) k4
      unfold PT.kv at k4
      have hia := kid_at (unhide HT) hlt
      have HTI := hide ((unhide HT).kids hlt)
      have HC := hide (fun W h => unhide IH k hlt W h)
      have hlk : k < T.lst.length := by rw [PT.lst_len]; exact hlt
      have HE2 := hide (show (T.lst.take (k + 1)).map (fun x => x.simp.can) = Us.map PT.can ++ [(T.kid k).simp.can] by
        have hgk : T.lst[k] = T.kid k := by have h := PT.lst_at hlt; rw [List.getElem?_eq_getElem hlk] at h; exact Option.some.inj h
        rw [List.take_succ_eq_append_getElem hlk, List.map_append, ← unhide HE, hgk]; rfl)
      generalize T.kid k = P at *
      unfold pv at HC
      have HAl := hide ((Below.refl wr.heap.size wr).alloc (Nat.le_refl _) (.cells #[.int .i64 P.k, .string P.t, .int .i64 P.n, .string P.nm, .slice P.xa P.len P.cap] 24))
      clear hlk
      go_wp2_with fail
      refine (unhide HC _ (PT.In.later (unhide HAl) (PT.In.later (unhide HBw) (unhide HTI)))).mono ?_
      rintro e w3 ⟨U, rfl, hU, hUc, hb3⟩
      have HK3 := hide ((unhide HKd).later (unhide HAl))
      have HUU := hide (And.intro (fun X => hU X (fun x hx => by cases hx)) (And.intro hUc hb3))
      have HB3 := hide (bnext2 (bnext2 (unhide HBr) (unhide HAl)) hb3)
      have HB0 := hide (show w.heap.size + 2 ≤ wr.heap.size from (unhide H0).2.2.2 ▸ (unhide HBr).size)
      clear hU hUc hb3 k0 k1 k2 k3 k4 hia
      unfold pv
      go_wp2_with (at_builtin; refine wpList_row Tryd.underlying22 (unhide HI) rfl (by decide) (by decide) five_len five_one rfl _ _ rfl (row_allocP ((unhide HK3).later (unhide HUU).2.2).row _) (by have := unhide HB0; have := (unhide HAl).size; have := (unhide HUU).2.2.size; rw [World.size_alloc]; omega) U w3.heap.size 1 rfl rfl (by exact five_cell) (by omega) ?_; intro v' w4 hrow hgrow hown)
      have HK5 := hide ((unhide HK3).put (by have := unhide HB0; have := (unhide HAl).size; omega) (unhide HUU).2.2 (unhide HUU).1 ((Below.refl _ _).alloc (Nat.le_refl _) _) hrow hgrow hown)
      have HB5 := hide (below_grown ((unhide HB3).alloc (unhide HB3).size _) (e := 24) (sz := 5) (f := five) (l := Us) (by rw [(unhide H0).2.2.2]; exact row_allocP ((unhide HK3).later (unhide HUU).2.2).row _) (Nat.le_refl _) hgrow)
      clear hrow hgrow hown
      go_wp2_with fail
      exact ⟨⟨k + 1, Us ++ [U], by omega, rfl, by simp; omega, HK5, HB5, by show _ = _; rw [List.map_append, unhide HE2, List.map_cons, (unhide HUU).2.1]; rfl⟩, by simp [intOf]; omega⟩
    · obtain rfl : k = T.len := by omega
      have g1 : ¬ (T.len : Int) < (T.len : Int) := by omega
      have HE2 := hide (show Us.map PT.can = T.lst.map (fun x => x.simp.can) by rw [unhide HE, ← PT.lst_len, List.take_length])
      obtain ⟨K, hv, hKl, hKi⟩ := (unhide HKd).pt
      subst hv
      have HKK := hide (And.intro hKl hKi)
      have gb := row_below (unhide H0).2.1 (unhide HBr)
      have gz := row_below (unhide H0).2.2.1 (unhide HBr)
      have HBw := hide (bnext2 (unhide H0).1 (unhide HBr))
      have HB0 := hide (show w.heap.size + 2 ≤ wr.heap.size from (unhide H0).2.2.2 ▸ (unhide HBr).size)
      obtain ⟨y0, y1, y2, y3, y4⟩ := pats5s gb
      have HG := hide (And.intro gb gz)
      clear hKl hKi gb gz hk hul HE HKd H0 HBr IH HT
      have q := unhide HQ
      rw [q] at y0
      obtain ⟨hf1, hf2, hf3⟩ := unhide HP K.lst ((unhide HKK).1 ▸ unhide HE2)
      have HC := hide (catOfA K wr ((unhide HKK).2 wr fun _ _ _ => rfl) hf1 hf2)
      have HS := hide hf3
      clear hf1 hf2 hf3
      go_wp2_with fail
      refine (unhide HC).mono ?_
      intro e w4 hG
      obtain ⟨U, rfl, hU, hUc, hb4⟩ := hG
      have HGG := hide (show GivesP (flatK 19 K.lst) (altP K.lst) wr (.returned (pv U)) w4 from ⟨U, rfl, hU, hUc, hb4⟩)
      have g4 := row_below (unhide HG).2 hb4
      have HB4 := hide (bnext (unhide HBw) hb4)
      clear hU hUc hb4 y0 y1 y2 y3 y4
      unfold pv
      go_wp2_with (first
        | (refine wpList_store_row rfl 24 _ _ rfl (w.heap.size + 1) (patO U) rfl rfl 24 zeroP g4 size_pat rfl (patO_oneC U) ?_)
        | fail)
      exact bodyPost_ret (results_cell_row rfl _ _ (w.heap.size + 1) 24 (patO U) (0, 0) _ rfl (setRow_heap _ _ _ _ _ _ g4) Tryd.underlying24 rfl size_pat) rfl (gives_new (unhide HGG) (unhide HS) rfl (by rw [setRow_size]; exact Nat.le_refl _) (fun i a _ => setRow_other w4 (w.heap.size + 1) i _ (by omega)) (below_setRow (unhide HB4) _ (by omega) _) (fun X hX x hx => flat_in ((unhide HKK).2 X hX) hx) (unhide HB0))
end Go.Proofs.YtbmngbpillihaaaDoor

namespace Go.Proofs.YtbmngbpillihaaaDoor
open Go.RowKit

set_option maxRecDepth 100000 in
set_option maxHeartbeats 4000000 in
theorem simp_k20 (T : PT) (q : T.k = 20) (w : World) (hT : T.In w) (hn : T.len ≤ 100000) (ih : SimpIH T) (hl : T.len = 1) (hP : ∀ Us : List PT, Us.map PT.can = T.lst.map (fun x => x.simp.can) → (arbP Us).can = T.simp.can) :
    Calls Tryd.prog 21 #[pv T] w fun e w' => GivesP [] T.simp w e w' := by
  have hb0 : Below w.heap.size w ((w.alloc (.cells #[.int .i64 T.k, .string T.t, .int .i64 T.n, .string T.nm, .slice T.xa T.len T.cap] 24)).alloc (.cells #[.int .i64 0, .string ⟨#[]⟩, .int .i64 0, .string ⟨#[]⟩, .slice none 0 0] 24)) := ((Below.refl _ _).alloc (Nat.le_refl _) _).alloc (by simp) _
  have gb : ((w.alloc (.cells #[.int .i64 T.k, .string T.t, .int .i64 T.n, .string T.nm, .slice T.xa T.len T.cap] 24)).alloc (.cells #[.int .i64 0, .string ⟨#[]⟩, .int .i64 0, .string ⟨#[]⟩, .slice none 0 0] 24)).heap[w.heap.size]? = some (.cells #[.int .i64 T.k, .string T.t, .int .i64 T.n, .string T.nm, .slice T.xa T.len T.cap] 24 (0, 0)) := at_old (by simp) (at_new rfl)
  have gz : ((w.alloc (.cells #[.int .i64 T.k, .string T.t, .int .i64 T.n, .string T.nm, .slice T.xa T.len T.cap] 24)).alloc (.cells #[.int .i64 0, .string ⟨#[]⟩, .int .i64 0, .string ⟨#[]⟩, .slice none 0 0] 24)).heap[w.heap.size + 1]? = some (.cells zeroP 24 (0, 0)) := at_new (by simp)
  have hs1 : ((w.alloc (.cells #[.int .i64 T.k, .string T.t, .int .i64 T.n, .string T.nm, .slice T.xa T.len T.cap] 24)).alloc (.cells #[.int .i64 0, .string ⟨#[]⟩, .int .i64 0, .string ⟨#[]⟩, .slice none 0 0] 24)).heap.size = w.heap.size + 2 := by simp
  have H0 := hide (And.intro hb0 (And.intro gb (And.intro gz hs1)))
  have HT := hide hT
  have HI := hide info_pat
  have IH := hide ih
  have HP := hide (And.intro hl hP)
  clear hP hl
  have hmax := hT.max
  unfold maxLen at hmax
  obtain ⟨y0, y1, y2, y3, y4⟩ := pats5s gb
  unfold pv
  have HQ := hide q
  clear hb0 gb gz hs1 hT ih q
  go_enter Tryd.func21, Tryd.ntmps21
  go_wp2_with fail
  generalize ((w.alloc (.cells #[.int .i64 T.k, .string T.t, .int .i64 T.n, .string T.nm, .slice T.xa T.len T.cap] 24)).alloc (.cells #[.int .i64 0, .string ⟨#[]⟩, .int .i64 0, .string ⟨#[]⟩, .slice none 0 0] 24)) = W1 at *
  clear y0 y1 y2 y3 y4
  go_loopw [3, 10] (fun v x wr => ∃ (k : Nat) (Us : List PT), k ≤ T.len ∧ x = .int .i64 (k : Int) ∧ Us.length = k ∧ Hid (KidsAt wr (w.heap.size + 2) v Us) ∧ Hid (Below W1.heap.size W1 wr) ∧ Hid (Us.map PT.can = (T.lst.take k).map fun x => x.simp.can)) (fun _ x _ => T.len - (intOf x).toNat)
  case atStart => exact ⟨0, [], Nat.zero_le _, rfl, rfl, KidsAt.nil _ _, Below.refl _ _, rfl⟩
  case round =>
    obtain ⟨k, Us, hk, rfl, hul, HKd, HBr, HE⟩ := hrel
    rcases Nat.lt_or_ge k T.len with hlt | hge
    · have g1 : (k : Int) < (T.len : Int) := by omega
      have HBw := hide (bnext2 (unhide H0).1 (unhide HBr))
      obtain ⟨k0, k1, k2, k3, k4⟩ := (unhide HT).cells hlt
      have k0 := cell_later (unhide HBw) k0
      have k1 := cell_later (unhide HBw) k1
      have k2 := cell_later (unhide HBw) k2
      have k3 := cell_later (unhide HBw) k3
      have k4 := cell_later (unhide HBw) k4
      unfold PT.kv at k4
      have hia := kid_at (unhide HT) hlt
      have HTI := hide ((unhide HT).kids hlt)
      have HC := hide (fun W h => unhide IH k hlt W h)
      have hlk : k < T.lst.length := by rw [PT.lst_len]; exact hlt
      have HE2 := hide (show (T.lst.take (k + 1)).map (fun x => x.simp.can) = Us.map PT.can ++ [(T.kid k).simp.can] by
        have hgk : T.lst[k] = T.kid k := by have h := PT.lst_at hlt; rw [List.getElem?_eq_getElem hlk] at h; exact Option.some.inj h
        rw [List.take_succ_eq_append_getElem hlk, List.map_append, ← unhide HE, hgk]; rfl)
      generalize T.kid k = P at *
      unfold pv at HC
      have HAl := hide ((Below.refl wr.heap.size wr).alloc (Nat.le_refl _) (.cells #[.int .i64 P.k, .string P.t, .int .i64 P.n, .string P.nm, .slice P.xa P.len P.cap] 24))
      clear hlk
      go_wp2_with fail
      refine (unhide HC _ (PT.In.later (unhide HAl) (PT.In.later (unhide HBw) (unhide HTI)))).mono ?_
      rintro e w3 ⟨U, rfl, hU, hUc, hb3⟩
      have HK3 := hide ((unhide HKd).later (unhide HAl))
      have HUU := hide (And.intro (fun X => hU X (fun x hx => by cases hx)) (And.intro hUc hb3))
      have HB3 := hide (bnext2 (bnext2 (unhide HBr) (unhide HAl)) hb3)
      have HB0 := hide (show w.heap.size + 2 ≤ wr.heap.size from (unhide H0).2.2.2 ▸ (unhide HBr).size)
      clear hU hUc hb3 k0 k1 k2 k3 k4 hia
      unfold pv
      go_wp2_with (at_builtin; refine wpList_row Tryd.underlying22 (unhide HI) rfl (by decide) (by decide) five_len five_one rfl _ _ rfl (row_allocP ((unhide HK3).later (unhide HUU).2.2).row _) (by have := unhide HB0; have := (unhide HAl).size; have := (unhide HUU).2.2.size; rw [World.size_alloc]; omega) U w3.heap.size 1 rfl rfl (by exact five_cell) (by omega) ?_; intro v' w4 hrow hgrow hown)
      have HK5 := hide ((unhide HK3).put (by have := unhide HB0; have := (unhide HAl).size; omega) (unhide HUU).2.2 (unhide HUU).1 ((Below.refl _ _).alloc (Nat.le_refl _) _) hrow hgrow hown)
      have HB5 := hide (below_grown ((unhide HB3).alloc (unhide HB3).size _) (e := 24) (sz := 5) (f := five) (l := Us) (by rw [(unhide H0).2.2.2]; exact row_allocP ((unhide HK3).later (unhide HUU).2.2).row _) (Nat.le_refl _) hgrow)
      clear hrow hgrow hown
      go_wp2_with fail
      exact ⟨⟨k + 1, Us ++ [U], by omega, rfl, by simp; omega, HK5, HB5, by show _ = _; rw [List.map_append, unhide HE2, List.map_cons, (unhide HUU).2.1]; rfl⟩, by simp [intOf]; omega⟩
    · obtain rfl : k = T.len := by omega
      have g1 : ¬ (T.len : Int) < (T.len : Int) := by omega
      have HE2 := hide (show Us.map PT.can = T.lst.map (fun x => x.simp.can) by rw [unhide HE, ← PT.lst_len, List.take_length])
      obtain ⟨K, hv, hKl, hKi⟩ := (unhide HKd).pt
      subst hv
      have HKK := hide (And.intro hKl hKi)
      have gb := row_below (unhide H0).2.1 (unhide HBr)
      have gz := row_below (unhide H0).2.2.1 (unhide HBr)
      have HBw := hide (bnext2 (unhide H0).1 (unhide HBr))
      have HB0 := hide (show w.heap.size + 2 ≤ wr.heap.size from (unhide H0).2.2.2 ▸ (unhide HBr).size)
      obtain ⟨y0, y1, y2, y3, y4⟩ := pats5s gb
      have HG := hide (And.intro gb gz)
      clear hKl hKi gb gz hk hul HE HKd H0 HBr IH HT
      have q := unhide HQ
      rw [q] at y0
      have hf3 := (unhide HP).2 K.lst ((unhide HKK).1 ▸ unhide HE2)
      have hkl : 0 < K.len := by
        have h := congrArg List.length (unhide HE2)
        rw [← (unhide HKK).1, List.length_map, List.length_map, PT.lst_len, PT.lst_len, (unhide HP).1] at h
        omega
      have HC := hide (arbnoOf_any K wr ((unhide HKK).2 wr fun _ _ _ => rfl) hkl)
      have HS := hide hf3
      clear hf3 hkl
      go_wp2_with fail
      refine (unhide HC).mono ?_
      intro e w4 hG
      obtain ⟨U, rfl, hU, hUc, hb4⟩ := hG
      have HGG := hide (show GivesP [K] (arbP K.lst) wr (.returned (pv U)) w4 from ⟨U, rfl, hU, hUc, hb4⟩)
      have g4 := row_below (unhide HG).2 hb4
      have HB4 := hide (bnext (unhide HBw) hb4)
      clear hU hUc hb4 y0 y1 y2 y3 y4
      unfold pv
      go_wp2_with (first
        | (refine wpList_store_row rfl 24 _ _ rfl (w.heap.size + 1) (patO U) rfl rfl 24 zeroP g4 size_pat rfl (patO_oneC U) ?_)
        | fail)
      exact bodyPost_ret (results_cell_row rfl _ _ (w.heap.size + 1) 24 (patO U) (0, 0) _ rfl (setRow_heap _ _ _ _ _ _ g4) Tryd.underlying24 rfl size_pat) rfl (gives_new (unhide HGG) (unhide HS) rfl (by rw [setRow_size]; exact Nat.le_refl _) (fun i a _ => setRow_other w4 (w.heap.size + 1) i _ (by omega)) (below_setRow (unhide HB4) _ (by omega) _) (fun X hX x hx => by rw [List.mem_singleton.1 hx]; exact (unhide HKK).2 X hX) (unhide HB0))
end Go.Proofs.YtbmngbpillihaaaDoor

namespace Go.Proofs.YtbmngbpillihaaaDoor
open Go.RowKit

set_option maxRecDepth 100000 in
set_option maxHeartbeats 4000000 in
theorem simp_k21 (T : PT) (q : T.k = 21) (w : World) (hT : T.In w) (hn : T.len ≤ 100000) (ih : SimpIH T) (hnm : T.nm.size ≤ 1000000) (hl : T.len = 1) (hP : ∀ Us : List PT, Us.map PT.can = T.lst.map (fun x => x.simp.can) → (if nev (Us.getD 0 PT.nul) = true then Us.getD 0 PT.nul else mkP 21 ⟨#[]⟩ 0 T.nm Us).can = T.simp.can) :
    Calls Tryd.prog 21 #[pv T] w fun e w' => GivesP [] T.simp w e w' := by
  have hb0 : Below w.heap.size w ((w.alloc (.cells #[.int .i64 T.k, .string T.t, .int .i64 T.n, .string T.nm, .slice T.xa T.len T.cap] 24)).alloc (.cells #[.int .i64 0, .string ⟨#[]⟩, .int .i64 0, .string ⟨#[]⟩, .slice none 0 0] 24)) := ((Below.refl _ _).alloc (Nat.le_refl _) _).alloc (by simp) _
  have gb : ((w.alloc (.cells #[.int .i64 T.k, .string T.t, .int .i64 T.n, .string T.nm, .slice T.xa T.len T.cap] 24)).alloc (.cells #[.int .i64 0, .string ⟨#[]⟩, .int .i64 0, .string ⟨#[]⟩, .slice none 0 0] 24)).heap[w.heap.size]? = some (.cells #[.int .i64 T.k, .string T.t, .int .i64 T.n, .string T.nm, .slice T.xa T.len T.cap] 24 (0, 0)) := at_old (by simp) (at_new rfl)
  have gz : ((w.alloc (.cells #[.int .i64 T.k, .string T.t, .int .i64 T.n, .string T.nm, .slice T.xa T.len T.cap] 24)).alloc (.cells #[.int .i64 0, .string ⟨#[]⟩, .int .i64 0, .string ⟨#[]⟩, .slice none 0 0] 24)).heap[w.heap.size + 1]? = some (.cells zeroP 24 (0, 0)) := at_new (by simp)
  have hs1 : ((w.alloc (.cells #[.int .i64 T.k, .string T.t, .int .i64 T.n, .string T.nm, .slice T.xa T.len T.cap] 24)).alloc (.cells #[.int .i64 0, .string ⟨#[]⟩, .int .i64 0, .string ⟨#[]⟩, .slice none 0 0] 24)).heap.size = w.heap.size + 2 := by simp
  have H0 := hide (And.intro hb0 (And.intro gb (And.intro gz hs1)))
  have HT := hide hT
  have HI := hide info_pat
  have IH := hide ih
  have HP := hide (And.intro hnm (And.intro hl hP))
  clear hP hnm hl
  have hmax := hT.max
  unfold maxLen at hmax
  obtain ⟨y0, y1, y2, y3, y4⟩ := pats5s gb
  unfold pv
  have HQ := hide q
  clear hb0 gb gz hs1 hT ih q
  go_enter Tryd.func21, Tryd.ntmps21
  go_wp2_with fail
  generalize ((w.alloc (.cells #[.int .i64 T.k, .string T.t, .int .i64 T.n, .string T.nm, .slice T.xa T.len T.cap] 24)).alloc (.cells #[.int .i64 0, .string ⟨#[]⟩, .int .i64 0, .string ⟨#[]⟩, .slice none 0 0] 24)) = W1 at *
  clear y0 y1 y2 y3 y4
  go_loopw [3, 10] (fun v x wr => ∃ (k : Nat) (Us : List PT), k ≤ T.len ∧ x = .int .i64 (k : Int) ∧ Us.length = k ∧ Hid (KidsAt wr (w.heap.size + 2) v Us) ∧ Hid (Below W1.heap.size W1 wr) ∧ Hid (Us.map PT.can = (T.lst.take k).map fun x => x.simp.can)) (fun _ x _ => T.len - (intOf x).toNat)
  case atStart => exact ⟨0, [], Nat.zero_le _, rfl, rfl, KidsAt.nil _ _, Below.refl _ _, rfl⟩
  case round =>
    obtain ⟨k, Us, hk, rfl, hul, HKd, HBr, HE⟩ := hrel
    rcases Nat.lt_or_ge k T.len with hlt | hge
    · have g1 : (k : Int) < (T.len : Int) := by omega
      have HBw := hide (bnext2 (unhide H0).1 (unhide HBr))
      obtain ⟨k0, k1, k2, k3, k4⟩ := (unhide HT).cells hlt
      have k0 := cell_later (unhide HBw) k0
      have k1 := cell_later (unhide HBw) k1
      have k2 := cell_later (unhide HBw) k2
      have k3 := cell_later (unhide HBw) k3
      have k4 := cell_later (unhide HBw) k4
      unfold PT.kv at k4
      have hia := kid_at (unhide HT) hlt
      have HTI := hide ((unhide HT).kids hlt)
      have HC := hide (fun W h => unhide IH k hlt W h)
      have hlk : k < T.lst.length := by rw [PT.lst_len]; exact hlt
      have HE2 := hide (show (T.lst.take (k + 1)).map (fun x => x.simp.can) = Us.map PT.can ++ [(T.kid k).simp.can] by
        have hgk : T.lst[k] = T.kid k := by have h := PT.lst_at hlt; rw [List.getElem?_eq_getElem hlk] at h; exact Option.some.inj h
        rw [List.take_succ_eq_append_getElem hlk, List.map_append, ← unhide HE, hgk]; rfl)
      generalize T.kid k = P at *
      unfold pv at HC
      have HAl := hide ((Below.refl wr.heap.size wr).alloc (Nat.le_refl _) (.cells #[.int .i64 P.k, .string P.t, .int .i64 P.n, .string P.nm, .slice P.xa P.len P.cap] 24))
      clear hlk
      go_wp2_with fail
      refine (unhide HC _ (PT.In.later (unhide HAl) (PT.In.later (unhide HBw) (unhide HTI)))).mono ?_
      rintro e w3 ⟨U, rfl, hU, hUc, hb3⟩
      have HK3 := hide ((unhide HKd).later (unhide HAl))
      have HUU := hide (And.intro (fun X => hU X (fun x hx => by cases hx)) (And.intro hUc hb3))
      have HB3 := hide (bnext2 (bnext2 (unhide HBr) (unhide HAl)) hb3)
      have HB0 := hide (show w.heap.size + 2 ≤ wr.heap.size from (unhide H0).2.2.2 ▸ (unhide HBr).size)
      clear hU hUc hb3 k0 k1 k2 k3 k4 hia
      unfold pv
      go_wp2_with (at_builtin; refine wpList_row Tryd.underlying22 (unhide HI) rfl (by decide) (by decide) five_len five_one rfl _ _ rfl (row_allocP ((unhide HK3).later (unhide HUU).2.2).row _) (by have := unhide HB0; have := (unhide HAl).size; have := (unhide HUU).2.2.size; rw [World.size_alloc]; omega) U w3.heap.size 1 rfl rfl (by exact five_cell) (by omega) ?_; intro v' w4 hrow hgrow hown)
      have HK5 := hide ((unhide HK3).put (by have := unhide HB0; have := (unhide HAl).size; omega) (unhide HUU).2.2 (unhide HUU).1 ((Below.refl _ _).alloc (Nat.le_refl _) _) hrow hgrow hown)
      have HB5 := hide (below_grown ((unhide HB3).alloc (unhide HB3).size _) (e := 24) (sz := 5) (f := five) (l := Us) (by rw [(unhide H0).2.2.2]; exact row_allocP ((unhide HK3).later (unhide HUU).2.2).row _) (Nat.le_refl _) hgrow)
      clear hrow hgrow hown
      go_wp2_with fail
      exact ⟨⟨k + 1, Us ++ [U], by omega, rfl, by simp; omega, HK5, HB5, by show _ = _; rw [List.map_append, unhide HE2, List.map_cons, (unhide HUU).2.1]; rfl⟩, by simp [intOf]; omega⟩
    · obtain rfl : k = T.len := by omega
      have g1 : ¬ (T.len : Int) < (T.len : Int) := by omega
      have HE2 := hide (show Us.map PT.can = T.lst.map (fun x => x.simp.can) by rw [unhide HE, ← PT.lst_len, List.take_length])
      obtain ⟨K, hv, hKl, hKi⟩ := (unhide HKd).pt
      subst hv
      have HKK := hide (And.intro hKl hKi)
      have gb := row_below (unhide H0).2.1 (unhide HBr)
      have gz := row_below (unhide H0).2.2.1 (unhide HBr)
      have HBw := hide (bnext2 (unhide H0).1 (unhide HBr))
      have HB0 := hide (show w.heap.size + 2 ≤ wr.heap.size from (unhide H0).2.2.2 ▸ (unhide HBr).size)
      obtain ⟨y0, y1, y2, y3, y4⟩ := pats5s gb
      have HG := hide (And.intro gb gz)
      clear hKl hKi gb gz hk hul HE HKd H0 HBr IH HT
      have q := unhide HQ
      rw [q] at y0
      have HS := hide ((unhide HP).2.2 K.lst ((unhide HKK).1 ▸ unhide HE2))
      have hkl : 0 < K.len := by
        have h := congrArg List.length (unhide HE2)
        rw [← (unhide HKK).1, List.length_map, List.length_map, PT.lst_len, PT.lst_len, (unhide HP).2.1] at h
        omega
      have hKi := (unhide HKK).2 wr fun _ _ _ => rfl
      have hia : ∀ W, (Instr.indexAt 22 (.slice K.xa K.len K.cap) (.int .i64 0)).run Tryd.prog W = .ok (.pointer (some ⟨K.b, K.o, none⟩)) W := fun W => by
        have := kid_at hKi hkl W
        simpa using this
      obtain ⟨k0, k1, k2, k3, k4⟩ := hKi.cells hkl
      unfold PT.kv at k4
      simp only [Nat.zero_mul, Nat.add_zero] at k0 k1 k2 k3 k4
      have HK0 := hide (show ∀ X : World, K.In X → (K.kid 0).In X from fun X h => h.kids hkl)
      have h0i : (0 : Int) < (K.len : Int) := by omega
      have hkm := hKi.max
      unfold maxLen at hkm
      have HN := hide (fun W => neverEnds_any (K.kid 0) W)
      unfold pv at HN
      rw [lst_first hkl] at HS
      clear hKi hkl
      generalize K.kid 0 = P at *
      go_wp2_with fail
      refine (unhide HN _).mono ?_
      rintro e w4 ⟨rfl, hb4⟩
      have HGb := hide (row_below (unhide HG).2 hb4)
      have HBb := hide (bnext (unhide HBw) hb4)
      have HRb := hide hb4
      have y0 := cell_later hb4 y0
      have y3 := cell_later hb4 y3
      have k0 := cell_later hb4 k0
      have k1 := cell_later hb4 k1
      have k2 := cell_later hb4 k2
      have k3 := cell_later hb4 k3
      have k4 := cell_later hb4 k4
      clear hb4 y1 y2 y4
      cases hnv : nev P with
      | true =>
        rw [hnv, if_pos rfl] at HS
        have g4 := unhide HGb
        go_wp2_with (first
          | (refine wpList_store_row rfl 24 _ _ rfl (w.heap.size + 1) (patO P) rfl rfl 24 zeroP g4 size_pat rfl (patO_oneC P) ?_)
          | fail)
        exact bodyPost_ret (results_cell_row rfl _ _ (w.heap.size + 1) 24 (patO P) (0, 0) _ rfl (setRow_heap _ _ _ _ _ _ g4) Tryd.underlying24 rfl size_pat) rfl (gives_kids (U := P) (unhide HKK).2 (unhide HK0) (unhide HS) (by rw [setRow_size]; exact (unhide HRb).size) (fun i a b => (setRow_other _ (w.heap.size + 1) i _ (by omega)).trans ((unhide HRb).block i b)) (below_setRow (unhide HBb) _ (by omega) _))
      | false =>
        rw [hnv, if_neg (by decide)] at HS
        have Y0 := fun o => cell_later ((Below.refl w4.heap.size w4).alloc (Nat.le_refl _) o) y0
        have Y3 := fun o => cell_later ((Below.refl w4.heap.size w4).alloc (Nat.le_refl _) o) y3
        clear k0 k1 k2 k3 k4
        go_wp2_with fail
        have HA := hide ((Below.refl w4.heap.size w4).alloc (Nat.le_refl _) (.cells #[.int .i64 21, .string ⟨#[]⟩, .int .i64 0, .string ⟨#[]⟩, .slice K.xa K.len K.cap] 24))
        have gA := at_new (w := w4) (o := (.cells #[.int .i64 21, .string ⟨#[]⟩, .int .i64 0, .string ⟨#[]⟩, .slice K.xa K.len K.cap] 24)) rfl
        refine (clone_any T.nm _ (by have := (unhide HP).1; omega)).mono ?_
        rintro e w5 ⟨rfl, hb4⟩
        have g4 := row_below (row_below (unhide HGb) (unhide HA)) hb4
        have gK := row_below gA hb4
        have HB4 := hide (And.intro (bnext (bnext (unhide HBb) (unhide HA)) hb4) (bnext (bnext (unhide HRb) (unhide HA)) hb4))
        obtain ⟨z0, z1, z2, z3, z4⟩ := pats5s gK
        have zf := fun o => frozen_of_row _ _ o _ _ gK
        have g5 := But.row ((But.refl w4.heap.size w5).setCell 3 (.string T.nm)) (by have := unhide HB0; have := (unhide HRb).size; omega) g4
        clear hb4 gA gK
        go_wp2_with (first
          | (refine wpList_store_row rfl 24 _ _ rfl (w.heap.size + 1) #[.int .i64 21, .string ⟨#[]⟩, .int .i64 0, .string T.nm, .slice K.xa K.len K.cap] rfl rfl 24 zeroP g5 size_pat rfl (by simp [Value.oneCell']) ?_)
          | fail)
        exact bodyPost_ret (results_cell_row rfl _ _ (w.heap.size + 1) 24 #[.int .i64 21, .string ⟨#[]⟩, .int .i64 0, .string T.nm, .slice K.xa K.len K.cap] (0, 0) _ rfl (setRow_heap _ _ _ _ _ _ g5) Tryd.underlying24 rfl size_pat) rfl (gives_kids (U := nmP 21 T.nm K) (unhide HKK).2 (fun X h => nmP_in h 21 (by decide) (by have := (unhide HP).1; unfold maxLen; omega)) (by rw [nmP_can]; exact unhide HS) (by rw [setRow_size, World.size_setCell]; exact (unhide HB4).2.size) (fun i a b => (setRow_other _ (w.heap.size + 1) i _ (by omega)).trans ((((But.refl w4.heap.size w5).setCell 3 (.string T.nm)).block i (by have := (unhide HB4).2.size; omega) (by have := (unhide HRb).size; omega)).trans ((unhide HB4).2.block i b))) (below_setRow ((unhide HB4).1.setCell (by have := unhide HB0; have := (unhide HRb).size; show _ ≤ w4.heap.size; omega) _) _ (by omega) _))
set_option maxRecDepth 100000 in
set_option maxHeartbeats 4000000 in
theorem simp_k22 (T : PT) (q : T.k = 22) (w : World) (hT : T.In w) (hn : T.len ≤ 100000) (ih : SimpIH T) (hnm : T.nm.size ≤ 1000000) (hl : T.len = 1) (hP : ∀ Us : List PT, Us.map PT.can = T.lst.map (fun x => x.simp.can) → (if nev (Us.getD 0 PT.nul) = true then Us.getD 0 PT.nul else mkP 22 ⟨#[]⟩ 0 T.nm Us).can = T.simp.can) :
    Calls Tryd.prog 21 #[pv T] w fun e w' => GivesP [] T.simp w e w' := by
  have hb0 : Below w.heap.size w ((w.alloc (.cells #[.int .i64 T.k, .string T.t, .int .i64 T.n, .string T.nm, .slice T.xa T.len T.cap] 24)).alloc (.cells #[.int .i64 0, .string ⟨#[]⟩, .int .i64 0, .string ⟨#[]⟩, .slice none 0 0] 24)) := ((Below.refl _ _).alloc (Nat.le_refl _) _).alloc (by simp) _
  have gb : ((w.alloc (.cells #[.int .i64 T.k, .string T.t, .int .i64 T.n, .string T.nm, .slice T.xa T.len T.cap] 24)).alloc (.cells #[.int .i64 0, .string ⟨#[]⟩, .int .i64 0, .string ⟨#[]⟩, .slice none 0 0] 24)).heap[w.heap.size]? = some (.cells #[.int .i64 T.k, .string T.t, .int .i64 T.n, .string T.nm, .slice T.xa T.len T.cap] 24 (0, 0)) := at_old (by simp) (at_new rfl)
  have gz : ((w.alloc (.cells #[.int .i64 T.k, .string T.t, .int .i64 T.n, .string T.nm, .slice T.xa T.len T.cap] 24)).alloc (.cells #[.int .i64 0, .string ⟨#[]⟩, .int .i64 0, .string ⟨#[]⟩, .slice none 0 0] 24)).heap[w.heap.size + 1]? = some (.cells zeroP 24 (0, 0)) := at_new (by simp)
  have hs1 : ((w.alloc (.cells #[.int .i64 T.k, .string T.t, .int .i64 T.n, .string T.nm, .slice T.xa T.len T.cap] 24)).alloc (.cells #[.int .i64 0, .string ⟨#[]⟩, .int .i64 0, .string ⟨#[]⟩, .slice none 0 0] 24)).heap.size = w.heap.size + 2 := by simp
  have H0 := hide (And.intro hb0 (And.intro gb (And.intro gz hs1)))
  have HT := hide hT
  have HI := hide info_pat
  have IH := hide ih
  have HP := hide (And.intro hnm (And.intro hl hP))
  clear hP hnm hl
  have hmax := hT.max
  unfold maxLen at hmax
  obtain ⟨y0, y1, y2, y3, y4⟩ := pats5s gb
  unfold pv
  have HQ := hide q
  clear hb0 gb gz hs1 hT ih q
  go_enter Tryd.func21, Tryd.ntmps21
  go_wp2_with fail
  generalize ((w.alloc (.cells #[.int .i64 T.k, .string T.t, .int .i64 T.n, .string T.nm, .slice T.xa T.len T.cap] 24)).alloc (.cells #[.int .i64 0, .string ⟨#[]⟩, .int .i64 0, .string ⟨#[]⟩, .slice none 0 0] 24)) = W1 at *
  clear y0 y1 y2 y3 y4
  go_loopw [3, 10] (fun v x wr => ∃ (k : Nat) (Us : List PT), k ≤ T.len ∧ x = .int .i64 (k : Int) ∧ Us.length = k ∧ Hid (KidsAt wr (w.heap.size + 2) v Us) ∧ Hid (Below W1.heap.size W1 wr) ∧ Hid (Us.map PT.can = (T.lst.take k).map fun x => x.simp.can)) (fun _ x _ => T.len - (intOf x).toNat)
  case atStart => exact ⟨0, [], Nat.zero_le _, rfl, rfl, KidsAt.nil _ _, Below.refl _ _, rfl⟩
  case round =>
    obtain ⟨k, Us, hk, rfl, hul, HKd, HBr, HE⟩ := hrel
    rcases Nat.lt_or_ge k T.len with hlt | hge
    · have g1 : (k : Int) < (T.len : Int) := by omega
      have HBw := hide (bnext2 (unhide H0).1 (unhide HBr))
      obtain ⟨k0, k1, k2, k3, k4⟩ := (unhide HT).cells hlt
      have k0 := cell_later (unhide HBw) k0
      have k1 := cell_later (unhide HBw) k1
      have k2 := cell_later (unhide HBw) k2
      have k3 := cell_later (unhide HBw) k3
      have k4 := cell_later (unhide HBw) k4
      unfold PT.kv at k4
      have hia := kid_at (unhide HT) hlt
      have HTI := hide ((unhide HT).kids hlt)
      have HC := hide (fun W h => unhide IH k hlt W h)
      have hlk : k < T.lst.length := by rw [PT.lst_len]; exact hlt
      have HE2 := hide (show (T.lst.take (k + 1)).map (fun x => x.simp.can) = Us.map PT.can ++ [(T.kid k).simp.can] by
        have hgk : T.lst[k] = T.kid k := by have h := PT.lst_at hlt; rw [List.getElem?_eq_getElem hlk] at h; exact Option.some.inj h
        rw [List.take_succ_eq_append_getElem hlk, List.map_append, ← unhide HE, hgk]; rfl)
      generalize T.kid k = P at *
      unfold pv at HC
      have HAl := hide ((Below.refl wr.heap.size wr).alloc (Nat.le_refl _) (.cells #[.int .i64 P.k, .string P.t, .int .i64 P.n, .string P.nm, .slice P.xa P.len P.cap] 24))
      clear hlk
      go_wp2_with fail
      refine (unhide HC _ (PT.In.later (unhide HAl) (PT.In.later (unhide HBw) (unhide HTI)))).mono ?_
      rintro e w3 ⟨U, rfl, hU, hUc, hb3⟩
      have HK3 := hide ((unhide HKd).later (unhide HAl))
      have HUU := hide (And.intro (fun X => hU X (fun x hx => by cases hx)) (And.intro hUc hb3))
      have HB3 := hide (bnext2 (bnext2 (unhide HBr) (unhide HAl)) hb3)
      have HB0 := hide (show w.heap.size + 2 ≤ wr.heap.size from (unhide H0).2.2.2 ▸ (unhide HBr).size)
      clear hU hUc hb3 k0 k1 k2 k3 k4 hia
      unfold pv
      go_wp2_with (at_builtin; refine wpList_row Tryd.underlying22 (unhide HI) rfl (by decide) (by decide) five_len five_one rfl _ _ rfl (row_allocP ((unhide HK3).later (unhide HUU).2.2).row _) (by have := unhide HB0; have := (unhide HAl).size; have := (unhide HUU).2.2.size; rw [World.size_alloc]; omega) U w3.heap.size 1 rfl rfl (by exact five_cell) (by omega) ?_; intro v' w4 hrow hgrow hown)
      have HK5 := hide ((unhide HK3).put (by have := unhide HB0; have := (unhide HAl).size; omega) (unhide HUU).2.2 (unhide HUU).1 ((Below.refl _ _).alloc (Nat.le_refl _) _) hrow hgrow hown)
      have HB5 := hide (below_grown ((unhide HB3).alloc (unhide HB3).size _) (e := 24) (sz := 5) (f := five) (l := Us) (by rw [(unhide H0).2.2.2]; exact row_allocP ((unhide HK3).later (unhide HUU).2.2).row _) (Nat.le_refl _) hgrow)
      clear hrow hgrow hown
      go_wp2_with fail
      exact ⟨⟨k + 1, Us ++ [U], by omega, rfl, by simp; omega, HK5, HB5, by show _ = _; rw [List.map_append, unhide HE2, List.map_cons, (unhide HUU).2.1]; rfl⟩, by simp [intOf]; omega⟩
    · obtain rfl : k = T.len := by omega
      have g1 : ¬ (T.len : Int) < (T.len : Int) := by omega
      have HE2 := hide (show Us.map PT.can = T.lst.map (fun x => x.simp.can) by rw [unhide HE, ← PT.lst_len, List.take_length])
      obtain ⟨K, hv, hKl, hKi⟩ := (unhide HKd).pt
      subst hv
      have HKK := hide (And.intro hKl hKi)
      have gb := row_below (unhide H0).2.1 (unhide HBr)
      have gz := row_below (unhide H0).2.2.1 (unhide HBr)
      have HBw := hide (bnext2 (unhide H0).1 (unhide HBr))
      have HB0 := hide (show w.heap.size + 2 ≤ wr.heap.size from (unhide H0).2.2.2 ▸ (unhide HBr).size)
      obtain ⟨y0, y1, y2, y3, y4⟩ := pats5s gb
      have HG := hide (And.intro gb gz)
      clear hKl hKi gb gz hk hul HE HKd H0 HBr IH HT
      have q := unhide HQ
      rw [q] at y0
      have HS := hide ((unhide HP).2.2 K.lst ((unhide HKK).1 ▸ unhide HE2))
      have hkl : 0 < K.len := by
        have h := congrArg List.length (unhide HE2)
        rw [← (unhide HKK).1, List.length_map, List.length_map, PT.lst_len, PT.lst_len, (unhide HP).2.1] at h
        omega
      have hKi := (unhide HKK).2 wr fun _ _ _ => rfl
      have hia : ∀ W, (Instr.indexAt 22 (.slice K.xa K.len K.cap) (.int .i64 0)).run Tryd.prog W = .ok (.pointer (some ⟨K.b, K.o, none⟩)) W := fun W => by
        have := kid_at hKi hkl W
        simpa using this
      obtain ⟨k0, k1, k2, k3, k4⟩ := hKi.cells hkl
      unfold PT.kv at k4
      simp only [Nat.zero_mul, Nat.add_zero] at k0 k1 k2 k3 k4
      have HK0 := hide (show ∀ X : World, K.In X → (K.kid 0).In X from fun X h => h.kids hkl)
      have h0i : (0 : Int) < (K.len : Int) := by omega
      have hkm := hKi.max
      unfold maxLen at hkm
      have HN := hide (fun W => neverEnds_any (K.kid 0) W)
      unfold pv at HN
      rw [lst_first hkl] at HS
      clear hKi hkl
      generalize K.kid 0 = P at *
      go_wp2_with fail
      refine (unhide HN _).mono ?_
      rintro e w4 ⟨rfl, hb4⟩
      have HGb := hide (row_below (unhide HG).2 hb4)
      have HBb := hide (bnext (unhide HBw) hb4)
      have HRb := hide hb4
      have y0 := cell_later hb4 y0
      have y3 := cell_later hb4 y3
      have k0 := cell_later hb4 k0
      have k1 := cell_later hb4 k1
      have k2 := cell_later hb4 k2
      have k3 := cell_later hb4 k3
      have k4 := cell_later hb4 k4
      clear hb4 y1 y2 y4
      cases hnv : nev P with
      | true =>
        rw [hnv, if_pos rfl] at HS
        have g4 := unhide HGb
        go_wp2_with (first
          | (refine wpList_store_row rfl 24 _ _ rfl (w.heap.size + 1) (patO P) rfl rfl 24 zeroP g4 size_pat rfl (patO_oneC P) ?_)
          | fail)
        exact bodyPost_ret (results_cell_row rfl _ _ (w.heap.size + 1) 24 (patO P) (0, 0) _ rfl (setRow_heap _ _ _ _ _ _ g4) Tryd.underlying24 rfl size_pat) rfl (gives_kids (U := P) (unhide HKK).2 (unhide HK0) (unhide HS) (by rw [setRow_size]; exact (unhide HRb).size) (fun i a b => (setRow_other _ (w.heap.size + 1) i _ (by omega)).trans ((unhide HRb).block i b)) (below_setRow (unhide HBb) _ (by omega) _))
      | false =>
        rw [hnv, if_neg (by decide)] at HS
        have Y0 := fun o => cell_later ((Below.refl w4.heap.size w4).alloc (Nat.le_refl _) o) y0
        have Y3 := fun o => cell_later ((Below.refl w4.heap.size w4).alloc (Nat.le_refl _) o) y3
        clear k0 k1 k2 k3 k4
        go_wp2_with fail
        have HA := hide ((Below.refl w4.heap.size w4).alloc (Nat.le_refl _) (.cells #[.int .i64 22, .string ⟨#[]⟩, .int .i64 0, .string ⟨#[]⟩, .slice K.xa K.len K.cap] 24))
        have gA := at_new (w := w4) (o := (.cells #[.int .i64 22, .string ⟨#[]⟩, .int .i64 0, .string ⟨#[]⟩, .slice K.xa K.len K.cap] 24)) rfl
        refine (clone_any T.nm _ (by have := (unhide HP).1; omega)).mono ?_
        rintro e w5 ⟨rfl, hb4⟩
        have g4 := row_below (row_below (unhide HGb) (unhide HA)) hb4
        have gK := row_below gA hb4
        have HB4 := hide (And.intro (bnext (bnext (unhide HBb) (unhide HA)) hb4) (bnext (bnext (unhide HRb) (unhide HA)) hb4))
        obtain ⟨z0, z1, z2, z3, z4⟩ := pats5s gK
        have zf := fun o => frozen_of_row _ _ o _ _ gK
        have g5 := But.row ((But.refl w4.heap.size w5).setCell 3 (.string T.nm)) (by have := unhide HB0; have := (unhide HRb).size; omega) g4
        clear hb4 gA gK
        go_wp2_with (first
          | (refine wpList_store_row rfl 24 _ _ rfl (w.heap.size + 1) #[.int .i64 22, .string ⟨#[]⟩, .int .i64 0, .string T.nm, .slice K.xa K.len K.cap] rfl rfl 24 zeroP g5 size_pat rfl (by simp [Value.oneCell']) ?_)
          | fail)
        exact bodyPost_ret (results_cell_row rfl _ _ (w.heap.size + 1) 24 #[.int .i64 22, .string ⟨#[]⟩, .int .i64 0, .string T.nm, .slice K.xa K.len K.cap] (0, 0) _ rfl (setRow_heap _ _ _ _ _ _ g5) Tryd.underlying24 rfl size_pat) rfl (gives_kids (U := nmP 22 T.nm K) (unhide HKK).2 (fun X h => nmP_in h 22 (by decide) (by have := (unhide HP).1; unfold maxLen; omega)) (by rw [nmP_can]; exact unhide HS) (by rw [setRow_size, World.size_setCell]; exact (unhide HB4).2.size) (fun i a b => (setRow_other _ (w.heap.size + 1) i _ (by omega)).trans ((((But.refl w4.heap.size w5).setCell 3 (.string T.nm)).block i (by have := (unhide HB4).2.size; omega) (by have := (unhide HRb).size; omega)).trans ((unhide HB4).2.block i b))) (below_setRow ((unhide HB4).1.setCell (by have := unhide HB0; have := (unhide HRb).size; show _ ≤ w4.heap.size; omega) _) _ (by omega) _))
end Go.Proofs.YtbmngbpillihaaaDoor
