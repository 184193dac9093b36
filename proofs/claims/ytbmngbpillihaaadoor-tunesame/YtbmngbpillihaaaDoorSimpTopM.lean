/- tune.simpler of names. What tune.simpler hands back. What tune.Simplify hands back. -/
import Derived.Test.YtbmngbpillihaaaDoorSimpS1M
import Derived.Test.YtbmngbpillihaaaDoorSimpCanM
import Derived.Test.YtbmngbpillihaaaDoorSimpS3M
import Derived.Test.YtbmngbpillihaaaDoorSimpS4P
import Derived.Test.YtbmngbpillihaaaDoorSimpS12P
import Derived.Test.YtbmngbpillihaaaDoorSimpS21M
import Derived.Test.YtbmngbpillihaaaDoorScanRootsM
namespace Go.Proofs.YtbmngbpillihaaaDoor
open Go.RowKit

set_option maxRecDepth 100000 in
set_option maxHeartbeats 4000000 in
theorem simp_k23 (T : PT) (q : T.k = 23) (w : World) (hT : T.In w) (hn : T.len ≤ 100000) (ih : SimpIH T) (hnm : T.nm.size ≤ 1000000) (hP : ∀ Us : List PT, Us.map PT.can = T.lst.map (fun x => x.simp.can) → (mkP 23 ⟨#[]⟩ 0 T.nm Us).can = T.simp.can) :
    Calls Tryd.prog 21 #[pv T] w fun e w' => GivesP [] T.simp w e w' := by
  have hb0 : Below w.heap.size w ((w.alloc (.cells #[.int .i64 T.k, .string T.t, .int .i64 T.n, .string T.nm, .slice T.xa T.len T.cap] 24)).alloc (.cells #[.int .i64 0, .string ⟨#[]⟩, .int .i64 0, .string ⟨#[]⟩, .slice none 0 0] 24)) := ((Below.refl _ _).alloc (Nat.le_refl _) _).alloc (by simp) _
  have gb : ((w.alloc (.cells #[.int .i64 T.k, .string T.t, .int .i64 T.n, .string T.nm, .slice T.xa T.len T.cap] 24)).alloc (.cells #[.int .i64 0, .string ⟨#[]⟩, .int .i64 0, .string ⟨#[]⟩, .slice none 0 0] 24)).heap[w.heap.size]? = some (.cells #[.int .i64 T.k, .string T.t, .int .i64 T.n, .string T.nm, .slice T.xa T.len T.cap] 24 (0, 0)) := at_old (by simp) (at_new rfl)
  have gz : ((w.alloc (.cells #[.int .i64 T.k, .string T.t, .int .i64 T.n, .string T.nm, .slice T.xa T.len T.cap] 24)).alloc (.cells #[.int .i64 0, .string ⟨#[]⟩, .int .i64 0, .string ⟨#[]⟩, .slice none 0 0] 24)).heap[w.heap.size + 1]? = some (.cells zeroP 24 (0, 0)) := at_new (by simp)
  have hs1 : ((w.alloc (.cells #[.int .i64 T.k, .string T.t, .int .i64 T.n, .string T.nm, .slice T.xa T.len T.cap] 24)).alloc (.cells #[.int .i64 0, .string ⟨#[]⟩, .int .i64 0, .string ⟨#[]⟩, .slice none 0 0] 24)).heap.size = w.heap.size + 2 := by simp
  have H0 := hide (And.intro hb0 (And.intro gb (And.intro gz hs1)))
  have HT := hide hT
  have HI := hide info_pat
  have IH := hide ih
  have HP := hide (And.intro hnm hP)
  clear hP hnm
  have hmax := hT.max
  unfold maxLen at hmax
  obtain ⟨y0, y1, y2, y3, y4⟩ := pats5s gb
  unfold pv
  have HQ := hide q
  clear hb0 gb gz hs1 hT ih q
  go_enter Tryd.func21, Tryd.ntmps21
  go_wp2_with fail
  generalize ((w.alloc (.cells #[.int .i64 T.k, .string T.t, .int .i64 T.n, .string T.nm, .slice T.xa T.len T.cap] 24)).alloc (.cells #[.int .i64 0, .string ⟨#[]⟩, .int .i64 0, .string ⟨#[]⟩, .slice none 0 0] 24)) = W1 at *
  clear y0 y1 y2 y3 y4
  go_loopw [3, 10] (fun v x wr => ∃ (k : Nat) (Us : List PT), k ≤ T.len ∧ x = .int .i64 (k : Int) ∧ Us.length = k ∧ Hid (KidsAt wr (w.heap.size + 2) v Us) ∧ Hid (Below W1.heap.size W1 wr) ∧ Hid (Us.map PT.can = (T.lst.take k).map fun x => x.simp.can)) (fun _ x _ => T.len - (intOf x).toNat)
  case atStart => exact ⟨0, [], Nat.zero_le _, rfl, rfl, KidsAt.nil _ _, Below.refl _ _, rfl⟩
  case round =>
    obtain ⟨k, Us, hk, rfl, hul, HKd, HBr, HE⟩ := hrel
    rcases Nat.lt_or_ge k T.len with hlt | hge
    · have g1 : (k : Int) < (T.len : Int) := by omega
      have HBw := hide (bnext2 (unhide H0).1 (unhide HBr))
      obtain ⟨k0, k1, k2, k3, k4⟩ := (unhide HT).cells hlt
      have k0 := cell_later (unhide HBw) k0
      have k1 := cell_later (unhide HBw) k1
      have k2 := cell_later (unhide HBw) k2
      have k3 := cell_later (unhide HBw) k3
      have k4 := cell_later (unhide HBw) k4
      unfold PT.kv at k4
      have hia := kid_at (unhide HT) hlt
      have HTI := hide ((unhide HT).kids hlt)
      have HC := hide (fun W h => unhide IH k hlt W h)
      have hlk : k < T.lst.length := by rw [PT.lst_len]; exact hlt
      have HE2 := hide (show (T.lst.take (k + 1)).map (fun x => x.simp.can) = Us.map PT.can ++ [(T.kid k).simp.can] by
        have hgk : T.lst[k] = T.kid k := by have h := PT.lst_at hlt; rw [List.getElem?_eq_getElem hlk] at h; exact Option.some.inj h
        rw [List.take_succ_eq_append_getElem hlk, List.map_append, ← unhide HE, hgk]; rfl)
      generalize T.kid k = P at *
      unfold pv at HC
      have HAl := hide ((Below.refl wr.heap.size wr).alloc (Nat.le_refl _) (.cells #[.int .i64 P.k, .string P.t, .int .i64 P.n, .string P.nm, .slice P.xa P.len P.cap] 24))
      clear hlk
      go_wp2_with fail
      refine (unhide HC _ (PT.In.later (unhide HAl) (PT.In.later (unhide HBw) (unhide HTI)))).mono ?_
      rintro e w3 ⟨U, rfl, hU, hUc, hb3⟩
      have HK3 := hide ((unhide HKd).later (unhide HAl))
      have HUU := hide (And.intro (fun X => hU X (fun x hx => by cases hx)) (And.intro hUc hb3))
      have HB3 := hide (bnext2 (bnext2 (unhide HBr) (unhide HAl)) hb3)
      have HB0 := hide (show w.heap.size + 2 ≤ wr.heap.size from (unhide H0).2.2.2 ▸ (unhide HBr).size)
      clear hU hUc hb3 k0 k1 k2 k3 k4 hia
      unfold pv
      go_wp2_with (at_builtin; refine wpList_row Tryd.underlying22 (unhide HI) rfl (by decide) (by decide) five_len five_one rfl _ _ rfl (row_allocP ((unhide HK3).later (unhide HUU).2.2).row _) (by have := unhide HB0; have := (unhide HAl).size; have := (unhide HUU).2.2.size; rw [World.size_alloc]; omega) U w3.heap.size 1 rfl rfl (by exact five_cell) (by omega) ?_; intro v' w4 hrow hgrow hown)
      have HK5 := hide ((unhide HK3).put (by have := unhide HB0; have := (unhide HAl).size; omega) (unhide HUU).2.2 (unhide HUU).1 ((Below.refl _ _).alloc (Nat.le_refl _) _) hrow hgrow hown)
      have HB5 := hide (below_grown ((unhide HB3).alloc (unhide HB3).size _) (e := 24) (sz := 5) (f := five) (l := Us) (by rw [(unhide H0).2.2.2]; exact row_allocP ((unhide HK3).later (unhide HUU).2.2).row _) (Nat.le_refl _) hgrow)
      clear hrow hgrow hown
      go_wp2_with fail
      exact ⟨⟨k + 1, Us ++ [U], by omega, rfl, by simp; omega, HK5, HB5, by show _ = _; rw [List.map_append, unhide HE2, List.map_cons, (unhide HUU).2.1]; rfl⟩, by simp [intOf]; omega⟩
    · obtain rfl : k = T.len := by omega
      have g1 : ¬ (T.len : Int) < (T.len : Int) := by omega
      have HE2 := hide (show Us.map PT.can = T.lst.map (fun x => x.simp.can) by rw [unhide HE, ← PT.lst_len, List.take_length])
      obtain ⟨K, hv, hKl, hKi⟩ := (unhide HKd).pt
      subst hv
      have HKK := hide (And.intro hKl hKi)
      have gb := row_below (unhide H0).2.1 (unhide HBr)
      have gz := row_below (unhide H0).2.2.1 (unhide HBr)
      have HBw := hide (bnext2 (unhide H0).1 (unhide HBr))
      have HB0 := hide (show w.heap.size + 2 ≤ wr.heap.size from (unhide H0).2.2.2 ▸ (unhide HBr).size)
      obtain ⟨y0, y1, y2, y3, y4⟩ := pats5s gb
      have HG := hide (And.intro gb gz)
      clear hKl hKi gb gz hk hul HE HKd H0 HBr IH HT
      have q := unhide HQ
      rw [q] at y0
      have HS := hide ((unhide HP).2 K.lst ((unhide HKK).1 ▸ unhide HE2))
      have Y0 := fun o => cell_later ((Below.refl wr.heap.size wr).alloc (Nat.le_refl _) o) y0
      have Y3 := fun o => cell_later ((Below.refl wr.heap.size wr).alloc (Nat.le_refl _) o) y3
      have HGb := hide (unhide HG).2
      have HBb := HBw
      have HRb := hide (Below.refl wr.heap.size wr)
      go_wp2_with fail
      have HA := hide ((Below.refl wr.heap.size wr).alloc (Nat.le_refl _) (.cells #[.int .i64 23, .string ⟨#[]⟩, .int .i64 0, .string ⟨#[]⟩, .slice K.xa K.len K.cap] 24))
      have gA := at_new (w := wr) (o := (.cells #[.int .i64 23, .string ⟨#[]⟩, .int .i64 0, .string ⟨#[]⟩, .slice K.xa K.len K.cap] 24)) rfl
      refine (clone_any T.nm _ (by have := (unhide HP).1; omega)).mono ?_
      rintro e w5 ⟨rfl, hb4⟩
      have g4 := row_below (row_below (unhide HGb) (unhide HA)) hb4
      have gK := row_below gA hb4
      have HB4 := hide (And.intro (bnext (bnext (unhide HBb) (unhide HA)) hb4) (bnext (bnext (unhide HRb) (unhide HA)) hb4))
      obtain ⟨z0, z1, z2, z3, z4⟩ := pats5s gK
      have zf := fun o => frozen_of_row _ _ o _ _ gK
      have g5 := But.row ((But.refl wr.heap.size w5).setCell 3 (.string T.nm)) (by have := unhide HB0; have := (unhide HRb).size; omega) g4
      clear hb4 gA gK
      go_wp2_with (first
        | (refine wpList_store_row rfl 24 _ _ rfl (w.heap.size + 1) #[.int .i64 23, .string ⟨#[]⟩, .int .i64 0, .string T.nm, .slice K.xa K.len K.cap] rfl rfl 24 zeroP g5 size_pat rfl (by simp [Value.oneCell']) ?_)
        | fail)
      exact bodyPost_ret (results_cell_row rfl _ _ (w.heap.size + 1) 24 #[.int .i64 23, .string ⟨#[]⟩, .int .i64 0, .string T.nm, .slice K.xa K.len K.cap] (0, 0) _ rfl (setRow_heap _ _ _ _ _ _ g5) Tryd.underlying24 rfl size_pat) rfl (gives_kids (U := nmP 23 T.nm K) (unhide HKK).2 (fun X h => nmP_in h 23 (by decide) (by have := (unhide HP).1; unfold maxLen; omega)) (by rw [nmP_can]; exact unhide HS) (by rw [setRow_size, World.size_setCell]; exact (unhide HB4).2.size) (fun i a b => (setRow_other _ (w.heap.size + 1) i _ (by omega)).trans ((((But.refl wr.heap.size w5).setCell 3 (.string T.nm)).block i (by have := (unhide HB4).2.size; omega) (by have := (unhide HRb).size; omega)).trans ((unhide HB4).2.block i b))) (below_setRow ((unhide HB4).1.setCell (by have := unhide HB0; have := (unhide HRb).size; show _ ≤ wr.heap.size; omega) _) _ (by omega) _))
set_option maxRecDepth 100000 in
set_option maxHeartbeats 4000000 in
theorem simp_k24 (T : PT) (q : T.k = 24) (w : World) (hT : T.In w) (hn : T.len ≤ 100000) (ih : SimpIH T) (hnm : T.nm.size ≤ 1000000) (hP : ∀ Us : List PT, Us.map PT.can = T.lst.map (fun x => x.simp.can) → (mkP 24 ⟨#[]⟩ 0 T.nm Us).can = T.simp.can) :
    Calls Tryd.prog 21 #[pv T] w fun e w' => GivesP [] T.simp w e w' := by
  have hb0 : Below w.heap.size w ((w.alloc (.cells #[.int .i64 T.k, .string T.t, .int .i64 T.n, .string T.nm, .slice T.xa T.len T.cap] 24)).alloc (.cells #[.int .i64 0, .string ⟨#[]⟩, .int .i64 0, .string ⟨#[]⟩, .slice none 0 0] 24)) := ((Below.refl _ _).alloc (Nat.le_refl _) _).alloc (by simp) _
  have gb : ((w.alloc (.cells #[.int .i64 T.k, .string T.t, .int .i64 T.n, .string T.nm, .slice T.xa T.len T.cap] 24)).alloc (.cells #[.int .i64 0, .string ⟨#[]⟩, .int .i64 0, .string ⟨#[]⟩, .slice none 0 0] 24)).heap[w.heap.size]? = some (.cells #[.int .i64 T.k, .string T.t, .int .i64 T.n, .string T.nm, .slice T.xa T.len T.cap] 24 (0, 0)) := at_old (by simp) (at_new rfl)
  have gz : ((w.alloc (.cells #[.int .i64 T.k, .string T.t, .int .i64 T.n, .string T.nm, .slice T.xa T.len T.cap] 24)).alloc (.cells #[.int .i64 0, .string ⟨#[]⟩, .int .i64 0, .string ⟨#[]⟩, .slice none 0 0] 24)).heap[w.heap.size + 1]? = some (.cells zeroP 24 (0, 0)) := at_new (by simp)
  have hs1 : ((w.alloc (.cells #[.int .i64 T.k, .string T.t, .int .i64 T.n, .string T.nm, .slice T.xa T.len T.cap] 24)).alloc (.cells #[.int .i64 0, .string ⟨#[]⟩, .int .i64 0, .string ⟨#[]⟩, .slice none 0 0] 24)).heap.size = w.heap.size + 2 := by simp
  have H0 := hide (And.intro hb0 (And.intro gb (And.intro gz hs1)))
  have HT := hide hT
  have HI := hide info_pat
  have IH := hide ih
  have HP := hide (And.intro hnm hP)
  clear hP hnm
  have hmax := hT.max
  unfold maxLen at hmax
  obtain ⟨y0, y1, y2, y3, y4⟩ := pats5s gb
  unfold pv
  have HQ := hide q
  clear hb0 gb gz hs1 hT ih q
  go_enter Tryd.func21, Tryd.ntmps21
  go_wp2_with fail
  generalize ((w.alloc (.cells #[.int .i64 T.k, .string T.t, .int .i64 T.n, .string T.nm, .slice T.xa T.len T.cap] 24)).alloc (.cells #[.int .i64 0, .string ⟨#[]⟩, .int .i64 0, .string ⟨#[]⟩, .slice none 0 0] 24)) = W1 at *
  clear y0 y1 y2 y3 y4
  go_loopw [3, 10] (fun v x wr => ∃ (k : Nat) (Us : List PT), k ≤ T.len ∧ x = .int .i64 (k : Int) ∧ Us.length = k ∧ Hid (KidsAt wr (w.heap.size + 2) v Us) ∧ Hid (Below W1.heap.size W1 wr) ∧ Hid (Us.map PT.can = (T.lst.take k).map fun x => x.simp.can)) (fun _ x _ => T.len - (intOf x).toNat)
  case atStart => exact ⟨0, [], Nat.zero_le _, rfl, rfl, KidsAt.nil _ _, Below.refl _ _, rfl⟩
  case round =>
    obtain ⟨k, Us, hk, rfl, hul, HKd, HBr, HE⟩ := hrel
    rcases Nat.lt_or_ge k T.len with hlt | hge
    · have g1 : (k : Int) < (T.len : Int) := by omega
      have HBw := hide (bnext2 (unhide H0).1 (unhide HBr))
      obtain ⟨k0, k1, k2, k3, k4⟩ := (unhide HT).cells hlt
      have k0 := cell_later (unhide HBw) k0
      have k1 := cell_later (unhide HBw) k1
      have k2 := cell_later (unhide HBw) k2
      have k3 := cell_later (unhide HBw) k3
      have k4 := cell_later (unhide HBw) k4
      unfold PT.kv at k4
      have hia := kid_at (unhide HT) hlt
      have HTI := hide ((unhide HT).kids hlt)
      have HC := hide (fun W h => unhide IH k hlt W h)
      have hlk : k < T.lst.length := by rw [PT.lst_len]; exact hlt
      have HE2 := hide (show (T.lst.take (k + 1)).map (fun x => x.simp.can) = Us.map PT.can ++ [(T.kid k).simp.can] by
        have hgk : T.lst[k] = T.kid k := by have h := PT.lst_at hlt; rw [List.getElem?_eq_getElem hlk] at h; exact Option.some.inj h
        rw [List.take_succ_eq_append_getElem hlk, List.map_append, ← unhide HE, hgk]; rfl)
      generalize T.kid k = P at *
      unfold pv at HC
      have HAl := hide ((Below.refl wr.heap.size wr).alloc (Nat.le_refl _) (.cells #[.int .i64 P.k, .string P.t, .int .i64 P.n, .string P.nm, .slice P.xa P.len P.cap] 24))
      clear hlk
      go_wp2_with fail
      refine (unhide HC _ (PT.In.later (unhide HAl) (PT.In.later (unhide HBw) (unhide HTI)))).mono ?_
      rintro e w3 ⟨U, rfl, hU, hUc, hb3⟩
      have HK3 := hide ((unhide HKd).later (unhide HAl))
      have HUU := hide (And.intro (fun X => hU X (fun x hx => by cases hx)) (And.intro hUc hb3))
      have HB3 := hide (bnext2 (bnext2 (unhide HBr) (unhide HAl)) hb3)
      have HB0 := hide (show w.heap.size + 2 ≤ wr.heap.size from (unhide H0).2.2.2 ▸ (unhide HBr).size)
      clear hU hUc hb3 k0 k1 k2 k3 k4 hia
      unfold pv
      go_wp2_with (at_builtin; refine wpList_row Tryd.underlying22 (unhide HI) rfl (by decide) (by decide) five_len five_one rfl _ _ rfl (row_allocP ((unhide HK3).later (unhide HUU).2.2).row _) (by have := unhide HB0; have := (unhide HAl).size; have := (unhide HUU).2.2.size; rw [World.size_alloc]; omega) U w3.heap.size 1 rfl rfl (by exact five_cell) (by omega) ?_; intro v' w4 hrow hgrow hown)
      have HK5 := hide ((unhide HK3).put (by have := unhide HB0; have := (unhide HAl).size; omega) (unhide HUU).2.2 (unhide HUU).1 ((Below.refl _ _).alloc (Nat.le_refl _) _) hrow hgrow hown)
      have HB5 := hide (below_grown ((unhide HB3).alloc (unhide HB3).size _) (e := 24) (sz := 5) (f := five) (l := Us) (by rw [(unhide H0).2.2.2]; exact row_allocP ((unhide HK3).later (unhide HUU).2.2).row _) (Nat.le_refl _) hgrow)
      clear hrow hgrow hown
      go_wp2_with fail
      exact ⟨⟨k + 1, Us ++ [U], by omega, rfl, by simp; omega, HK5, HB5, by show _ = _; rw [List.map_append, unhide HE2, List.map_cons, (unhide HUU).2.1]; rfl⟩, by simp [intOf]; omega⟩
    · obtain rfl : k = T.len := by omega
      have g1 : ¬ (T.len : Int) < (T.len : Int) := by omega
      have HE2 := hide (show Us.map PT.can = T.lst.map (fun x => x.simp.can) by rw [unhide HE, ← PT.lst_len, List.take_length])
      obtain ⟨K, hv, hKl, hKi⟩ := (unhide HKd).pt
      subst hv
      have HKK := hide (And.intro hKl hKi)
      have gb := row_below (unhide H0).2.1 (unhide HBr)
      have gz := row_below (unhide H0).2.2.1 (unhide HBr)
      have HBw := hide (bnext2 (unhide H0).1 (unhide HBr))
      have HB0 := hide (show w.heap.size + 2 ≤ wr.heap.size from (unhide H0).2.2.2 ▸ (unhide HBr).size)
      obtain ⟨y0, y1, y2, y3, y4⟩ := pats5s gb
      have HG := hide (And.intro gb gz)
      clear hKl hKi gb gz hk hul HE HKd H0 HBr IH HT
      have q := unhide HQ
      rw [q] at y0
      have HS := hide ((unhide HP).2 K.lst ((unhide HKK).1 ▸ unhide HE2))
      have Y0 := fun o => cell_later ((Below.refl wr.heap.size wr).alloc (Nat.le_refl _) o) y0
      have Y3 := fun o => cell_later ((Below.refl wr.heap.size wr).alloc (Nat.le_refl _) o) y3
      have HGb := hide (unhide HG).2
      have HBb := HBw
      have HRb := hide (Below.refl wr.heap.size wr)
      go_wp2_with fail
      have HA := hide ((Below.refl wr.heap.size wr).alloc (Nat.le_refl _) (.cells #[.int .i64 24, .string ⟨#[]⟩, .int .i64 0, .string ⟨#[]⟩, .slice K.xa K.len K.cap] 24))
      have gA := at_new (w := wr) (o := (.cells #[.int .i64 24, .string ⟨#[]⟩, .int .i64 0, .string ⟨#[]⟩, .slice K.xa K.len K.cap] 24)) rfl
      refine (clone_any T.nm _ (by have := (unhide HP).1; omega)).mono ?_
      rintro e w5 ⟨rfl, hb4⟩
      have g4 := row_below (row_below (unhide HGb) (unhide HA)) hb4
      have gK := row_below gA hb4
      have HB4 := hide (And.intro (bnext (bnext (unhide HBb) (unhide HA)) hb4) (bnext (bnext (unhide HRb) (unhide HA)) hb4))
      obtain ⟨z0, z1, z2, z3, z4⟩ := pats5s gK
      have zf := fun o => frozen_of_row _ _ o _ _ gK
      have g5 := But.row ((But.refl wr.heap.size w5).setCell 3 (.string T.nm)) (by have := unhide HB0; have := (unhide HRb).size; omega) g4
      clear hb4 gA gK
      go_wp2_with (first
        | (refine wpList_store_row rfl 24 _ _ rfl (w.heap.size + 1) #[.int .i64 24, .string ⟨#[]⟩, .int .i64 0, .string T.nm, .slice K.xa K.len K.cap] rfl rfl 24 zeroP g5 size_pat rfl (by simp [Value.oneCell']) ?_)
        | fail)
      exact bodyPost_ret (results_cell_row rfl _ _ (w.heap.size + 1) 24 #[.int .i64 24, .string ⟨#[]⟩, .int .i64 0, .string T.nm, .slice K.xa K.len K.cap] (0, 0) _ rfl (setRow_heap _ _ _ _ _ _ g5) Tryd.underlying24 rfl size_pat) rfl (gives_kids (U := nmP 24 T.nm K) (unhide HKK).2 (fun X h => nmP_in h 24 (by decide) (by have := (unhide HP).1; unfold maxLen; omega)) (by rw [nmP_can]; exact unhide HS) (by rw [setRow_size, World.size_setCell]; exact (unhide HB4).2.size) (fun i a b => (setRow_other _ (w.heap.size + 1) i _ (by omega)).trans ((((But.refl wr.heap.size w5).setCell 3 (.string T.nm)).block i (by have := (unhide HB4).2.size; omega) (by have := (unhide HRb).size; omega)).trans ((unhide HB4).2.block i b))) (below_setRow ((unhide HB4).1.setCell (by have := unhide HB0; have := (unhide HRb).size; show _ ≤ wr.heap.size; omega) _) _ (by omega) _))
end Go.Proofs.YtbmngbpillihaaaDoor

namespace Go.Proofs.YtbmngbpillihaaaDoor
open Go.RowKit

theorem csum_simp : ∀ l : List PT, csum (l.map PT.simp) ≤ csum l
  | [] => Nat.le_refl _
  | x :: l => by
    have h1 := csum_simp l
    have h2 := (simp_less x).1
    rw [csum_sum, csum_sum] at *
    simp only [List.map_cons, List.sum_cons] at *
    omega
theorem five_smp {x : PT} (hs : x.Smp) (hb : x.bad = 0) : Fine5 x := by
  have hN := ((Smp_iff x).1 hs).1
  have hR := bad_rt hb
  have hr := hN.rng
  have h0 : (⟨#[]⟩ : ByteArray).size = 0 := rfl
  unfold Fine5
  have hcase : x.k = 1 ∨ x.k = 3 ∨ (x.k = 4 ∨ x.k = 5 ∨ x.k = 6 ∨ x.k = 7) ∨ (x.k = 2 ∨ x.k = 8 ∨ x.k = 9 ∨ x.k = 10 ∨ x.k = 11) ∨ (12 ≤ x.k ∧ x.k ≤ 17) ∨ x.k = 18 ∨ x.k = 19 ∨ x.k = 20 ∨ (x.k = 21 ∨ x.k = 22) ∨ (x.k = 23 ∨ x.k = 24) := by omega
  rcases hcase with h | h | h | h | h | h | h | h | h | h
  · exact ⟨hR.long (by omega), by rw [(hN.k1 h).1]; decide, by rw [(hN.k1 h).1]; decide⟩
  · exact ⟨hR.long (by omega), by rw [(hN.k3 h).1]; decide, by rw [(hN.k3 h).1]; decide⟩
  · exact ⟨hR.long (by omega), by rw [(hN.k4 h).1]; decide, by rw [(hN.k4 h).1]; decide⟩
  · exact ⟨by rw [(hN.k2 h).1]; decide, (hR.num (by omega)).1, (hR.num (by omega)).2⟩
  · have := hN.rest h.1 h.2
    exact ⟨by rw [this.1]; decide, by rw [this.2.1]; decide, by rw [this.2.1]; decide⟩
  · have := hN.k18 h
    exact ⟨by rw [this.1]; decide, by rw [this.2.1]; decide, by rw [this.2.1]; decide⟩
  · have := hN.k19 h
    exact ⟨by rw [this.1]; decide, by rw [this.2.1]; decide, by rw [this.2.1]; decide⟩
  · have := hN.k20 h
    exact ⟨by rw [this.1]; decide, by rw [this.2.1]; decide, by rw [this.2.1]; decide⟩
  · have := hN.k21 h
    exact ⟨by rw [this.1]; decide, by rw [this.2.1]; decide, by rw [this.2.1]; decide⟩
  · have := hN.k23 h
    exact ⟨by rw [this.1]; decide, by rw [this.2]; decide, by rw [this.2]; decide⟩
theorem mem_cnt : ∀ {l : List PT} {x : PT}, x ∈ l → x.cnt ≤ csum l
  | y :: l, x, h => by
    rw [csum_sum]
    simp only [List.map_cons, List.sum_cons]
    rw [← csum_sum]
    rcases List.mem_cons.1 h with rfl | h
    · omega
    · have := mem_cnt h
      omega
theorem mem_fine {T x : PT} (hF : FineS T) (hB : T.bad = 0) (hc : T.cnt ≤ 4096) (hx : x ∈ T.lst) : FineS x ∧ x.bad = 0 ∧ x.cnt ≤ 4096 := by
  refine ⟨?_, ((bad_lst T).1 hB).2 x hx, ?_⟩
  · obtain ⟨i, hi⟩ := List.mem_iff_getElem?.1 hx
    have hlt : i < T.len := by have := (List.getElem?_eq_some_iff.1 hi).1; rwa [PT.lst_len] at this
    rw [PT.lst_at hlt] at hi
    rw [← Option.some.inj hi]
    exact hF.kid hlt
  · have := mem_cnt hx
    rw [cnt_lst] at hc
    omega
theorem fine_can {x : PT} (h : Fine5 x.can) : Fine5 x := by
  unfold Fine5 at h ⊢
  rwa [can_t, can_n] at h
theorem flat_fine {T : PT} (hF : FineS T) (hB : T.bad = 0) (hc : T.cnt ≤ 4096) (k : Int) {Us : List PT} (hU : Us.map PT.can = T.lst.map PT.simp) : (flatK k Us).length ≤ 90000 ∧ ∀ x ∈ flatK k Us, Fine5 x := by
  have e := flat_can k Us
  rw [hU] at e
  constructor
  · have h1 := csum_len (flatK k (T.lst.map PT.simp))
    have h2 := (flatK_less k (T.lst.map PT.simp)).1
    have h3 := csum_simp T.lst
    rw [cnt_lst] at hc
    have h4 : (flatK k Us).length = (flatK k (T.lst.map PT.simp)).length := by rw [e, List.length_map]
    omega
  · intro x hx
    refine fine_can ?_
    have hm : x.can ∈ flatK k (T.lst.map PT.simp) := by rw [e]; exact List.mem_map_of_mem hx
    have hall : ∀ y ∈ T.lst.map PT.simp, y.Smp ∧ y.bad = 0 := fun y hy => by
      obtain ⟨z, hz, rfl⟩ := List.mem_map.1 hy
      obtain ⟨f1, f2, f3⟩ := mem_fine hF hB hc hz
      exact ⟨simp_smp z f1, simp_bad z f2 f3⟩
    rcases flatK_mem hm with ⟨h, -⟩ | ⟨p, hp, -, h⟩
    · exact five_smp (hall _ h).1 (hall _ h).2
    · exact five_smp (((Smp_iff p).1 (hall p hp).1).2 _ h) (((bad_lst p).1 (hall p hp).2).2 _ h)
theorem lst_canon {T : PT} (hF : FineS T) (hB : T.bad = 0) (hc : T.cnt ≤ 4096) : (T.lst.map fun x => x.simp.can) = T.lst.map PT.simp :=
  List.map_congr_left fun x hx => Smp_can _ (simp_smp x (mem_fine hF hB hc hx).1)
theorem simp_canon {T : PT} (hF : FineS T) : T.simp.can = T.simp := Smp_can _ (simp_smp T hF)
theorem simpN_21 {k : Int} {t : ByteArray} {n : Int} {nm : ByteArray} {l : List PT} (h : k = 21 ∨ k = 22) : simpN k t n nm l = if nev (l.getD 0 PT.nul) = true then l.getD 0 PT.nul else mkP k ⟨#[]⟩ 0 nm l := by
  unfold simpN
  rw [if_neg (by omega), if_neg (by omega), if_neg (by omega), if_neg (by omega), if_neg (by omega), if_neg (by omega), if_neg (by omega), if_pos h]
theorem nm_small {nm : ByteArray} (h : named nm = true) : nm.size ≤ 1000000 := by
  unfold named at h
  rw [Bool.and_eq_true, decide_eq_true_eq] at h
  omega
theorem first1 {T : PT} {Us : List PT} (hl : T.len = 1) (h : Us.map PT.can = T.lst.map fun x => x.simp.can) : 0 < Us.length := by
  have := congrArg List.length h
  rw [List.length_map, List.length_map, PT.lst_len, hl] at this
  omega
set_option maxRecDepth 10000 in
set_option maxHeartbeats 2000000 in
theorem simpler_any : ∀ T : PT, FineS T → T.bad = 0 → T.cnt ≤ 4096 → ∀ w : World, T.In w → Calls Tryd.prog 21 #[pv T] w fun e w' => GivesP [] T.simp w e w' := PT.ind fun T ih hF hB hc w hT => by
  have hR := bad_rt hB
  have hS : T.simp = simpN T.k T.t T.n T.nm (T.lst.map PT.simp) := PT.simp_eq T
  have hL := lst_canon hF hB hc
  have hC := simp_canon hF
  have hn : T.len ≤ 100000 := by
    have h := csum_len T.lst
    rw [PT.lst_len] at h
    have hc := hc
    rw [cnt_lst] at hc
    omega
  have IH : SimpIH T := fun j hj W hW => by
    obtain ⟨f1, f2, f3⟩ := mem_fine hF hB hc (List.mem_of_getElem? (PT.lst_at hj))
    exact ih j hj f1 f2 f3 W hW
  have hr := hR.rng
  rcases (show T.k = 1 ∨ T.k = 2 ∨ T.k = 3 ∨ T.k = 4 ∨ T.k = 5 ∨ T.k = 6 ∨ T.k = 7 ∨ T.k = 8 ∨ T.k = 9 ∨ T.k = 10 ∨ T.k = 11 ∨ T.k = 12 ∨ T.k = 13 ∨ T.k = 14 ∨ T.k = 15 ∨ T.k = 16 ∨ T.k = 17 ∨ T.k = 18 ∨ T.k = 19 ∨ T.k = 20 ∨ T.k = 21 ∨ T.k = 22 ∨ T.k = 23 ∨ T.k = 24 by omega) with q | q | q | q | q | q | q | q | q | q | q | q | q | q | q | q | q | q | q | q | q | q | q | q
  · exact simp_k1 T q w hT hn IH (hR.long (by omega)) (by rw [hS, q]; unfold simpN; rw [if_pos (by decide)])
  · exact simp_k2 T q w hT hn IH (hR.num (by omega)) (by rw [hS, q]; unfold simpN; rw [if_neg (by decide), if_neg (by decide), if_neg (by decide), if_pos (by decide)])
  · obtain ⟨U, hU⟩ : ∃ U, anyP (inB T.t) = U := ⟨_, rfl⟩
    have hA : ∀ W, Calls Tryd.prog 42 #[.agg (sc (inB T.t))] W fun e w' => e = .returned (pv U) ∧ Below W.heap.size W w' := fun W => by
      have h := anyOf_any (inB T.t) W
      unfold sv at h
      rw [hU] at h
      exact h
    exact simp_k3 T q w hT hn IH U (sc (inB T.t)) (fun W => of_saysE T.t (by have := hR.long (by omega); unfold maxLen; omega) W) hA (fun X => anyP_in X U (inB T.t) hU) (by rw [hS, q]; unfold simpN; rw [if_neg (by decide), if_pos (by decide)]; exact hU.symm)
  · obtain ⟨x, hx⟩ : ∃ x, txt (inB T.t) = x := ⟨_, rfl⟩
    have hA : ∀ W, Calls Tryd.prog 44 #[.agg (sc (inB T.t))] W fun e w' => e = .returned (.string x) ∧ Below W.heap.size W w' := fun W => by
      have h := text_any (inB T.t) W
      unfold sv at h
      rw [show (⟨(tx (inB T.t) 256).toArray⟩ : ByteArray) = txt (inB T.t) from rfl, hx] at h
      exact h
    exact simp_k4 T q w hT hn IH x (sc (inB T.t)) (fun W => of_saysE T.t (by have := hR.long (by omega); unfold maxLen; omega) W) hA (by have := tx_len (inB T.t); rw [hx] at this; unfold maxLen; omega) (by rw [hS, q, ← hx]; unfold simpN; rw [if_neg (by decide), if_neg (by decide), if_pos (by decide)])
  · obtain ⟨x, hx⟩ : ∃ x, txt (inB T.t) = x := ⟨_, rfl⟩
    have hA : ∀ W, Calls Tryd.prog 44 #[.agg (sc (inB T.t))] W fun e w' => e = .returned (.string x) ∧ Below W.heap.size W w' := fun W => by
      have h := text_any (inB T.t) W
      unfold sv at h
      rw [show (⟨(tx (inB T.t) 256).toArray⟩ : ByteArray) = txt (inB T.t) from rfl, hx] at h
      exact h
    exact simp_k5 T q w hT hn IH x (sc (inB T.t)) (fun W => of_saysE T.t (by have := hR.long (by omega); unfold maxLen; omega) W) hA (by have := tx_len (inB T.t); rw [hx] at this; unfold maxLen; omega) (by rw [hS, q, ← hx]; unfold simpN; rw [if_neg (by decide), if_neg (by decide), if_pos (by decide)])
  · obtain ⟨x, hx⟩ : ∃ x, txt (inB T.t) = x := ⟨_, rfl⟩
    have hA : ∀ W, Calls Tryd.prog 44 #[.agg (sc (inB T.t))] W fun e w' => e = .returned (.string x) ∧ Below W.heap.size W w' := fun W => by
      have h := text_any (inB T.t) W
      unfold sv at h
      rw [show (⟨(tx (inB T.t) 256).toArray⟩ : ByteArray) = txt (inB T.t) from rfl, hx] at h
      exact h
    exact simp_k6 T q w hT hn IH x (sc (inB T.t)) (fun W => of_saysE T.t (by have := hR.long (by omega); unfold maxLen; omega) W) hA (by have := tx_len (inB T.t); rw [hx] at this; unfold maxLen; omega) (by rw [hS, q, ← hx]; unfold simpN; rw [if_neg (by decide), if_neg (by decide), if_pos (by decide)])
  · obtain ⟨x, hx⟩ : ∃ x, txt (inB T.t) = x := ⟨_, rfl⟩
    have hA : ∀ W, Calls Tryd.prog 44 #[.agg (sc (inB T.t))] W fun e w' => e = .returned (.string x) ∧ Below W.heap.size W w' := fun W => by
      have h := text_any (inB T.t) W
      unfold sv at h
      rw [show (⟨(tx (inB T.t) 256).toArray⟩ : ByteArray) = txt (inB T.t) from rfl, hx] at h
      exact h
    exact simp_k7 T q w hT hn IH x (sc (inB T.t)) (fun W => of_saysE T.t (by have := hR.long (by omega); unfold maxLen; omega) W) hA (by have := tx_len (inB T.t); rw [hx] at this; unfold maxLen; omega) (by rw [hS, q, ← hx]; unfold simpN; rw [if_neg (by decide), if_neg (by decide), if_pos (by decide)])
  · exact simp_k8 T q w hT hn IH (hR.num (by omega)) (by rw [hS, q]; unfold simpN; rw [if_neg (by decide), if_neg (by decide), if_neg (by decide), if_pos (by decide)])
  · exact simp_k9 T q w hT hn IH (hR.num (by omega)) (by rw [hS, q]; unfold simpN; rw [if_neg (by decide), if_neg (by decide), if_neg (by decide), if_pos (by decide)])
  · exact simp_k10 T q w hT hn IH (hR.num (by omega)) (by rw [hS, q]; unfold simpN; rw [if_neg (by decide), if_neg (by decide), if_neg (by decide), if_pos (by decide)])
  · exact simp_k11 T q w hT hn IH (hR.num (by omega)) (by rw [hS, q]; unfold simpN; rw [if_neg (by decide), if_neg (by decide), if_neg (by decide), if_pos (by decide)])
  · exact simp_k12 T q w hT hn IH (fun Us hU => by rw [mkP_can, hU, hL, hC, hS, q]; unfold simpN; rw [if_neg (by decide), if_neg (by decide), if_neg (by decide), if_neg (by decide), if_neg (by decide), if_neg (by decide), if_neg (by decide), if_neg (by decide), if_neg (by decide)])
  · exact simp_k13 T q w hT hn IH (fun Us hU => by rw [mkP_can, hU, hL, hC, hS, q]; unfold simpN; rw [if_neg (by decide), if_neg (by decide), if_neg (by decide), if_neg (by decide), if_neg (by decide), if_neg (by decide), if_neg (by decide), if_neg (by decide), if_neg (by decide)])
  · exact simp_k14 T q w hT hn IH (fun Us hU => by rw [mkP_can, hU, hL, hC, hS, q]; unfold simpN; rw [if_neg (by decide), if_neg (by decide), if_neg (by decide), if_neg (by decide), if_neg (by decide), if_neg (by decide), if_neg (by decide), if_neg (by decide), if_neg (by decide)])
  · exact simp_k15 T q w hT hn IH (fun Us hU => by rw [mkP_can, hU, hL, hC, hS, q]; unfold simpN; rw [if_neg (by decide), if_neg (by decide), if_neg (by decide), if_neg (by decide), if_neg (by decide), if_neg (by decide), if_neg (by decide), if_neg (by decide), if_neg (by decide)])
  · exact simp_k16 T q w hT hn IH (fun Us hU => by rw [mkP_can, hU, hL, hC, hS, q]; unfold simpN; rw [if_neg (by decide), if_neg (by decide), if_neg (by decide), if_neg (by decide), if_neg (by decide), if_neg (by decide), if_neg (by decide), if_neg (by decide), if_neg (by decide)])
  · exact simp_k17 T q w hT hn IH (fun Us hU => by rw [mkP_can, hU, hL, hC, hS, q]; unfold simpN; rw [if_neg (by decide), if_neg (by decide), if_neg (by decide), if_neg (by decide), if_neg (by decide), if_neg (by decide), if_neg (by decide), if_neg (by decide), if_neg (by decide)])
  · exact simp_k18 T q w hT hn IH (fun Us hU => ⟨(flat_fine hF hB hc 18 (hU.trans hL)).1, (flat_fine hF hB hc 18 (hU.trans hL)).2, by rw [cat_can, hU, hL, hC, hS, q]; unfold simpN; rw [if_neg (by decide), if_neg (by decide), if_neg (by decide), if_neg (by decide), if_pos (by decide)]⟩)
  · exact simp_k19 T q w hT hn IH (fun Us hU => ⟨(flat_fine hF hB hc 19 (hU.trans hL)).1, (flat_fine hF hB hc 19 (hU.trans hL)).2, by rw [alt_can, hU, hL, hC, hS, q]; unfold simpN; rw [if_neg (by decide), if_neg (by decide), if_neg (by decide), if_neg (by decide), if_neg (by decide), if_pos (by decide)]⟩)
  · exact simp_k20 T q w hT hn IH (hR.one (by omega)) (fun Us hU => by rw [arb_can (first1 (hR.one (by omega)) hU), hU, hL, hC, hS, q]; unfold simpN; rw [if_neg (by decide), if_neg (by decide), if_neg (by decide), if_neg (by decide), if_neg (by decide), if_neg (by decide), if_pos (by decide)])
  · exact simp_k21 T q w hT hn IH (nm_small (hR.name (by omega))) (hR.one (by omega)) (fun Us hU => by rw [hC, hS, q, simpN_21 (.inl rfl), ← hL, ← hU, getD_can (first1 (hR.one (by omega)) hU), nev_can]; split; exact rfl; exact mkP_can _ _ _ _ _)
  · exact simp_k22 T q w hT hn IH (nm_small (hR.name (by omega))) (hR.one (by omega)) (fun Us hU => by rw [hC, hS, q, simpN_21 (.inr rfl), ← hL, ← hU, getD_can (first1 (hR.one (by omega)) hU), nev_can]; split; exact rfl; exact mkP_can _ _ _ _ _)
  · exact simp_k23 T q w hT hn IH (nm_small (hR.name (by omega))) (fun Us hU => by rw [mkP_can, hU, hL, hC, hS, q]; unfold simpN; rw [if_neg (by decide), if_neg (by decide), if_neg (by decide), if_neg (by decide), if_neg (by decide), if_neg (by decide), if_neg (by decide), if_neg (by decide), if_pos (by decide)])
  · exact simp_k24 T q w hT hn IH (nm_small (hR.name (by omega))) (fun Us hU => by rw [mkP_can, hU, hL, hC, hS, q]; unfold simpN; rw [if_neg (by decide), if_neg (by decide), if_neg (by decide), if_neg (by decide), if_neg (by decide), if_neg (by decide), if_neg (by decide), if_neg (by decide), if_pos (by decide)])
end Go.Proofs.YtbmngbpillihaaaDoor

namespace Go.Proofs.YtbmngbpillihaaaDoor
open Go.RowKit

theorem bad_of {T : PT} (h : T.wrong = 0) : T.bad = 0 := by
  unfold PT.wrong at h
  split at h
  · exact h
  · exact absurd h (by decide)
set_option maxRecDepth 100000 in
set_option maxHeartbeats 1000000 in
theorem simplify_right (T : PT) (w : World) (hT : T.In w) (hS : Shapes w) (h : T.wrong = 0) : Calls Tryd.prog 7 #[pv T] w fun e w' => ∃ U : PT, e = .returned (.tuple #[pv U, .int .i64 0]) ∧ (∀ X : World, (∀ i, w.heap.size ≤ i → i < w'.heap.size → X.heap[i]? = w'.heap[i]?) → U.In X) ∧ U.can = T.simp ∧ Below w.heap.size w w' := by
  obtain ⟨hF, -, hc⟩ := right_of h
  have HN := hide (simp_canon hF)
  have HS := hide (fun W (hb : Below w.heap.size w W) => simpler_any T hF (bad_of h) hc W (PT.In.later hb hT))
  have HW := hide (fun W (hb : Below w.heap.size w W) => h ▸ wrong_any T W (PT.In.later hb hT) (hS.later hb))
  unfold pv at HS HW ⊢
  have hk0 : Below w.heap.size w ((w.alloc (.cells #[.int .i64 T.k, .string T.t, .int .i64 T.n, .string T.nm, .slice T.xa T.len T.cap] 24)).alloc (.cells #[.int .i64 0, .string ⟨#[]⟩, .int .i64 0, .string ⟨#[]⟩, .slice none 0 0] 24)) := ((Below.refl _ _).alloc (Nat.le_refl _) _).alloc (by simp) _
  have gb : ((w.alloc (.cells #[.int .i64 T.k, .string T.t, .int .i64 T.n, .string T.nm, .slice T.xa T.len T.cap] 24)).alloc (.cells #[.int .i64 0, .string ⟨#[]⟩, .int .i64 0, .string ⟨#[]⟩, .slice none 0 0] 24)).heap[w.heap.size]? = some (.cells #[.int .i64 T.k, .string T.t, .int .i64 T.n, .string T.nm, .slice T.xa T.len T.cap] 24 (0, 0)) := at_old (by simp) (at_new rfl)
  have gz : ((w.alloc (.cells #[.int .i64 T.k, .string T.t, .int .i64 T.n, .string T.nm, .slice T.xa T.len T.cap] 24)).alloc (.cells #[.int .i64 0, .string ⟨#[]⟩, .int .i64 0, .string ⟨#[]⟩, .slice none 0 0] 24)).heap[w.heap.size + 1]? = some (.cells zeroP 24 (0, 0)) := at_new (by simp)
  have H0 := hide (And.intro hk0 (And.intro gb gz))
  clear hk0 gb gz hT hS hF hc h
  go_enter Tryd.func7, Tryd.ntmps7
  go_wp2_with fail
  refine (unhide HW _ (unhide H0).1).mono ?_
  rintro e w1 ⟨rfl, hb1⟩
  have gb := row_below (unhide H0).2.1 hb1
  have gz := row_below (unhide H0).2.2 hb1
  have HB1 := hide (bnext (unhide H0).1 hb1)
  have hs1 : w.heap.size + 2 ≤ w1.heap.size := by have := hb1.size; simp at this; omega
  obtain ⟨y0, y1, y2, y3, y4⟩ := pats5s gb
  have GZ := hide gz
  clear hb1 gb gz H0 HW
  go_wp2_with fail
  refine (unhide HS _ (unhide HB1)).mono ?_
  rintro e w2 ⟨U, rfl, hU, hUc, hb2⟩
  have g2 := row_below (unhide GZ) hb2
  have HB2 := hide (bnext (unhide HB1) hb2)
  have HUU := hide (And.intro hU (And.intro hUc hb2))
  clear hb2 hU hUc y0 y1 y2 y3 y4
  unfold pv
  go_wp2_with (first
    | (refine wpList_store_row rfl 24 _ _ rfl (w.heap.size + 1) (patO U) rfl rfl 24 zeroP g2 size_pat rfl (patO_oneC U) ?_)
    | fail)
  exact bodyPost_ret (results_patS rfl _ _ (w.heap.size + 1) (patO U) rfl (setRow_heap _ _ _ _ _ _ g2) size_pat) rfl ⟨U, rfl, fun X hX => (unhide HUU).1 X (fun x hx => by cases hx) (fun i a b => (hX i (by omega) (by rw [setRow_size]; exact b)).trans (setRow_other w2 (w.heap.size + 1) i _ (by omega))), (unhide HUU).2.1.trans (unhide HN), below_setRow (unhide HB2) _ (by omega) _⟩
set_option maxRecDepth 100000 in
set_option maxHeartbeats 1000000 in
theorem simplify_wrong (T : PT) (w : World) (hT : T.In w) (hS : Shapes w) (h : T.wrong ≠ 0) : Calls Tryd.prog 7 #[pv T] w fun e w' => e = .returned (.tuple #[.agg zeroP, .int .i64 T.wrong]) ∧ Below w.heap.size w w' := by
  have q : (T.wrong != 0) = true := by rw [bne_iff_ne]; exact h
  have HW := hide (fun W (hb : Below w.heap.size w W) => wrong_any T W (PT.In.later hb hT) (hS.later hb))
  unfold pv at HW ⊢
  have hk0 : Below w.heap.size w ((w.alloc (.cells #[.int .i64 T.k, .string T.t, .int .i64 T.n, .string T.nm, .slice T.xa T.len T.cap] 24)).alloc (.cells #[.int .i64 0, .string ⟨#[]⟩, .int .i64 0, .string ⟨#[]⟩, .slice none 0 0] 24)) := ((Below.refl _ _).alloc (Nat.le_refl _) _).alloc (by simp) _
  have gb : ((w.alloc (.cells #[.int .i64 T.k, .string T.t, .int .i64 T.n, .string T.nm, .slice T.xa T.len T.cap] 24)).alloc (.cells #[.int .i64 0, .string ⟨#[]⟩, .int .i64 0, .string ⟨#[]⟩, .slice none 0 0] 24)).heap[w.heap.size]? = some (.cells #[.int .i64 T.k, .string T.t, .int .i64 T.n, .string T.nm, .slice T.xa T.len T.cap] 24 (0, 0)) := at_old (by simp) (at_new rfl)
  have gz : ((w.alloc (.cells #[.int .i64 T.k, .string T.t, .int .i64 T.n, .string T.nm, .slice T.xa T.len T.cap] 24)).alloc (.cells #[.int .i64 0, .string ⟨#[]⟩, .int .i64 0, .string ⟨#[]⟩, .slice none 0 0] 24)).heap[w.heap.size + 1]? = some (.cells zeroP 24 (0, 0)) := at_new (by simp)
  have H0 := hide (And.intro hk0 (And.intro gb gz))
  clear hk0 gb gz hT hS h
  generalize T.wrong = c at *
  go_enter Tryd.func7, Tryd.ntmps7
  go_wp2_with fail
  refine (unhide HW _ (unhide H0).1).mono ?_
  rintro e w1 ⟨rfl, hb1⟩
  have gz := row_below (unhide H0).2.2 hb1
  have HB1 := hide (bnext (unhide H0).1 hb1)
  clear hb1 H0 HW
  go_wp2_with (first
    | (refine wpList_store_row rfl 24 _ _ rfl (w.heap.size + 1) zeroP rfl rfl 24 zeroP gz size_pat rfl (leafO_one _ _ _) ?_)
    | fail)
  exact bodyPost_ret (results_patS rfl _ _ (w.heap.size + 1) zeroP rfl (setRow_heap _ _ _ _ _ _ gz) size_pat) rfl ⟨rfl, below_setRow (unhide HB1) _ (by omega) _⟩
end Go.Proofs.YtbmngbpillihaaaDoor
