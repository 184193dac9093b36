/- tune.firstOfCat and tune.firstOfAlt. tune.First of any pattern. -/
import Derived.Test.YtjfahpklemohgaaDoorFirstHead
import Derived.Test.YtjfahpklemohgaaDoorFirstK1
import Derived.Test.YtjfahpklemohgaaDoorFirstK2
import Derived.Test.YtjfahpklemohgaaDoorFirstK3
import Derived.Test.YtjfahpklemohgaaDoorFirstK4
import Derived.Test.YtjfahpklemohgaaDoorFirstK5
import Derived.Test.YtjfahpklemohgaaDoorClone4M
import Derived.Test.YtjfahpklemohgaaDoorScanRulesG
namespace Go.Proofs.YtjfahpklemohgaaDoor
open Go.RowKit

theorem fsCatTo_stop {f : Nat → Fs} {k : Nat} (h : (fsCatTo f k).2 = false) : ∀ n, k ≤ n → fsCatTo f n = fsCatTo f k
  | 0, hk => by obtain rfl : k = 0 := by omega
                rfl
  | n + 1, hk => by
    rcases Nat.lt_or_ge k (n + 1) with q | q
    · have := fsCatTo_stop h n (by omega)
      rw [fsCatTo, this, fsCat, if_pos h]
    · obtain rfl : k = n + 1 := by omega
      rfl
/-- Behind a kid: its set is put into a new block. -/
structure Mid (w : World) (z : Nat) (W : World) (C E : Array Value) : Prop where
  res : W.heap[w.heap.size]? = some (setO C)
  new : W.heap[z]? = some (setO E)
  bel : Below w.heap.size w W
theorem mid_of {w w2 : World} {C E : Array Value} (h : w2.heap[w.heap.size]? = some (setO C)) (hb : Below w.heap.size w w2) : Mid w w2.heap.size ((w2.alloc (setO zerosS)).setRow w2.heap.size E) C E := by
  have hl : w.heap.size < w2.heap.size := (Array.getElem?_eq_some_iff.1 h).1
  exact ⟨(setRow_other _ _ _ _ (by omega)).trans (at_keep3 h), setRow_heap _ _ _ _ _ _ (at_new rfl), below_setRow (hb.alloc (by omega) _) _ (by omega) _⟩

set_option maxRecDepth 100000 in
set_option maxHeartbeats 2000000 in
theorem fcat_any (T : PT) (ih : ∀ i, i < T.len → FstSays (T.kid i)) : FCatSays T := by
  intro w hT hF
  obtain ⟨x, hx⟩ : ∃ x, x = fsCatTo (fun i => (T.kid i).fst) T.len := ⟨_, rfl⟩
  rw [← hx]
  have hmax := hT.max
  unfold maxLen at hmax
  have HD := hide (And.intro hx (And.intro hT (And.intro hF ih)))
  clear hx hT hF ih
  unfold FstPost
  go_enter Tryd.func22, Tryd.ntmps22
  go_wp2_with fail
  go_loopw [10] (fun i wr => ∃ k : Nat, k ≤ T.len ∧ i = .int .i64 (k : Int) ∧ (fsCatTo (fun i => (T.kid i).fst) k).2 = true ∧ wr.heap[w.heap.size]? = some (setO (sc (fsCatTo (fun i => (T.kid i).fst) k).1)) ∧ Below w.heap.size w wr) (fun i _ => T.len - (intOf i).toNat)
  case atStart => exact ⟨0, by omega, rfl, rfl, by rw [show (fsCatTo (fun i => (T.kid i).fst) 0).1 = fun _ => false from rfl, ← zerosS_eq]; exact at_new rfl, (Below.refl _ _).alloc (Nat.le_refl _) _⟩
  case round =>
    obtain ⟨k, hk, rfl, hab, g0, hbr⟩ := hrel
    obtain ⟨hx, hT, hF, ih⟩ := unhide HD
    have hyl : w.heap.size < wr.heap.size := (Array.getElem?_eq_some_iff.1 g0).1
    rcases Nat.lt_or_ge k T.len with hkt | hkt
    · have hlt' : (k : Int) < (T.len : Int) := by omega
      have HMS := hide (show T.len - (intOf (Value.int IntKind.i64 ((k : Int) + 1))).toNat < T.len - (intOf (Value.int IntKind.i64 (k : Int))).toNat by simp [intOf]; omega)
      have hia := kid_at hT hkt
      obtain ⟨k0, k1, k2, k3, k4⟩ := hT.cells hkt
      have k0 := cell_later hbr k0
      have k1 := cell_later hbr k1
      have k2 := cell_later hbr k2
      have k3 := cell_later hbr k3
      have k4 := cell_later hbr k4
      unfold PT.kv at k4
      have hn : fsCatTo (fun i => (T.kid i).fst) (k + 1) = (fun c => (fsCatTo (fun i => (T.kid i).fst) k).1 c || (T.kid k).fst.1 c, (T.kid k).fst.2) := by
        rw [fsCatTo, fsCat, if_neg (by rw [hab]; simp)]
      have hstop := fun h => fsCatTo_stop (f := fun i => (T.kid i).fst) (k := k + 1) h T.len hkt
      rw [← hx] at hstop
      obtain ⟨U, hU⟩ : ∃ U, U = T.kid k := ⟨_, rfl⟩
      have H := hide (fun W (h : Below w.heap.size w W) => ih k hkt W (PT.In.later h (hT.kids hkt)) (hF.kid hkt))
      rw [← hU] at k0 k1 k2 k3 k4 hn H
      obtain ⟨x', hx'⟩ : ∃ x', x' = U.fst := ⟨_, rfl⟩
      rw [← hx'] at hn H
      unfold pv FstPost at H
      obtain ⟨x0, x1⟩ := x'
      dsimp only at H hn
      have HU := hide (fun W => union_says (fsCatTo (fun i => (T.kid i).fst) k).1 x0 W)
      have hC4 := sc_size (fsCatTo (fun i => (T.kid i).fst) k).1
      obtain ⟨C, hC⟩ : ∃ C, C = sc (fsCatTo (fun i => (T.kid i).fst) k).1 := ⟨_, rfl⟩
      have hCi := sc_info (fsCatTo (fun i => (T.kid i).fst) k).1
      obtain ⟨E, hE⟩ : ∃ E, E = sc x0 := ⟨_, rfl⟩
      have hEi := sc_info x0
      have hE4 := sc_size x0
      have hE1 := sc_one x0
      obtain ⟨V, hV⟩ : ∃ V, V = sc (fun c => (fsCatTo (fun i => (T.kid i).fst) k).1 c || x0 c) := ⟨_, rfl⟩
      have hVi := sc_info (fun c => (fsCatTo (fun i => (T.kid i).fst) k).1 c || x0 c)
      have hV4 := sc_size (fun c => (fsCatTo (fun i => (T.kid i).fst) k).1 c || x0 c)
      have hV1 := sc_one (fun c => (fsCatTo (fun i => (T.kid i).fst) k).1 c || x0 c)
      rw [← hC] at HU g0 hCi hC4
      rw [← hE] at HU H hEi hE4 hE1
      rw [← hV] at HU hVi hV4 hV1
      have HI := hide (And.intro hCi (And.intro hEi hVi))
      have HN := hide (And.intro hn (And.intro hstop hV))
      have HR := hide (And.intro g0 hbr)
      have hCV : C.size = V.size := hC4.trans hV4.symm
      clear hn hstop hU hx' hT hF ih g0 hbr hab hx hC hE hV hCi hEi hVi
      go_wp2_with fail
      refine (unhide H _ ((unhide HR).2.alloc (unhide HR).2.size _)).mono ?_
      rintro e w2 ⟨rfl, hb2⟩
      have HM : Hid (Mid w w2.heap.size ((w2.alloc (setO zerosS)).setRow w2.heap.size E) C E) := hide (mid_of (row_below (at_keep3 (unhide HR).1) hb2) (bnext ((unhide HR).2.alloc (unhide HR).2.size _) hb2))
      obtain ⟨W3, hW3⟩ : ∃ W3, W3 = (w2.alloc (setO zerosS)).setRow w2.heap.size E := ⟨_, rfl⟩
      rw [← hW3] at HM
      have HW3 := hide hW3
      clear hb2 hW3 HR k0 k1 k2 k3 k4 hia H hyl
      go_wp2_with (first
        | (refine wpList_store_eq rfl 29 _ _ rfl w2.heap.size E rfl rfl 29 zerosS (at_new rfl) (unhide HI).2.1 hE4.symm hE1 (unhide HW3) ?_)
        | (refine wpList_load_row rfl 29 _ rfl w.heap.size rfl 29 C (0, 0) _ (unhide HM).res Tryd.underlying29 rfl (unhide HI).1 ?_)
        | (refine wpList_load_row rfl 29 _ rfl w2.heap.size rfl 29 E (0, 0) _ (unhide HM).new Tryd.underlying29 rfl (unhide HI).2.1 ?_)
        | fail)
      refine (unhide HU _).mono ?_
      rintro e w4 ⟨rfl, hb4⟩
      have r4 := row_below (unhide HM).res hb4
      have r5 := setRow_heap w4 w.heap.size C V _ _ r4
      have HB5 := hide (below_setRow (bnext (unhide HM).bel hb4) w.heap.size (Nat.le_refl _) V)
      obtain ⟨W5, hW5⟩ : ∃ W5, W5 = w4.setRow w.heap.size V := ⟨_, rfl⟩
      rw [← hW5] at r5 HB5
      have HW5 := hide hW5
      clear hb4 hW5 HM HW3 HU
      have hk1 : wrap64 ((k : Int) + 1) = (k : Int) + 1 := IntWalk.wrap64_in _ (by omega)
      have hk2 : IntKind.i64.wrap ((k : Int) + 1) = (k : Int) + 1 := (IntWalk.i64_left _).trans hk1
      cases x1 with
      | false =>
        have hx : x = (fun c => (fsCatTo (fun i => (T.kid i).fst) k).1 c || x0 c, false) := by rw [(unhide HN).2.1 (by rw [(unhide HN).1]), (unhide HN).1]
        have hxs : Value.agg (sc x.1) = .agg V ∧ x.2 = false := by rw [hx, (unhide HN).2.2]; exact ⟨rfl, rfl⟩
        have HXS := hide hxs
        clear hx hxs
        go_wp2_with (first
          | (refine wpList_store_eq rfl 29 _ _ rfl w.heap.size V rfl rfl 29 C r4 (unhide HI).2.2 hCV hV1 (unhide HW5) ?_)
          | (refine wpList_load_row rfl 29 _ rfl w.heap.size rfl 29 V (0, 0) _ r5 Tryd.underlying29 rfl (unhide HI).2.2 ?_)
          | (refine wpList_store_row rfl 29 _ _ rfl w.heap.size V rfl rfl 29 V r5 (unhide HI).2.2 rfl hV1 ?_)
          | fail)
        exact bodyPost_ret (results_set rfl _ _ w.heap.size V rfl (setRow_heap _ _ _ _ _ _ r5) (unhide HI).2.2) rfl ⟨by rw [(unhide HXS).1, (unhide HXS).2]; rfl, below_setRow (unhide HB5) _ (Nat.le_refl _) _⟩
      | true =>
        go_wp2_with (first
          | (refine wpList_store_eq rfl 29 _ _ rfl w.heap.size V rfl rfl 29 C r4 (unhide HI).2.2 hCV hV1 (unhide HW5) ?_)
          | fail)
        exact ⟨⟨k + 1, hkt, by simp, by rw [(unhide HN).1], by rw [(unhide HN).1]; dsimp only; rw [← (unhide HN).2.2]; exact r5, unhide HB5⟩, unhide HMS⟩
    · have hge' : ¬ (k : Int) < (T.len : Int) := by omega
      obtain rfl : k = T.len := by omega
      rw [← hx] at hab g0
      obtain ⟨C, hC⟩ : ∃ C, C = sc x.1 := ⟨_, rfl⟩
      have hCi := sc_info x.1
      have hC1 := sc_one x.1
      rw [← hC] at g0 hCi hC1
      have HI := hide hCi
      have HC := hide (And.intro hC hab)
      have HB := hide hbr
      clear hx hT hF ih hC hCi hab hbr
      go_wp2_with (first
        | (refine wpList_load_row rfl 29 _ rfl w.heap.size rfl 29 C (0, 0) _ g0 Tryd.underlying29 rfl (unhide HI) ?_)
        | (refine wpList_store_row rfl 29 _ _ rfl w.heap.size C rfl rfl 29 C g0 (unhide HI) rfl hC1 ?_)
        | fail)
      exact bodyPost_ret (results_set rfl _ _ w.heap.size C rfl (setRow_heap _ _ _ _ _ _ g0) (unhide HI)) rfl ⟨by rw [(unhide HC).1, (unhide HC).2]; rfl, below_setRow (unhide HB) _ (Nat.le_refl _) _⟩
set_option maxRecDepth 100000 in
set_option maxHeartbeats 2000000 in
theorem falt_any (T : PT) (ih : ∀ i, i < T.len → FstSays (T.kid i)) : FAltSays T := by
  intro w hT hF
  obtain ⟨x, hx⟩ : ∃ x, x = fsAltTo (fun i => (T.kid i).fst) T.len := ⟨_, rfl⟩
  rw [← hx]
  have hmax := hT.max
  unfold maxLen at hmax
  have HD := hide (And.intro hx (And.intro hT (And.intro hF ih)))
  clear hx hT hF ih
  unfold FstPost
  go_enter Tryd.func23, Tryd.ntmps23
  go_wp2_with fail
  go_loopw [3, 10] (fun b i wr => ∃ k : Nat, k ≤ T.len ∧ i = .int .i64 (k : Int) ∧ b = .bool (fsAltTo (fun i => (T.kid i).fst) k).2 ∧ wr.heap[w.heap.size]? = some (setO (sc (fsAltTo (fun i => (T.kid i).fst) k).1)) ∧ Below w.heap.size w wr) (fun _ i _ => T.len - (intOf i).toNat)
  case atStart => exact ⟨0, by omega, rfl, rfl, by rw [show (fsAltTo (fun i => (T.kid i).fst) 0).1 = fun _ => false from rfl, ← zerosS_eq]; exact at_new rfl, (Below.refl _ _).alloc (Nat.le_refl _) _⟩
  case round =>
    obtain ⟨k, hk, rfl, rfl, g0, hbr⟩ := hrel
    obtain ⟨hx, hT, hF, ih⟩ := unhide HD
    have hyl : w.heap.size < wr.heap.size := (Array.getElem?_eq_some_iff.1 g0).1
    rcases Nat.lt_or_ge k T.len with hkt | hkt
    · have hlt' : (k : Int) < (T.len : Int) := by omega
      have HMS := hide (show T.len - (intOf (Value.int IntKind.i64 ((k : Int) + 1))).toNat < T.len - (intOf (Value.int IntKind.i64 (k : Int))).toNat by simp [intOf]; omega)
      have hia := kid_at hT hkt
      obtain ⟨k0, k1, k2, k3, k4⟩ := hT.cells hkt
      have k0 := cell_later hbr k0
      have k1 := cell_later hbr k1
      have k2 := cell_later hbr k2
      have k3 := cell_later hbr k3
      have k4 := cell_later hbr k4
      unfold PT.kv at k4
      have hn : fsAltTo (fun i => (T.kid i).fst) (k + 1) = (fun c => (fsAltTo (fun i => (T.kid i).fst) k).1 c || (T.kid k).fst.1 c, (fsAltTo (fun i => (T.kid i).fst) k).2 || (T.kid k).fst.2) := by
        rw [fsAltTo, fsAlt]
      obtain ⟨U, hU⟩ : ∃ U, U = T.kid k := ⟨_, rfl⟩
      have H := hide (fun W (h : Below w.heap.size w W) => ih k hkt W (PT.In.later h (hT.kids hkt)) (hF.kid hkt))
      rw [← hU] at k0 k1 k2 k3 k4 hn H
      obtain ⟨x', hx'⟩ : ∃ x', x' = U.fst := ⟨_, rfl⟩
      rw [← hx'] at hn H
      unfold pv FstPost at H
      obtain ⟨x0, x1⟩ := x'
      dsimp only at H hn
      have HU := hide (fun W => union_says (fsAltTo (fun i => (T.kid i).fst) k).1 x0 W)
      have hC4 := sc_size (fsAltTo (fun i => (T.kid i).fst) k).1
      obtain ⟨C, hC⟩ : ∃ C, C = sc (fsAltTo (fun i => (T.kid i).fst) k).1 := ⟨_, rfl⟩
      have hCi := sc_info (fsAltTo (fun i => (T.kid i).fst) k).1
      obtain ⟨E, hE⟩ : ∃ E, E = sc x0 := ⟨_, rfl⟩
      have hEi := sc_info x0
      have hE4 := sc_size x0
      have hE1 := sc_one x0
      obtain ⟨V, hV⟩ : ∃ V, V = sc (fun c => (fsAltTo (fun i => (T.kid i).fst) k).1 c || x0 c) := ⟨_, rfl⟩
      have hVi := sc_info (fun c => (fsAltTo (fun i => (T.kid i).fst) k).1 c || x0 c)
      have hV4 := sc_size (fun c => (fsAltTo (fun i => (T.kid i).fst) k).1 c || x0 c)
      have hV1 := sc_one (fun c => (fsAltTo (fun i => (T.kid i).fst) k).1 c || x0 c)
      rw [← hC] at HU g0 hCi hC4
      rw [← hE] at HU H hEi hE4 hE1
      rw [← hV] at HU hVi hV4 hV1
      have HI := hide (And.intro hCi (And.intro hEi hVi))
      have HN := hide (And.intro hn hV)
      obtain ⟨n0, hn0⟩ : ∃ n0, n0 = (fsAltTo (fun i => (T.kid i).fst) k).2 := ⟨_, rfl⟩
      rw [← hn0] at HN ⊢
      clear hn0
      have HR := hide (And.intro g0 hbr)
      have hCV : C.size = V.size := hC4.trans hV4.symm
      clear hn hU hx' hT hF ih g0 hbr hx hC hE hV hCi hEi hVi
      go_wp2_with fail
      refine (unhide H _ ((unhide HR).2.alloc (unhide HR).2.size _)).mono ?_
      rintro e w2 ⟨rfl, hb2⟩
      have HM : Hid (Mid w w2.heap.size ((w2.alloc (setO zerosS)).setRow w2.heap.size E) C E) := hide (mid_of (row_below (at_keep3 (unhide HR).1) hb2) (bnext ((unhide HR).2.alloc (unhide HR).2.size _) hb2))
      obtain ⟨W3, hW3⟩ : ∃ W3, W3 = (w2.alloc (setO zerosS)).setRow w2.heap.size E := ⟨_, rfl⟩
      rw [← hW3] at HM
      have HW3 := hide hW3
      clear hb2 hW3 HR k0 k1 k2 k3 k4 hia H hyl
      go_wp2_with (first
        | (refine wpList_store_eq rfl 29 _ _ rfl w2.heap.size E rfl rfl 29 zerosS (at_new rfl) (unhide HI).2.1 hE4.symm hE1 (unhide HW3) ?_)
        | (refine wpList_load_row rfl 29 _ rfl w.heap.size rfl 29 C (0, 0) _ (unhide HM).res Tryd.underlying29 rfl (unhide HI).1 ?_)
        | (refine wpList_load_row rfl 29 _ rfl w2.heap.size rfl 29 E (0, 0) _ (unhide HM).new Tryd.underlying29 rfl (unhide HI).2.1 ?_)
        | fail)
      refine (unhide HU _).mono ?_
      rintro e w4 ⟨rfl, hb4⟩
      have r4 := row_below (unhide HM).res hb4
      have r5 := setRow_heap w4 w.heap.size C V _ _ r4
      have HB5 := hide (below_setRow (bnext (unhide HM).bel hb4) w.heap.size (Nat.le_refl _) V)
      obtain ⟨W5, hW5⟩ : ∃ W5, W5 = w4.setRow w.heap.size V := ⟨_, rfl⟩
      rw [← hW5] at r5 HB5
      have HW5 := hide hW5
      clear hb4 hW5 HM HW3 HU
      have hk1 : wrap64 ((k : Int) + 1) = (k : Int) + 1 := IntWalk.wrap64_in _ (by omega)
      have hk2 : IntKind.i64.wrap ((k : Int) + 1) = (k : Int) + 1 := (IntWalk.i64_left _).trans hk1
      cases n0 with
      | false =>
        go_wp2_with (first
          | (refine wpList_store_eq rfl 29 _ _ rfl w.heap.size V rfl rfl 29 C r4 (unhide HI).2.2 hCV hV1 (unhide HW5) ?_)
          | fail)
        exact ⟨⟨k + 1, hkt, by simp, by rw [(unhide HN).1]; rfl, by rw [(unhide HN).1]; dsimp only; rw [← (unhide HN).2]; exact r5, unhide HB5⟩, unhide HMS⟩
      | true =>
        go_wp2_with (first
          | (refine wpList_store_eq rfl 29 _ _ rfl w.heap.size V rfl rfl 29 C r4 (unhide HI).2.2 hCV hV1 (unhide HW5) ?_)
          | fail)
        exact ⟨⟨k + 1, hkt, by simp, by rw [(unhide HN).1]; rfl, by rw [(unhide HN).1]; dsimp only; rw [← (unhide HN).2]; exact r5, unhide HB5⟩, unhide HMS⟩
    · have hge' : ¬ (k : Int) < (T.len : Int) := by omega
      obtain rfl : k = T.len := by omega
      rw [← hx] at g0 ⊢
      obtain ⟨C, hC⟩ : ∃ C, C = sc x.1 := ⟨_, rfl⟩
      have hCi := sc_info x.1
      have hC1 := sc_one x.1
      rw [← hC] at g0 hCi hC1
      have HI := hide hCi
      have HC := hide hC
      have HB := hide hbr
      clear hx hT hF ih hC hCi hbr
      go_wp2_with (first
        | (refine wpList_load_row rfl 29 _ rfl w.heap.size rfl 29 C (0, 0) _ g0 Tryd.underlying29 rfl (unhide HI) ?_)
        | (refine wpList_store_row rfl 29 _ _ rfl w.heap.size C rfl rfl 29 C g0 (unhide HI) rfl hC1 ?_)
        | fail)
      exact bodyPost_ret (results_set rfl _ _ w.heap.size C rfl (setRow_heap _ _ _ _ _ _ g0) (unhide HI)) rfl ⟨by rw [unhide HC]; rfl, below_setRow (unhide HB) _ (Nat.le_refl _) _⟩
end Go.Proofs.YtjfahpklemohgaaDoor

namespace Go.Proofs.YtjfahpklemohgaaDoor
open Go.RowKit

theorem first_of : ∀ T : PT, FstSays T := PT.ind fun T ih w hT hF => by
  have hk := hF.ok.1
  have ho := hF.ok
  have ht := hT.text
  rcases (show T.k = 1 ∨ T.k = 2 ∨ T.k = 3 ∨ T.k = 4 ∨ T.k = 5 ∨ T.k = 6 ∨ T.k = 7 ∨ T.k = 8 ∨ T.k = 9 ∨ T.k = 10 ∨ T.k = 11 ∨ T.k = 12 ∨ T.k = 13 ∨ T.k = 14 ∨ T.k = 15 ∨ T.k = 16 ∨ T.k = 17 ∨ T.k = 18 ∨ T.k = 19 ∨ T.k = 20 ∨ T.k = 21 ∨ T.k = 22 ∨ T.k = 23 ∨ T.k = 24 by omega) with q | q | q | q | q | q | q | q | q | q | q | q | q | q | q | q | q | q | q | q | q | q | q | q
  · rcases Nat.eq_zero_or_pos T.t.size with h | h
    · refine fst_k1a T q w ?_
      have h : T.t.data.size = 0 := h
      cases hd : T.t with
      | mk d =>
        rw [hd] at h
        have h : d.size = 0 := h
        rw [Array.eq_empty_of_size_eq_zero h]
    · exact fst_k1b T q w h
  · by_cases h : T.n = 0
    · exact fst_k2a T q h w
    · exact fst_k2b T q h w
  · exact fst_k3 T q w ht
  · exact fst_k4 T q w ht
  · exact fst_k5 T q w ht
  · exact fst_k6 T q w ht
  · exact fst_k7 T q w
  · exact fst_k8 T q w
  · exact fst_k9 T q w
  · exact fst_k10 T q w
  · exact fst_k11 T q w
  · exact fst_k12 T q w
  · exact fst_k13 T q w
  · exact fst_k14 T q w
  · exact fst_k15 T q w
  · exact fst_k16 T q w
  · exact fst_k17 T q w
  · exact fst_k18 T q w hT hF (fcat_any T ih)
  · exact fst_k19 T q w hT hF (falt_any T ih)
  · exact fst_k20 T q w hT hF (ih 0 (by have := ho.2.2.2.2 (by omega); omega))
  · exact fst_k21 T q w hT hF (ih 0 (by have := ho.2.2.2.2 (by omega); omega))
  · exact fst_k22 T q w hT hF (ih 0 (by have := ho.2.2.2.2 (by omega); omega))
  · exact fst_k23 T q w
  · exact fst_k24 T q w

/-- What First tells: the bytes, may it be empty, what is wrong. -/
def fstSaid (T : PT) : (Nat → Bool) × Bool × Int := if T.wrong = 0 then (T.fst.1, T.fst.2, 0) else (fun _ => false, false, T.wrong)
theorem results_set3 {fn : Func} {p u v : Tmp} (h : fn.results = #[.cell p 29, .tmp u, .tmp v]) (tmps : Array Value) (w : World) (g : Nat) (cs : Array Value)
    (hp : tmps.getD p undef = .pointer (some ⟨g, 0, none⟩)) (hg : w.heap[g]? = some (.cells cs 29 (0, 0))) (hi : (Tryd.prog.info? 29).map (·.size) = some cs.size) :
    (results fn tmps).run Tryd.prog w = .ok (.tuple #[.agg cs, tmps.getD u undef, tmps.getD v undef]) w := by
  have hp' : tmps[p]?.getD undef = .pointer (some ⟨g, 0, none⟩) := by simpa using hp
  have hl := run_loadVar_row w g 29 29 cs (0, 0) _ hg Tryd.underlying29 rfl hi
  simp only [results, h]
  simp [Result.andThen, hp', asAddr, hl]

set_option maxRecDepth 100000 in
set_option maxHeartbeats 1000000 in
theorem first_any (T : PT) (w : World) (hT : T.In w) (hS : Shapes w) :
    Calls Tryd.prog 5 #[pv T] w fun e w' => e = .returned (.tuple #[.agg (sc (fstSaid T).1), .bool (fstSaid T).2.1, .int .i64 (fstSaid T).2.2]) ∧ Below w.heap.size w w' := by
  have HW := hide (fun W (h : Below w.heap.size w W) => wrong_any T W (PT.In.later h hT) (hS.later h))
  by_cases hq : T.wrong = 0
  · have HF := hide (fun W (h : Below w.heap.size w W) => first_of T W (PT.In.later h hT) (right_of hq).1)
    have he : fstSaid T = (T.fst.1, T.fst.2, 0) := by unfold fstSaid; rw [if_pos hq]
    rw [he]
    rw [hq] at HW
    obtain ⟨x, hx⟩ : ∃ x, x = T.fst := ⟨_, rfl⟩
    rw [← hx] at HF ⊢
    obtain ⟨x0, x1⟩ := x
    unfold FstPost at HF
    dsimp only at HF ⊢
    obtain ⟨D, hD⟩ : ∃ D, D = sc x0 := ⟨_, rfl⟩
    have hDs : D.size = 4 := by rw [hD]; rfl
    have hD1 : D.all (·.oneCell') = true := by rw [hD]; exact sc_one _
    have hiD : (Tryd.prog.info? 29).map (·.size) = some D.size := by rw [hDs]; exact size_set
    have HID := hide hiD
    rw [← hD] at HF ⊢
    unfold pv at HW HF ⊢
    clear hT hS hq he hx hD hiD
    go_enter Tryd.func5, Tryd.ntmps5
    go_wp2_with fail
    refine (unhide HW _ (((Below.refl _ _).alloc (Nat.le_refl _) _).alloc (by simp) _)).mono ?_
    rintro e w1 ⟨rfl, hb1⟩
    have g1 := row_below (at_keep3 (at_new (w := w) (o := .cells #[.int .i64 T.k, .string T.t, .int .i64 T.n, .string T.nm, .slice T.xa T.len T.cap] 25) rfl)) hb1
    have g2 : w1.heap[w.heap.size + 1]? = some (setO zerosS) := row_below (at_new (by simp)) hb1
    have HB := hide (bnext (((Below.refl w.heap.size w).alloc (Nat.le_refl _) _).alloc (by simp) _) hb1)
    obtain ⟨y0, y1, y2, y3, y4⟩ := cells5 g1
    have HG := hide g2
    clear hb1 g1 g2
    go_wp2_with fail
    refine (unhide HF _ (unhide HB)).mono ?_
    rintro e w2 ⟨rfl, hb2⟩
    have r2 := row_below (unhide HG) hb2
    have HB2 := hide (bnext (unhide HB) hb2)
    have r3 := setRow_heap w2 (w.heap.size + 1) zerosS D _ _ r2
    have HB3 := hide (below_setRow (unhide HB2) (w.heap.size + 1) (by omega) D)
    obtain ⟨w3, hw3⟩ : ∃ w3, w3 = w2.setRow (w.heap.size + 1) D := ⟨_, rfl⟩
    rw [← hw3] at r3 HB3
    have HW3 := hide hw3
    clear hw3 hb2 y0 y1 y2 y3 y4
    go_wp2_with (first
      | (refine wpList_store_eq rfl 29 _ _ rfl (w.heap.size + 1) D rfl rfl 29 zerosS r2 (unhide HID) hDs.symm hD1 (unhide HW3) ?_)
      | (refine wpList_load_row rfl 29 _ rfl (w.heap.size + 1) rfl 29 D (0, 0) _ r3 Tryd.underlying29 rfl (unhide HID) ?_)
      | (refine wpList_store_row rfl 29 _ _ rfl (w.heap.size + 1) D rfl rfl 29 D r3 (unhide HID) rfl hD1 ?_)
      | fail)
    (try simp only [Exit.inBlock, Exit.then])
    exact bodyPost_ret (results_set3 rfl _ _ (w.heap.size + 1) D rfl (setRow_heap _ _ _ _ _ _ r3) (unhide HID)) rfl ⟨rfl, below_setRow (unhide HB3) _ (by omega) _⟩
  · have he : fstSaid T = (fun _ => false, false, T.wrong) := by unfold fstSaid; rw [if_neg hq]
    rw [he]
    unfold pv at HW ⊢
    obtain ⟨e0, h0⟩ : ∃ e0, e0 = T.wrong := ⟨_, rfl⟩
    rw [← h0] at HW hq ⊢
    have hne : (e0 == 0) = false := by rw [beq_eq_false_iff_ne]; exact hq
    have hne' : (e0 != 0) = true := by rw [bne_iff_ne]; exact hq
    clear hT hS he h0
    dsimp only
    rw [← zerosS_eq]
    go_enter Tryd.func5, Tryd.ntmps5
    go_wp2_with fail
    refine (unhide HW _ (((Below.refl _ _).alloc (Nat.le_refl _) _).alloc (by simp) _)).mono ?_
    rintro e w1 ⟨rfl, hb1⟩
    have g2 : w1.heap[w.heap.size + 1]? = some (setO zerosS) := row_below (at_new (by simp)) hb1
    have HB := hide (bnext (((Below.refl w.heap.size w).alloc (Nat.le_refl _) _).alloc (by simp) _) hb1)
    clear hb1
    go_wp2_with (first
      | (refine wpList_store_row rfl 29 _ _ rfl (w.heap.size + 1) zerosS rfl rfl 29 zerosS g2 zerosS_info rfl zerosS_one ?_)
      | fail)
    (try simp only [Exit.inBlock, Exit.then])
    exact bodyPost_ret (results_set3 rfl _ _ (w.heap.size + 1) zerosS rfl (setRow_heap _ _ _ _ _ _ g2) zerosS_info) rfl ⟨rfl, below_setRow (unhide HB) _ (by omega) _⟩
end Go.Proofs.YtjfahpklemohgaaDoor
