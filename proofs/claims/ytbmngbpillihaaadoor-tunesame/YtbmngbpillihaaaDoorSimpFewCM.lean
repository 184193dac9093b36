/- One kid more: the function that tune.fewer makes, with the one ahead. What tune.fewer hands back, of pieces. -/
import Derived.Test.YtbmngbpillihaaaDoorSimpOnePM
import Derived.Test.YtbmngbpillihaaaDoorSimpAddC1P
import Derived.Test.YtbmngbpillihaaaDoorSimpAddC2P
namespace Go.Proofs.YtbmngbpillihaaaDoor
open Go.RowKit

set_option maxRecDepth 100000 in
set_option maxHeartbeats 4000000 in
theorem add_joinC (p : PT) (w : World) (B zs zO zj zo zi zl : Nat) (ov : Bool) (v : Value) (l : List PT) (h : FewAt w B zs zO zj zo zi zl 78 49 79 ov v l) (x : PT) (hl0 : 0 < l.length) (hl1 : l.length ≤ 100000) (hx : l[l.length - 1]? = some x) (y : PT) (hJ : ∀ W, Calls Tryd.prog 79 #[pv x, pv p] W fun e w' => e = .returned (joinV (some y)) ∧ Below W.heap.size W w') (hst : (ov || isE p) = false) :
    Calls Tryd.prog 101 #[pv p, .pointer (some ⟨zs, 0, none⟩), .pointer (some ⟨zO, 0, none⟩), .pointer (some ⟨zj, 0, none⟩)] w (PutPost B zs zO zj zo zi zl 78 49 79 (nev p) (l.set (l.length - 1) y) w) := by
  have hb0 : Below w.heap.size w (w.alloc (.cells #[.int .i64 p.k, .string p.t, .int .i64 p.n, .string p.nm, .slice p.xa p.len p.cap] 24)) := (Below.refl _ _).alloc (Nat.le_refl _) _
  have cs := cell_later hb0 (box1_cell h.bs)
  have HST := hide (stays_cat p ov zo zi zl _ _ _ (row_below h.bo hb0) (row_below h.bi hb0) (row_below h.bl hb0))
  have HH := hide (And.intro (h.later hb0) (And.intro (hb0.mono h.low.2.2) (at_new (w := w) (o := .cells #[.int .i64 p.k, .string p.t, .int .i64 p.n, .string p.nm, .slice p.xa p.len p.cap] 24) rfl)))
  have HB := hide h.low.2.2
  have HI := hide info_pat
  have HJ := hide hJ
  clear hJ
  unfold joinV pv zeroP leafO at HJ
  unfold pv at HST ⊢
  unfold stV at cs
  clear h hb0
  rw [hst, if_neg (by decide)] at HST
  clear hst
  go_enter Tryd.func101, Tryd.ntmps101
  go_wp2_with fail
  refine (unhide HST).mono ?_
  rintro e w1 ⟨rfl, hb1, ho1⟩
  have hF := (unhide HH).1.over hb1 ho1
  have hk := hb1.row (ne_box (unhide HH).2.2 (unhide HH).1.bo (by decide)) (unhide HH).2.2
  have HF := hide (And.intro hF (And.intro (below_butB (unhide HH).2.1 hb1 (unhide HB) (unhide HH).1.low.2.1) hk))
  obtain ⟨y0, y1, y2, y3, y4⟩ := pats5s hk
  obtain ⟨av, cv, hv, -, -⟩ := hF.row.len
  subst hv
  have cO := box1_cell hF.bO
  have fO := box1_free hF.bO
  have hsz := hF.low.2.2
  have q0 : (1 : Int) ≤ (l.length : Int) := by omega
  obtain ⟨g0, cp, hv0, -, -⟩ := hF.row.form (by intro h; rw [h] at hl0; simp at hl0)
  injection hv0 with hv1 hv2 hv3
  subst hv1 hv3
  obtain ⟨x0, x1, x2, x3, x4⟩ := row_five hF.row rfl hx
  have cj := box1_cell hF.bj
  unfold fnV at cj
  have hix := idx_run (g := g0) (cap := cv) (i := l.length - 1) (n := l.length) Tryd.underlying22 size_pat (by omega)
  rw [show ((l.length - 1 : Nat) : Int) = (l.length : Int) - 1 by omega] at hix
  generalize hm : l.length - 1 = m at *
  have HMM := hide hm
  have HK := hide (show ∀ w', Below w1.heap.size w1 w' → (w'.cell? ⟨zj, 0, none⟩ = some (.func (.func 79) #[] #[]) ∧ w'.cell? ⟨zO, 0, none⟩ = some (.slice (some ⟨g0, 0, none⟩) l.length cv) ∧ w'.cell? ⟨g0, m * 5, none⟩ = some (.int .i64 x.k) ∧ w'.cell? ⟨g0, m * 5 + 1, none⟩ = some (.string x.t) ∧ w'.cell? ⟨g0, m * 5 + 2, none⟩ = some (.int .i64 x.n) ∧ w'.cell? ⟨g0, m * 5 + 3, none⟩ = some (.string x.nm) ∧ w'.cell? ⟨g0, m * 5 + 4, none⟩ = some (.slice x.xa x.len x.cap) ∧ w'.cell? ⟨w.heap.size, 0, none⟩ = some (.int .i64 p.k) ∧ w'.cell? ⟨w.heap.size, 1, none⟩ = some (.string p.t) ∧ w'.cell? ⟨w.heap.size, 2, none⟩ = some (.int .i64 p.n) ∧ w'.cell? ⟨w.heap.size, 3, none⟩ = some (.string p.nm) ∧ w'.cell? ⟨w.heap.size, 4, none⟩ = some (.slice p.xa p.len p.cap)) from fun w' hB => ⟨cell_later hB cj, cell_later hB cO, cell_later hB x0, cell_later hB x1, cell_later hB x2, cell_later hB x3, cell_later hB x4, cell_later hB y0, cell_later hB y1, cell_later hB y2, cell_later hB y3, cell_later hB y4⟩)
  have HX := hide hx
  have HM := hide (show m < l.length by omega)
  clear hb1 ho1 cs hF hk HST HH hl0 hm hx hv2
  go_wp2_with fail
  have hA : Below w1.heap.size w1 w1.drew := (Below.refl _ _).drew
  go_region_held3 (fun w' => w'.cell? ⟨zj, 0, none⟩ = some (.func (.func 79) #[] #[]) ∧ w'.cell? ⟨zO, 0, none⟩ = some (.slice (some ⟨g0, 0, none⟩) l.length cv) ∧ w'.cell? ⟨g0, m * 5, none⟩ = some (.int .i64 x.k) ∧ w'.cell? ⟨g0, m * 5 + 1, none⟩ = some (.string x.t) ∧ w'.cell? ⟨g0, m * 5 + 2, none⟩ = some (.int .i64 x.n) ∧ w'.cell? ⟨g0, m * 5 + 3, none⟩ = some (.string x.nm) ∧ w'.cell? ⟨g0, m * 5 + 4, none⟩ = some (.slice x.xa x.len x.cap) ∧ w'.cell? ⟨w.heap.size, 0, none⟩ = some (.int .i64 p.k) ∧ w'.cell? ⟨w.heap.size, 1, none⟩ = some (.string p.t) ∧ w'.cell? ⟨w.heap.size, 2, none⟩ = some (.int .i64 p.n) ∧ w'.cell? ⟨w.heap.size, 3, none⟩ = some (.string p.nm) ∧ w'.cell? ⟨w.heap.size, 4, none⟩ = some (.slice p.xa p.len p.cap))
    ((refine unhide HK _ ?_; first | (with_reducible exact hA) | (with_reducible exact ((Below.refl _ _).alloc (Nat.le_refl _) _).drew) | (with_reducible exact hA.alloc hA.size _) | (with_reducible exact ((((hA.setCell (Nat.le_refl _) _).setCell (Nat.le_refl _) _).setCell (Nat.le_refl _) _).setCell (Nat.le_refl _) _).setCell (Nat.le_refl _) _)))
    (((with_reducible refine (unhide HJ _).mono ?_); rintro e w2 ⟨rfl, hb2⟩; (first | (have zb := zero_row (w := w1) (by with_reducible exact hb2); have zz := zero_later (w := w1) (by with_reducible exact hb2); obtain ⟨⟨z0, z1, z2, z3, z4⟩, zf⟩ := zz; have hA := bnext (((Below.refl w1.heap.size w1).alloc (Nat.le_refl _) _).drew) hb2) | (have hA := bnext hA hb2)); clear hb2))
  all_goals rename_i hHeld
  · have hbc : Below w1.heap.size w1 (w2.alloc (.cells #[.int .i64 y.k, .string y.t, .int .i64 y.n, .string y.nm, .slice y.xa y.len y.cap] 24)) := hA.alloc hA.size _
    have hbx : (w2.alloc (.cells #[.int .i64 y.k, .string y.t, .int .i64 y.n, .string y.nm, .slice y.xa y.len y.cap] 24)).heap[w2.heap.size]? = some (.cells #[.int .i64 y.k, .string y.t, .int .i64 y.n, .string y.nm, .slice y.xa y.len y.cap] 24 (0, 0)) := at_new rfl
    generalize (w2.alloc (.cells #[.int .i64 y.k, .string y.t, .int .i64 y.n, .string y.nm, .slice y.xa y.len y.cap] 24)) = wc at *
    have HFc := hide (And.intro ((unhide HF).1.later hbc) ((unhide HF).2.1.trans (hbc.mono (unhide HF).1.low.2.2)))
    obtain ⟨r0, r1, r2, r3, r4⟩ := pats5s hbx
    have uO := box1_cell (unhide HFc).1.bO
    obtain ⟨x0, x1, x2, x3, x4⟩ := row_five (unhide HFc).1.row rfl (unhide HX)
    have xf := fun o => (unhide HFc).1.row.frozen rfl o
    have HD := hide (join_done y (unhide HFc).1 (unhide HFc).2 (unhide HB) (unhide HM))
    clear hbc hA hHeld y0 y1 y2 y3 y4 cO fO hsz cj HK hbx
    go_wp2_with fail
    go_end0
    with_reducible exact put_post (unhide HD).1 (unhide HD).2
  · have hbc : Below w1.heap.size w1 (((((w2.setCell ⟨w1.heap.size, 0, none⟩ (.int .i64 y.k)).setCell ⟨w1.heap.size, 1, none⟩ (.string y.t)).setCell ⟨w1.heap.size, 2, none⟩ (.int .i64 y.n)).setCell ⟨w1.heap.size, 3, none⟩ (.string y.nm)).setCell ⟨w1.heap.size, 4, none⟩ (.slice y.xa y.len y.cap)) := ((((hA.setCell (Nat.le_refl _) _).setCell (Nat.le_refl _) _).setCell (Nat.le_refl _) _).setCell (Nat.le_refl _) _).setCell (Nat.le_refl _) _
    have hbx : (((((w2.setCell ⟨w1.heap.size, 0, none⟩ (.int .i64 y.k)).setCell ⟨w1.heap.size, 1, none⟩ (.string y.t)).setCell ⟨w1.heap.size, 2, none⟩ (.int .i64 y.n)).setCell ⟨w1.heap.size, 3, none⟩ (.string y.nm)).setCell ⟨w1.heap.size, 4, none⟩ (.slice y.xa y.len y.cap)).heap[w1.heap.size]? = some (.cells #[.int .i64 y.k, .string y.t, .int .i64 y.n, .string y.nm, .slice y.xa y.len y.cap] 24 (0, 0)) := five_set (w := w2) zb
    generalize (((((w2.setCell ⟨w1.heap.size, 0, none⟩ (.int .i64 y.k)).setCell ⟨w1.heap.size, 1, none⟩ (.string y.t)).setCell ⟨w1.heap.size, 2, none⟩ (.int .i64 y.n)).setCell ⟨w1.heap.size, 3, none⟩ (.string y.nm)).setCell ⟨w1.heap.size, 4, none⟩ (.slice y.xa y.len y.cap)) = wc at *
    have HFc := hide (And.intro ((unhide HF).1.later hbc) ((unhide HF).2.1.trans (hbc.mono (unhide HF).1.low.2.2)))
    obtain ⟨r0, r1, r2, r3, r4⟩ := pats5s hbx
    have uO := box1_cell (unhide HFc).1.bO
    obtain ⟨x0, x1, x2, x3, x4⟩ := row_five (unhide HFc).1.row rfl (unhide HX)
    have xf := fun o => (unhide HFc).1.row.frozen rfl o
    have HD := hide (join_done y (unhide HFc).1 (unhide HFc).2 (unhide HB) (unhide HM))
    clear hbc hA hHeld y0 y1 y2 y3 y4 cO fO hsz cj HK hbx
    go_wp2_with fail
    go_end0
    with_reducible exact put_post (unhide HD).1 (unhide HD).2
end Go.Proofs.YtbmngbpillihaaaDoor

namespace Go.Proofs.YtbmngbpillihaaaDoor
open Go.RowKit

set_option maxRecDepth 100000 in
set_option maxHeartbeats 4000000 in
theorem add_skipC (p : PT) (w : World) (B zs zO zj zo zi zl : Nat) (ov : Bool) (v : Value) (l : List PT) (h : FewAt w B zs zO zj zo zi zl 78 49 79 ov v l) (hst : (ov || isE p) = true) :
    Calls Tryd.prog 101 #[pv p, .pointer (some ⟨zs, 0, none⟩), .pointer (some ⟨zO, 0, none⟩), .pointer (some ⟨zj, 0, none⟩)] w (PutPost B zs zO zj zo zi zl 78 49 79 ov l w) := by
  have hb0 : Below w.heap.size w (w.alloc (.cells #[.int .i64 p.k, .string p.t, .int .i64 p.n, .string p.nm, .slice p.xa p.len p.cap] 24)) := (Below.refl _ _).alloc (Nat.le_refl _) _
  have cs := cell_later hb0 (box1_cell h.bs)
  have HST := hide (stays_cat p ov zo zi zl _ _ _ (row_below h.bo hb0) (row_below h.bi hb0) (row_below h.bl hb0))
  have HH := hide (And.intro (h.later hb0) (hb0.mono h.low.2.2))
  have HB := hide h.low.2.2
  unfold pv at HST ⊢
  unfold stV at cs
  clear h hb0
  rw [hst, if_pos rfl] at HST
  clear hst
  go_enter Tryd.func101, Tryd.ntmps101
  go_wp2_with fail
  refine (unhide HST).mono ?_
  rintro e w1 ⟨rfl, hb1, ho1⟩
  have HF := hide (And.intro ((unhide HH).1.over hb1 ho1) (below_butB (unhide HH).2 hb1 (unhide HB) (unhide HH).1.low.2.1))
  clear hb1 ho1 cs
  go_wp2_with fail
  go_end0
  with_reducible exact put_post (unhide HF).1 (unhide HF).2
theorem add_anyC (p : PT) (w : World) (B zs zO zj zo zi zl : Nat) (s : Bool × List PT) (v : Value) (h : FewAt w B zs zO zj zo zi zl 78 49 79 s.1 v s.2) (hl : s.2.length ≤ 100000) (hp : Fine5 p) (hf : ∀ x ∈ s.2, Fine5 x) :
    Calls Tryd.prog 101 #[pv p, .pointer (some ⟨zs, 0, none⟩), .pointer (some ⟨zO, 0, none⟩), .pointer (some ⟨zj, 0, none⟩)] w (PutPost B zs zO zj zo zi zl 78 49 79 (stp nev isE behindP s p).1 (stp nev isE behindP s p).2 w) := by
  obtain ⟨ov, l⟩ := s
  dsimp only at h hl hf
  unfold stp
  cases hst : (ov || isE p) with
  | true => rw [if_pos rfl]; exact add_skipC p w B zs zO zj zo zi zl ov v l h hst
  | false =>
    rw [if_neg (by decide)]
    dsimp only
    by_cases h0 : l.length = 0
    · have := add_nilC p w B zs zO zj zo zi zl ov v l h h0 hst
      rw [List.eq_nil_of_length_eq_zero h0] at this ⊢
      exact this
    · obtain ⟨x, hx, hx2⟩ := last_at (l := l) (by omega)
      have hxm : x ∈ l := List.mem_of_getElem? hx
      have hJ := fun W => behind_any x p W (hf x hxm).1 hp.1 ⟨by have := (hf x hxm).2.1; omega, (hf x hxm).2.2⟩ ⟨by have := hp.2.1; omega, hp.2.2⟩
      unfold addP
      rw [hx2]
      dsimp only
      cases hy : behindP x p with
      | none =>
        rw [hy] at hJ
        exact add_oneC p w B zs zO zj zo zi zl ov v l h x (by omega) hl hx hJ hst
      | some y =>
        rw [hy] at hJ
        dsimp only
        rw [← set_lastP l y (by omega)]
        exact add_joinC p w B zs zO zj zo zi zl ov v l h x (by omega) hl hx y hJ hst
def FewPostC (K : PT) (W0 : World) (e : Ending) (w' : World) : Prop := ∃ v, e = .returned v ∧ Row w' W0.heap.size 24 5 five v (fewP 18 nev isE behindP K.lst) ∧ Below W0.heap.size W0 w'
theorem few_endC {K : PT} {W0 w' : World} {v : Value} {l : List PT} {ov : Bool} (h : (ov, l) = (flatK 18 K.lst).foldl (stp nev isE behindP) (false, [])) (hr : Row w' W0.heap.size 24 5 five v l) (hb : Below W0.heap.size W0 w') : FewPostC K W0 (.returned v) w' :=
  ⟨v, rfl, by rw [few_fold, ← h]; exact hr, hb⟩
theorem flat_takeC (K : PT) {k : Nat} (hk : k < K.len) : flatK 18 (K.lst.take (k + 1)) = flatK 18 (K.lst.take k) ++ (if (K.kid k).k = 18 then (K.kid k).lst else [K.kid k]) := by
  have h := PT.lst_at hk
  have hl : k < K.lst.length := by rw [PT.lst_len]; exact hk
  have e : K.lst[k] = K.kid k := by rw [List.getElem?_eq_getElem hl] at h; exact Option.some.inj h
  unfold flatK
  rw [List.take_succ_eq_append_getElem hl, List.flatMap_append, e]
  simp
theorem mem_flatC (K : PT) {k : Nat} (hk : k < K.len) {x : PT} (h : x ∈ (if (K.kid k).k = 18 then (K.kid k).lst else [K.kid k])) : x ∈ flatK 18 K.lst := by
  unfold flatK
  rw [List.mem_flatMap]
  exact ⟨K.kid k, List.mem_of_getElem? (PT.lst_at hk), h⟩
set_option maxRecDepth 100000 in
set_option maxHeartbeats 4000000 in
theorem fewerC (K : PT) (W0 w : World) (zo zi zl : Nat) (hK : K.In W0) (hb : Below W0.heap.size W0 w) (hzo : W0.heap.size ≤ zo) (bo : w.heap[zo]? = some (box1 (.bool false) 4)) (bi : w.heap[zi]? = some (box1 (fnV 78) 36)) (bl : w.heap[zl]? = some (box1 (fnV 49) 36))
    (hc : (flatK 18 K.lst).length ≤ 90000) (hF : ∀ x ∈ flatK 18 K.lst, Fine5 x) :
    Calls Tryd.prog 76 #[.int .i64 18, .slice K.xa K.len K.cap, stV zo zi zl, fnV 79] w (FewPostC K W0) := by
  have hmax := hK.max
  unfold maxLen at hmax
  have HK := hide (And.intro hK (And.intro hb (And.intro hc hF)))
  have e1 : Below w.heap.size w (((w.alloc (box1 (stV zo zi zl) 36)).alloc (box1 (fnV 79) 108)).alloc (box1 (.slice none 0 0) 22)) := below3 w _ _ _
  have HS := hide (show FewAt (((w.alloc (box1 (stV zo zi zl) 36)).alloc (box1 (fnV 79) 108)).alloc (box1 (.slice none 0 0) 22)) W0.heap.size w.heap.size (w.heap.size + 1 + 1) (w.heap.size + 1) zo zi zl 78 49 79 false (.slice none 0 0) [] from
    ⟨at_old (by simp only [World.size_alloc]; omega) (at_old (by simp only [World.size_alloc]; omega) (at_new rfl)), at_new (by simp only [World.size_alloc]), at_old (by simp only [World.size_alloc]; omega) (at_new (by simp only [World.size_alloc])), row_below bo e1, row_below bi e1, row_below bl e1, World.ownsRow_nil _ _ _ 5, by have := hb.size; omega, hzo, by have := hb.size; simp only [World.size_alloc]; omega⟩)
  have HB := hide (hb.trans (e1.mono hb.size))
  unfold box1 stV fnV at HS HB
  unfold stV fnV
  clear hK hb hzo bo bi bl hc hF e1
  go_enter Tryd.func76, Tryd.ntmps76
  go_wp2_with fail
  generalize (((w.alloc (.cells #[.func (.func 102) #[] #[.pointer (some ⟨zo, 0, none⟩), .pointer (some ⟨zi, 0, none⟩), .pointer (some ⟨zl, 0, none⟩)]] 36)).alloc (.cells #[.func (.func 79) #[] #[]] 108)).alloc (.cells #[.slice none 0 0] 22)) = W1 at *
  generalize w.heap.size = N at *
  go_loopw [18] (fun x wr => ∃ (k : Nat) (s : Bool × List PT) (v : Value), k ≤ K.len ∧ x = .int .i64 (k : Int) ∧ Hid (FewAt wr W0.heap.size N (N + 1 + 1) (N + 1) zo zi zl 78 49 79 s.1 v s.2) ∧ Hid (Below W0.heap.size W0 wr) ∧ Hid (s = (flatK 18 (K.lst.take k)).foldl (stp nev isE behindP) (false, [])) ∧ Hid (∀ x ∈ s.2, Fine5 x)) (fun x _ => K.len - (intOf x).toNat)
  case atStart => exact ⟨0, (false, []), .slice none 0 0, Nat.zero_le _, rfl, unhide HS, unhide HB, rfl, fun x hx => by cases hx⟩
  case round =>
    obtain ⟨k, s, v, hk, rfl, HF, HBr, HE, HFi⟩ := hrel
    rcases Nat.lt_or_ge k K.len with hlt | hge
    · have g1 : (k : Int) < (K.len : Int) := by omega
      obtain ⟨k0, k1, k2, k3, k4⟩ := (unhide HK).1.cells hlt
      have k0 := cell_later (unhide HBr) k0
      have k1 := cell_later (unhide HBr) k1
      have k2 := cell_later (unhide HBr) k2
      have k3 := cell_later (unhide HBr) k3
      have k4 := cell_later (unhide HBr) k4
      unfold PT.kv at k4
      have hia := kid_at (unhide HK).1 hlt
      have HFl := hide (flat_takeC K hlt)
      have HMem := hide (fun x => mem_flatC K hlt (x := x))
      have HTI := hide ((unhide HK).1.kids hlt)
      have HLn := hide (Nat.le_trans (flat_le 18 K.lst (k + 1)) (unhide HK).2.2.1)
      generalize K.kid k = T at *
      have HAl := hide ((Below.refl wr.heap.size wr).alloc (Nat.le_refl _) (.cells #[.int .i64 T.k, .string T.t, .int .i64 T.n, .string T.nm, .slice T.xa T.len T.cap] 24))
      by_cases hkk : T.k = 18
      · rw [if_pos hkk] at HFl HMem
        have q1 : (T.k != 18) = false := by rw [hkk]; rfl
        have hmaxT := (unhide HTI).max
        unfold maxLen at hmaxT
        clear hkk
        go_wp2_with fail
        have HF2 := hide ((unhide HF).later (unhide HAl))
        have HB2 := hide ((unhide HBr).trans ((unhide HAl).mono (unhide HBr).size))
        generalize wr.alloc (.cells #[.int .i64 T.k, .string T.t, .int .i64 T.n, .string T.nm, .slice T.xa T.len T.cap] 24) = wo at *
        clear HF HBr k0 k1 k2 k3 k4 hia HAl
        go_loopw [32] (fun y wr => ∃ (j : Nat) (s2 : Bool × List PT) (v2 : Value), j ≤ T.len ∧ y = .int .i64 (j : Int) ∧ Hid (FewAt wr W0.heap.size N (N + 1 + 1) (N + 1) zo zi zl 78 49 79 s2.1 v2 s2.2) ∧ Hid (Below W0.heap.size W0 wr) ∧ Hid (s2 = (flatK 18 (K.lst.take k) ++ T.lst.take j).foldl (stp nev isE behindP) (false, [])) ∧ Hid (∀ x ∈ s2.2, Fine5 x)) (fun y _ => T.len - (intOf y).toNat)
        case atStart => exact ⟨0, s, v, Nat.zero_le _, rfl, HF2, HB2, by rw [List.take_zero, List.append_nil]; exact HE, HFi⟩
        case round =>
          obtain ⟨j, s2, v2, hj, rfl, HF3, HB3, HE3, HFi3⟩ := hrel
          rcases Nat.lt_or_ge j T.len with hjt | hjt
          · have g2 : (j : Int) < (T.len : Int) := by omega
            obtain ⟨k0, k1, k2, k3, k4⟩ := (unhide HTI).cells hjt
            have k0 := cell_later (unhide HB3) k0
            have k1 := cell_later (unhide HB3) k1
            have k2 := cell_later (unhide HB3) k2
            have k3 := cell_later (unhide HB3) k3
            have k4 := cell_later (unhide HB3) k4
            unfold PT.kv at k4
            have hia := kid_at (unhide HTI) hjt
            have hmem := PT.lst_at hjt
            have hlj : j < T.lst.length := by rw [PT.lst_len]; exact hjt
            have hgj : T.lst[j] = T.kid j := by rw [List.getElem?_eq_getElem hlj] at hmem; exact Option.some.inj hmem
            have HN3 := hide (show stp nev isE behindP s2 (T.kid j) = (flatK 18 (K.lst.take k) ++ T.lst.take (j + 1)).foldl (stp nev isE behindP) (false, []) by rw [List.take_succ_eq_append_getElem hlj, ← List.append_assoc, List.foldl_append, ← unhide HE3, hgj]; rfl)
            have hsl : s2.2.length ≤ 90000 := by
              have h1 := fold_len nev isE behindP (flatK 18 (K.lst.take k) ++ T.lst.take j) (false, [])
              rw [← unhide HE3] at h1
              have h2 := unhide HLn
              rw [unhide HFl] at h2
              simp only [List.length_append, List.length_take, List.length_nil] at h1 h2
              omega
            have hfk : Fine5 (T.kid j) := (unhide HK).2.2.2 _ (unhide HMem _ (by rw [← hgj]; exact List.getElem_mem hlj))
            have HC := hide (add_anyC (T.kid j) _ _ _ _ _ _ _ _ s2 v2 ((unhide HF3).later ((Below.refl wr.heap.size wr).alloc (Nat.le_refl _) (.cells #[.int .i64 (T.kid j).k, .string (T.kid j).t, .int .i64 (T.kid j).n, .string (T.kid j).nm, .slice (T.kid j).xa (T.kid j).len (T.kid j).cap] 24))) (by omega) hfk (unhide HFi3))
            have HFi4 := hide (stp_fine (last := nev) (idle := isE) (join := behindP) behind_fine (unhide HFi3) hfk)
            have HAl2 := hide ((Below.refl wr.heap.size wr).alloc (Nat.le_refl _) (.cells #[.int .i64 (T.kid j).k, .string (T.kid j).t, .int .i64 (T.kid j).n, .string (T.kid j).nm, .slice (T.kid j).xa (T.kid j).len (T.kid j).cap] 24))
            clear hmem hgj hsl hfk
            generalize T.kid j = P at *
            unfold pv at HC
            go_wp2_with fail
            refine (unhide HC).mono ?_
            rintro e w3 ⟨rfl, v3, hf3, hb3⟩
            have HF5 := hide hf3
            have HB5 := hide (bel_trans3 (unhide HB3) (unhide HAl2) hb3)
            clear hf3 hb3 k0 k1 k2 k3 k4 hia
            go_wp2_with fail
            exact ⟨⟨j + 1, _, v3, by omega, rfl, HF5, HB5, HN3, HFi4⟩, by simp [intOf]; omega⟩
          · obtain rfl : j = T.len := by omega
            have HE4 := hide (show s2 = (flatK 18 (K.lst.take (k + 1))).foldl (stp nev isE behindP) (false, []) by rw [unhide HFl, unhide HE3, ← PT.lst_len, List.take_length])
            go_wp2_with fail
            exact ⟨⟨k + 1, s2, v2, by omega, rfl, HF3, HB3, HE4, HFi3⟩, by simp [intOf]; omega⟩
      · rw [if_neg hkk] at HFl HMem
        have q1 : (T.k != 18) = true := by rw [bne_iff_ne]; exact hkk
        have HN3 := hide (show stp nev isE behindP s T = (flatK 18 (K.lst.take (k + 1))).foldl (stp nev isE behindP) (false, []) by rw [unhide HFl, List.foldl_append, ← unhide HE]; rfl)
        have hsl : s.2.length ≤ 90000 := by
          have h1 := fold_len nev isE behindP (flatK 18 (K.lst.take k)) (false, [])
          rw [← unhide HE] at h1
          have h2 := unhide HLn
          rw [unhide HFl] at h2
          simp only [List.length_append, List.length_nil, List.length_cons] at h1 h2
          omega
        have hfk : Fine5 T := (unhide HK).2.2.2 _ (unhide HMem _ (List.mem_singleton.2 rfl))
        have HC := hide (add_anyC T _ _ _ _ _ _ _ _ s v ((unhide HF).later (unhide HAl)) (by omega) hfk (unhide HFi))
        have HFi4 := hide (stp_fine (last := nev) (idle := isE) (join := behindP) behind_fine (unhide HFi) hfk)
        clear hsl hfk hkk
        unfold pv at HC
        go_wp2_with fail
        refine (unhide HC).mono ?_
        rintro e w3 ⟨rfl, v3, hf3, hb3⟩
        have HF5 := hide hf3
        have HB5 := hide (bel_trans3 (unhide HBr) (unhide HAl) hb3)
        clear hf3 hb3 k0 k1 k2 k3 k4 hia
        go_wp2_with fail
        exact ⟨⟨k + 1, _, v3, by omega, rfl, HF5, HB5, HN3, HFi4⟩, by simp [intOf]; omega⟩
    · obtain rfl : k = K.len := by omega
      have cO := box1_cell (unhide HF).bO
      have HE4 := hide (show (s.1, s.2) = (flatK 18 K.lst).foldl (stp nev isE behindP) (false, []) by have h := unhide HE; rw [← PT.lst_len, List.take_length] at h; exact h)
      go_wp2_with fail
      go_ret
      exact few_endC (unhide HE4) (unhide HF).row (unhide HBr)
end Go.Proofs.YtbmngbpillihaaaDoor
