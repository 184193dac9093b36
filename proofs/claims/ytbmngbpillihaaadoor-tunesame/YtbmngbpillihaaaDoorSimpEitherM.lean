/- One kid more: the function that tune.fewer makes, with the one ahead. Two of which either may match: what tune.either makes of them. -/
import Derived.Test.YtbmngbpillihaaaDoorSimpOnePM
import Derived.Test.YtbmngbpillihaaaDoorSimpWalkBP
import Derived.Test.YtbmngbpillihaaaDoorSimpQuickM
import Derived.Test.YtbmngbpillihaaaDoorScanHasM
import Derived.Test.YtbmngbpillihaaaDoorWords5M
import Derived.Deep.RegionHeld3
namespace Go.Proofs.YtbmngbpillihaaaDoor
open Go.RowKit

set_option maxRecDepth 100000 in
set_option maxHeartbeats 4000000 in
theorem add_joinA (p : PT) (w : World) (B zs zO zj zo zi zl : Nat) (ov : Bool) (v : Value) (l : List PT) (h : FewAt w B zs zO zj zo zi zl 81 80 82 ov v l) (x : PT) (hl0 : 0 < l.length) (hl1 : l.length ≤ 100000) (hx : l[l.length - 1]? = some x) (y : PT) (hJ : ∀ W, Calls Tryd.prog 82 #[pv x, pv p] W fun e w' => e = .returned (joinV (some y)) ∧ Below W.heap.size W w') (hst : (ov || isF p) = false) :
    Calls Tryd.prog 101 #[pv p, .pointer (some ⟨zs, 0, none⟩), .pointer (some ⟨zO, 0, none⟩), .pointer (some ⟨zj, 0, none⟩)] w (PutPost B zs zO zj zo zi zl 81 80 82 (isA p) (l.set (l.length - 1) y) w) := by
  have hb0 : Below w.heap.size w (w.alloc (.cells #[.int .i64 p.k, .string p.t, .int .i64 p.n, .string p.nm, .slice p.xa p.len p.cap] 24)) := (Below.refl _ _).alloc (Nat.le_refl _) _
  have cs := cell_later hb0 (box1_cell h.bs)
  have HST := hide (stays_alt p ov zo zi zl _ _ _ (row_below h.bo hb0) (row_below h.bi hb0) (row_below h.bl hb0))
  have HH := hide (And.intro (h.later hb0) (And.intro (hb0.mono h.low.2.2) (at_new (w := w) (o := .cells #[.int .i64 p.k, .string p.t, .int .i64 p.n, .string p.nm, .slice p.xa p.len p.cap] 24) rfl)))
  have HB := hide h.low.2.2
  have HI := hide info_pat
  have HJ := hide hJ
  clear hJ
  unfold joinV pv zeroP leafO at HJ
  unfold pv at HST ⊢
  unfold stV at cs
  clear h hb0
  rw [hst, if_neg (by decide)] at HST
  clear hst
  go_enter Tryd.func101, Tryd.ntmps101
  go_wp2_with fail
  refine (unhide HST).mono ?_
  rintro e w1 ⟨rfl, hb1, ho1⟩
  have hF := (unhide HH).1.over hb1 ho1
  have hk := hb1.row (ne_box (unhide HH).2.2 (unhide HH).1.bo (by decide)) (unhide HH).2.2
  have HF := hide (And.intro hF (And.intro (below_butB (unhide HH).2.1 hb1 (unhide HB) (unhide HH).1.low.2.1) hk))
  obtain ⟨y0, y1, y2, y3, y4⟩ := pats5s hk
  obtain ⟨av, cv, hv, -, -⟩ := hF.row.len
  subst hv
  have cO := box1_cell hF.bO
  have fO := box1_free hF.bO
  have hsz := hF.low.2.2
  have q0 : (1 : Int) ≤ (l.length : Int) := by omega
  obtain ⟨g0, cp, hv0, -, -⟩ := hF.row.form (by intro h; rw [h] at hl0; simp at hl0)
  injection hv0 with hv1 hv2 hv3
  subst hv1 hv3
  obtain ⟨x0, x1, x2, x3, x4⟩ := row_five hF.row rfl hx
  have cj := box1_cell hF.bj
  unfold fnV at cj
  have hix := idx_run (g := g0) (cap := cv) (i := l.length - 1) (n := l.length) Tryd.underlying22 size_pat (by omega)
  rw [show ((l.length - 1 : Nat) : Int) = (l.length : Int) - 1 by omega] at hix
  generalize hm : l.length - 1 = m at *
  have HMM := hide hm
  have HK := hide (show ∀ w', Below w1.heap.size w1 w' → (w'.cell? ⟨zj, 0, none⟩ = some (.func (.func 82) #[] #[]) ∧ w'.cell? ⟨zO, 0, none⟩ = some (.slice (some ⟨g0, 0, none⟩) l.length cv) ∧ w'.cell? ⟨g0, m * 5, none⟩ = some (.int .i64 x.k) ∧ w'.cell? ⟨g0, m * 5 + 1, none⟩ = some (.string x.t) ∧ w'.cell? ⟨g0, m * 5 + 2, none⟩ = some (.int .i64 x.n) ∧ w'.cell? ⟨g0, m * 5 + 3, none⟩ = some (.string x.nm) ∧ w'.cell? ⟨g0, m * 5 + 4, none⟩ = some (.slice x.xa x.len x.cap) ∧ w'.cell? ⟨w.heap.size, 0, none⟩ = some (.int .i64 p.k) ∧ w'.cell? ⟨w.heap.size, 1, none⟩ = some (.string p.t) ∧ w'.cell? ⟨w.heap.size, 2, none⟩ = some (.int .i64 p.n) ∧ w'.cell? ⟨w.heap.size, 3, none⟩ = some (.string p.nm) ∧ w'.cell? ⟨w.heap.size, 4, none⟩ = some (.slice p.xa p.len p.cap)) from fun w' hB => ⟨cell_later hB cj, cell_later hB cO, cell_later hB x0, cell_later hB x1, cell_later hB x2, cell_later hB x3, cell_later hB x4, cell_later hB y0, cell_later hB y1, cell_later hB y2, cell_later hB y3, cell_later hB y4⟩)
  have HX := hide hx
  have HM := hide (show m < l.length by omega)
  clear hb1 ho1 cs hF hk HST HH hl0 hm hx hv2
  go_wp2_with fail
  have hA : Below w1.heap.size w1 w1.drew := (Below.refl _ _).drew
  go_region_held3 (fun w' => w'.cell? ⟨zj, 0, none⟩ = some (.func (.func 82) #[] #[]) ∧ w'.cell? ⟨zO, 0, none⟩ = some (.slice (some ⟨g0, 0, none⟩) l.length cv) ∧ w'.cell? ⟨g0, m * 5, none⟩ = some (.int .i64 x.k) ∧ w'.cell? ⟨g0, m * 5 + 1, none⟩ = some (.string x.t) ∧ w'.cell? ⟨g0, m * 5 + 2, none⟩ = some (.int .i64 x.n) ∧ w'.cell? ⟨g0, m * 5 + 3, none⟩ = some (.string x.nm) ∧ w'.cell? ⟨g0, m * 5 + 4, none⟩ = some (.slice x.xa x.len x.cap) ∧ w'.cell? ⟨w.heap.size, 0, none⟩ = some (.int .i64 p.k) ∧ w'.cell? ⟨w.heap.size, 1, none⟩ = some (.string p.t) ∧ w'.cell? ⟨w.heap.size, 2, none⟩ = some (.int .i64 p.n) ∧ w'.cell? ⟨w.heap.size, 3, none⟩ = some (.string p.nm) ∧ w'.cell? ⟨w.heap.size, 4, none⟩ = some (.slice p.xa p.len p.cap))
    ((refine unhide HK _ ?_; first | (with_reducible exact hA) | (with_reducible exact ((Below.refl _ _).alloc (Nat.le_refl _) _).drew) | (with_reducible exact hA.alloc hA.size _) | (with_reducible exact ((((hA.setCell (Nat.le_refl _) _).setCell (Nat.le_refl _) _).setCell (Nat.le_refl _) _).setCell (Nat.le_refl _) _).setCell (Nat.le_refl _) _)))
    (((with_reducible refine (unhide HJ _).mono ?_); rintro e w2 ⟨rfl, hb2⟩; (first | (have zb := zero_row (w := w1) (by with_reducible exact hb2); have zz := zero_later (w := w1) (by with_reducible exact hb2); obtain ⟨⟨z0, z1, z2, z3, z4⟩, zf⟩ := zz; have hA := bnext (((Below.refl w1.heap.size w1).alloc (Nat.le_refl _) _).drew) hb2) | (have hA := bnext hA hb2)); clear hb2))
  all_goals rename_i hHeld
  · have hbc : Below w1.heap.size w1 (w2.alloc (.cells #[.int .i64 y.k, .string y.t, .int .i64 y.n, .string y.nm, .slice y.xa y.len y.cap] 24)) := hA.alloc hA.size _
    have hbx : (w2.alloc (.cells #[.int .i64 y.k, .string y.t, .int .i64 y.n, .string y.nm, .slice y.xa y.len y.cap] 24)).heap[w2.heap.size]? = some (.cells #[.int .i64 y.k, .string y.t, .int .i64 y.n, .string y.nm, .slice y.xa y.len y.cap] 24 (0, 0)) := at_new rfl
    generalize (w2.alloc (.cells #[.int .i64 y.k, .string y.t, .int .i64 y.n, .string y.nm, .slice y.xa y.len y.cap] 24)) = wc at *
    have HFc := hide (And.intro ((unhide HF).1.later hbc) ((unhide HF).2.1.trans (hbc.mono (unhide HF).1.low.2.2)))
    obtain ⟨r0, r1, r2, r3, r4⟩ := pats5s hbx
    have uO := box1_cell (unhide HFc).1.bO
    obtain ⟨x0, x1, x2, x3, x4⟩ := row_five (unhide HFc).1.row rfl (unhide HX)
    have xf := fun o => (unhide HFc).1.row.frozen rfl o
    have HD := hide (join_done y (unhide HFc).1 (unhide HFc).2 (unhide HB) (unhide HM))
    clear hbc hA hHeld y0 y1 y2 y3 y4 cO fO hsz cj HK hbx
    go_wp2_with fail
    go_end0
    with_reducible exact put_post (unhide HD).1 (unhide HD).2
  · have hbc : Below w1.heap.size w1 (((((w2.setCell ⟨w1.heap.size, 0, none⟩ (.int .i64 y.k)).setCell ⟨w1.heap.size, 1, none⟩ (.string y.t)).setCell ⟨w1.heap.size, 2, none⟩ (.int .i64 y.n)).setCell ⟨w1.heap.size, 3, none⟩ (.string y.nm)).setCell ⟨w1.heap.size, 4, none⟩ (.slice y.xa y.len y.cap)) := ((((hA.setCell (Nat.le_refl _) _).setCell (Nat.le_refl _) _).setCell (Nat.le_refl _) _).setCell (Nat.le_refl _) _).setCell (Nat.le_refl _) _
    have hbx : (((((w2.setCell ⟨w1.heap.size, 0, none⟩ (.int .i64 y.k)).setCell ⟨w1.heap.size, 1, none⟩ (.string y.t)).setCell ⟨w1.heap.size, 2, none⟩ (.int .i64 y.n)).setCell ⟨w1.heap.size, 3, none⟩ (.string y.nm)).setCell ⟨w1.heap.size, 4, none⟩ (.slice y.xa y.len y.cap)).heap[w1.heap.size]? = some (.cells #[.int .i64 y.k, .string y.t, .int .i64 y.n, .string y.nm, .slice y.xa y.len y.cap] 24 (0, 0)) := five_set (w := w2) zb
    generalize (((((w2.setCell ⟨w1.heap.size, 0, none⟩ (.int .i64 y.k)).setCell ⟨w1.heap.size, 1, none⟩ (.string y.t)).setCell ⟨w1.heap.size, 2, none⟩ (.int .i64 y.n)).setCell ⟨w1.heap.size, 3, none⟩ (.string y.nm)).setCell ⟨w1.heap.size, 4, none⟩ (.slice y.xa y.len y.cap)) = wc at *
    have HFc := hide (And.intro ((unhide HF).1.later hbc) ((unhide HF).2.1.trans (hbc.mono (unhide HF).1.low.2.2)))
    obtain ⟨r0, r1, r2, r3, r4⟩ := pats5s hbx
    have uO := box1_cell (unhide HFc).1.bO
    obtain ⟨x0, x1, x2, x3, x4⟩ := row_five (unhide HFc).1.row rfl (unhide HX)
    have xf := fun o => (unhide HFc).1.row.frozen rfl o
    have HD := hide (join_done y (unhide HFc).1 (unhide HFc).2 (unhide HB) (unhide HM))
    clear hbc hA hHeld y0 y1 y2 y3 y4 cO fO hsz cj HK hbx
    go_wp2_with fail
    go_end0
    with_reducible exact put_post (unhide HD).1 (unhide HD).2
end Go.Proofs.YtbmngbpillihaaaDoor

namespace Go.Proofs.YtbmngbpillihaaaDoor
open Go.RowKit

theorem sc_zero (p : Nat → Bool) : sc p = zerosS ↔ ∀ c, c < 256 → p c = false := by
  rw [zerosS_eq]
  constructor
  · intro h c hc
    have e : ∀ k, k < 4 → wd p k = wd (fun _ => false) k := fun k hk => by
      have h1 := sc_at p k hk
      rw [h, sc_at _ k hk] at h1
      injection h1 with h1
      injection h1 with _ h1
      omega
    have h2 := congrArg (fun n => n.testBit (c % 64)) (e (c / 64) (by omega))
    simp only [wd_bit] at h2
    rw [decide_eq_true (Nat.mod_lt _ (by decide)), Bool.true_and, Bool.true_and, Nat.div_add_mod] at h2
    exact h2
  · intro h
    exact sc_congr h
theorem of_saysE (t : ByteArray) (ht : t.size ≤ maxLen) (w : World) : Calls Tryd.prog 43 #[.string t] w fun e w' => e = .returned (.agg (sc (inB t))) ∧ Below w.heap.size w w' := by
  have := of_any t w ht
  rw [show inT t t.size = inB t from funext fun b => inT_inB t b] at this
  exact this
end Go.Proofs.YtbmngbpillihaaaDoor
