/- One kid more: the function that tune.fewer makes, the first one. -/
import Derived.Test.YtbmngbpillihaaaDoorSimpOnePM
namespace Go.Proofs.YtbmngbpillihaaaDoor
open Go.RowKit

set_option maxRecDepth 100000 in
set_option maxHeartbeats 4000000 in
theorem add_nilA (p : PT) (w : World) (B zs zO zj zo zi zl : Nat) (ov : Bool) (v : Value) (l : List PT) (h : FewAt w B zs zO zj zo zi zl 81 80 82 ov v l) (hl0 : l.length = 0) (hst : (ov || isF p) = false) :
    Calls Tryd.prog 101 #[pv p, .pointer (some ⟨zs, 0, none⟩), .pointer (some ⟨zO, 0, none⟩), .pointer (some ⟨zj, 0, none⟩)] w (PutPost B zs zO zj zo zi zl 81 80 82 (isA p) (l ++ [p]) w) := by
  have hb0 : Below w.heap.size w (w.alloc (.cells #[.int .i64 p.k, .string p.t, .int .i64 p.n, .string p.nm, .slice p.xa p.len p.cap] 24)) := (Below.refl _ _).alloc (Nat.le_refl _) _
  have cs := cell_later hb0 (box1_cell h.bs)
  have HST := hide (stays_alt p ov zo zi zl _ _ _ (row_below h.bo hb0) (row_below h.bi hb0) (row_below h.bl hb0))
  have HH := hide (And.intro (h.later hb0) (And.intro (hb0.mono h.low.2.2) (at_new (w := w) (o := .cells #[.int .i64 p.k, .string p.t, .int .i64 p.n, .string p.nm, .slice p.xa p.len p.cap] 24) rfl)))
  have HB := hide h.low.2.2
  have HI := hide info_pat
  unfold pv at HST ⊢
  unfold stV at cs
  clear h hb0
  rw [hst, if_neg (by decide)] at HST
  clear hst
  go_enter Tryd.func101, Tryd.ntmps101
  go_wp2_with fail
  refine (unhide HST).mono ?_
  rintro e w1 ⟨rfl, hb1, ho1⟩
  have hF := (unhide HH).1.over hb1 ho1
  have hk := hb1.row (ne_box (unhide HH).2.2 (unhide HH).1.bo (by decide)) (unhide HH).2.2
  have HF := hide (And.intro hF (And.intro (below_butB (unhide HH).2.1 hb1 (unhide HB) (unhide HH).1.low.2.1) hk))
  obtain ⟨y0, y1, y2, y3, y4⟩ := pats5s hk
  obtain ⟨av, cv, hv, -, -⟩ := hF.row.len
  subst hv
  have cO := box1_cell hF.bO
  have fO := box1_free hF.bO
  have hsz := hF.low.2.2
  have q0 : (l.length : Int) < 1 := by omega
  have HL0 := hide hl0
  have hll : l.length ≤ 100000 := by omega
  clear hb1 ho1 cs hF hk HST HH hl0
  go_wp2_with fail
  have HW := hide (((unhide HF).1.later ((Below.refl _ _).alloc (Nat.le_refl _) (.cells zeroP 24))).later (Below.refl _ _).drew)
  have Y0 := fun o => cell_later ((Below.refl w1.heap.size w1).alloc (Nat.le_refl _) o) y0
  have Y1 := fun o => cell_later ((Below.refl w1.heap.size w1).alloc (Nat.le_refl _) o) y1
  have Y2 := fun o => cell_later ((Below.refl w1.heap.size w1).alloc (Nat.le_refl _) o) y2
  have Y3 := fun o => cell_later ((Below.refl w1.heap.size w1).alloc (Nat.le_refl _) o) y3
  have Y4 := fun o => cell_later ((Below.refl w1.heap.size w1).alloc (Nat.le_refl _) o) y4
  have YO := fun o => cell_later ((Below.refl w1.heap.size w1).alloc (Nat.le_refl _) o) cO
  clear q0
  go_region_law (refine step_row Tryd.underlying22 (unhide HI) rfl (by decide) (by decide) five_len five_one rfl _ _ rfl (row_drewP (row_allocP (unhide HF).1.row _)) (by simp; omega) zeroT w1.heap.size 1 rfl rfl (by exact zero_cell) (by omega) ?_; intro v' w' hrow hgrow hown; obtain ⟨g, cap, rfl, hc1, -⟩ := hrow.form (by simp); rw [len_one] at hrow ⊢; have HG := hide (And.intro hrow hgrow); have hix := idx_run (g := g) (cap := cap) (i := l.length) (n := l.length + 1) Tryd.underlying22 size_pat (by omega); obtain ⟨⟨x0, x1, x2, x3, x4⟩, xf⟩ := row_last hrow; have qO := box1_cell ((unhide HW).grown hgrow).2.1; have qf := box1_free ((unhide HW).grown hgrow).2.1; have n1 := (show ¬ zO = g from fun e => hrow.neBlk ((unhide HW).grown hgrow).2.1 (by decide) (congrArg some e)); have n2 := (show ¬ g = zO from fun e => n1 e.symm); clear hrow hgrow hown hc1)
  all_goals (have HD := hide (put_done p (unhide HW) (((unhide HF).2.1.alloc hsz _).drew) (unhide HB) (unhide HG).2 (unhide HG).1); go_end0; first | (with_reducible exact put_post (unhide HD).1.1 (unhide HD).1.2) | (with_reducible exact put_post (unhide HD).2.1 (unhide HD).2.2))
end Go.Proofs.YtbmngbpillihaaaDoor
