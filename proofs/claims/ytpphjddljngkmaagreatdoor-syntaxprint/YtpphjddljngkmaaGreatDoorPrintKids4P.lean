/- What pats.appendKids does, given what appendPat does of each kid. -/
import Derived.Test.YtpphjddljngkmaaGreatDoorPrintBrkAM
import Derived.Maps.RangeWalk
namespace Go.Proofs.YtpphjddljngkmaaGreatDoor
open Go.RowKit
set_option linter.unusedVariables false

/-- What the printing wants of the world that came in. -/
structure Ready (W : World) : Prop where
  shapes : Shapes W
  lim : ∃ m, W.cell? ⟨2, 0, none⟩ = some (.int .i64 m)
  pow : Lib.TabBelow Tryz.prog W.heap.size W "internal/strconv.uint64pow10" .u64 Lib.pow10Tab
def AppPost (W w : World) (v : Value) (l t : List UInt8) (c : Nat) (e : Ending) (w' : World) : Prop := ∃ v' r, e = .returned v' ∧ Bytes w' W.heap.size v' r ∧ Ext w w' v v' ∧ Below W.heap.size W w' ∧ Grew l t r c
def AppSays (T : PT) : Prop := ∀ (W w : World) (v : Value) (l : List UInt8), Ready W → T.In W → Below W.heap.size W w → T.bad = 0 → Bytes w W.heap.size v l → max l.length 196700 + 30 * T.cnt ≤ 10000000 → T.cnt ≤ 4096 →
  Calls Tryz.prog 41 #[v, .agg #[.int .i64 T.k, .string T.t, .int .i64 T.n, .string T.nm, .slice T.xa T.len T.cap]] w fun e w' => AppPost W w v l T.txt (30 * T.cnt - 10) e w'
theorem cellsP {W : World} {g : Nat} {a b c d e : Value} {t : TypeId} (h : W.heap[g]? = some (.cells #[a, b, c, d, e] t (0, 0))) :
    W.cell? ⟨g, 0, none⟩ = some a ∧ W.cell? ⟨g, 1, none⟩ = some b ∧ W.cell? ⟨g, 2, none⟩ = some c ∧ W.cell? ⟨g, 3, none⟩ = some d ∧ W.cell? ⟨g, 4, none⟩ = some e := by
  refine ⟨?_, ?_, ?_, ?_, ?_⟩ <;> rw [cell_of_row _ _ _ _ _ _ h] <;> rfl
/-- In the middle of the kids. -/
structure KMid (T : PT) (W w0 : World) (v0 : Value) (l : List UInt8) (sep : List UInt8) (k : Nat) (v : Value) (r : List UInt8) (wr : World) : Prop where
  row : Bytes wr W.heap.size v r
  grew : Grew l (joinTo sep T.kidT k) r (30 * sumTo (fun i => (T.kid i).cnt) k)
  bel : Below W.heap.size W wr
  ext : Ext w0 wr v0 v
  box : wr.heap[w0.heap.size]? = some (.cells #[.int .i64 T.k, .string T.t, .int .i64 T.n, .string T.nm, .slice T.xa T.len T.cap] 30 (0, 0))
  far : some w0.heap.size ≠ v.ownBlock
theorem kmid_step {T : PT} {W w0 wr w2 : World} {v0 v v2 : Value} {l r r2 : List UInt8} {sep : List UInt8} {k c : Nat} (hm : KMid T W w0 v0 l sep k v r wr) (hb2 : Bytes w2 W.heap.size v2 r2) (he : Ext wr w2 v v2) (hB : Below W.heap.size W w2)
    (hg : Grew r ((if 0 < k then sep else []) ++ T.kidT k) r2 c) (hc : c ≤ 30 * (T.kid k).cnt) : KMid T W w0 v0 l sep (k + 1) v2 r2 w2 := by
  refine ⟨hb2, ?_, hB, hm.ext.trans he, he.row hm.far hm.box, ?_⟩
  · have h := (hm.grew.trans hg).cast (show joinTo sep T.kidT k ++ ((if 0 < k then sep else []) ++ T.kidT k) = joinTo sep T.kidT (k + 1) by rw [joinTo, List.append_assoc])
    refine h.more ?_
    simp only [sumTo]
    omega
  · rcases he.lies with e | e
    · rw [e]; exact hm.far
    · intro x
      have := e _ x.symm
      have := (Array.getElem?_eq_some_iff.1 hm.box).1
      omega
set_option maxRecDepth 100000 in
set_option maxHeartbeats 4000000 in
theorem kids_step (T : PT) (ih : ∀ i, i < T.len → AppSays (T.kid i)) (sep : ByteArray) (hsep : sep.size ≤ 3) (W w : World) (v : Value) (l : List UInt8) (hR : Ready W) (hT : T.In W) (hbel : Below W.heap.size W w) (hbad : T.bad = 0) (hv : Bytes w W.heap.size v l) (hl : max l.length 196700 + 35 * T.cnt ≤ 9000000) (h4 : T.cnt ≤ 4096) :
    Calls Tryz.prog 56 #[v, .agg #[.int .i64 T.k, .string T.t, .int .i64 T.n, .string T.nm, .slice T.xa T.len T.cap], .string sep] w fun e w' => AppPost W w v l (joinTo sep.data.toList T.kidT T.len) (30 * sumTo (fun i => (T.kid i).cnt) T.len) e w' := by
  have hmax := hT.max
  unfold maxLen at hmax
  have HD := hide (And.intro hT (And.intro ih (And.intro hbad (And.intro hR (And.intro T.cnt_eq (And.intro hl hsep))))))
  have HM0 := hide (show KMid T W w v l sep.data.toList 0 v l (w.alloc (.cells #[.int .i64 T.k, .string T.t, .int .i64 T.n, .string T.nm, .slice T.xa T.len T.cap] 30)) from
    ⟨hv.later (ba _), Grew.refl l, bnext hbel (ba _), Ext.below v (ba _), at_new rfl, hv.apart (Nat.le_refl _)⟩)
  clear hT ih hbad hR hl hsep hv hbel
  go_enter Tryz.func56, Tryz.ntmps56
  go_wp2_with fail
  go_loopw [0, 12] (fun u i wr => ∃ k r, k ≤ T.len ∧ i = .int .i64 ((k : Nat) : Int) ∧ KMid T W w v l sep.data.toList k u r wr) (fun _ i _ => T.len - (intOf i).toNat)
  case atStart => exact ⟨0, l, by omega, rfl, unhide HM0⟩
  case round =>
    obtain ⟨k, r, hk, rfl, hm⟩ := hrel
    rcases Nat.lt_or_ge k T.len with hkt | hkt
    · obtain ⟨hT, ih, hbad, hR, hcnt, hl, hsep⟩ := unhide HD
      obtain ⟨k0, k1, k2, k3, k4⟩ := hT.cells hkt
      have k0 := cell_later hm.bel k0
      have k1 := cell_later hm.bel k1
      have k2 := cell_later hm.bel k2
      have k3 := cell_later hm.bel k3
      have k4 := cell_later hm.bel k4
      unfold PT.kv at k4
      have hia := kid_at hT hkt
      have hsum := sumTo_le (fun i => (T.kid i).cnt) (show k + 1 ≤ T.len from hkt)
      have hks := le_sumTo (fun i => (T.kid i).cnt) (fun i => (T.kid i).cnt_pos) T.len
      simp only [sumTo] at hsum
      have hmost := hm.grew.most
      have hkp := (T.kid k).cnt_pos
      have HN4 : Hid ((T.kid k).cnt ≤ 4096) := hide (by omega)
      have HN : Hid (max (r.length + 4) 196700 + 30 * (T.kid k).cnt ≤ 10000000) := hide (by omega)
      have HK := hide (And.intro (ih k hkt W) (And.intro (hT.kids hkt) (And.intro ((bad_zero hbad).2 k hkt) (And.intro hR hsep))))
      have HM := hide hm
      obtain ⟨c0, c1, c2, c3, c4⟩ := cellsP hm.box
      have hpl : w.heap.size < wr.heap.size := (Array.getElem?_eq_some_iff.1 hm.box).1
      have hpn : ¬ w.heap.size = wr.heap.size := by omega
      clear hT ih hbad hR hcnt hl hsep hm hsum hks hmost
      have hn := (Below.refl wr.heap.size wr).alloc (Nat.le_refl _) (.cells #[.int .i64 (T.kid k).k, .string (T.kid k).t, .int .i64 (T.kid k).n, .string (T.kid k).nm, .slice (T.kid k).xa (T.kid k).len (T.kid k).cap] 30)
      have HH := hide hn
      clear hn
      have HSL : Hid (sep.data.toList.length = sep.size) := hide (by simp)
      cases hbk : brk T.k (T.kid k).k
      · have HBK := hide hbk
        have HKT : Hid (T.kidT k = (T.kid k).txt) := hide (by unfold PT.kidT inB; rw [hbk]; rfl)
        clear hbk
        rcases Nat.eq_zero_or_pos k with hk0 | hk0
        · have hk1 : ¬ (0 : Int) < (k : Int) := by omega
          have HK0 := hide hk0
          clear hk0
          go_wp2_with (first | (go_at_call 72; refine (brackets_any _ _ _).mono ?_; rintro e w9 ⟨rfl, rfl⟩; rw [unhide HBK]) | (go_at_call 41; refine ((unhide HK).1 _ _ r (unhide HK).2.2.2.1 (unhide HK).2.1 (bnext (unhide HM).bel (unhide HH)) (unhide HK).2.2.1 ((unhide HM).row.later (unhide HH)) (by have := unhide HN; omega) (unhide HN4)).mono ?_; rintro e w2 ⟨v2, r2, rfl, hb2, he2, hB2, hg2⟩; have HV2 := hide (And.intro hb2 (And.intro he2 (And.intro hB2 hg2))); clear hb2 he2 hB2 hg2))
          obtain ⟨hb2, he2, hB2, hg2⟩ := unhide HV2
          exact ⟨⟨k + 1, r2, by omega, by go_num, kmid_step (unhide HM) hb2 ((Ext.below _ (unhide HH)).trans he2) hB2 (hg2.cast (by rw [if_neg (by have := unhide HK0; omega), unhide HKT]; rfl)) (by omega)⟩, by simp [intOf]; omega⟩
        · have hk1 : (0 : Int) < (k : Int) := by omega
          go_wp2_with (first | (at_builtin; refine wpx_str rfl _ _ rfl W.heap.size _ r sep rfl rfl (by exact (unhide HM).row.later (unhide HH)) (Nat.le_trans (unhide HM).bel.size (unhide HH).size) (by have := unhide HN; have := (unhide HK).2.2.2.2; omega) ?_; intro v1 w1 hv1 he1; have HV1 := hide (And.intro hv1 he1); (obtain ⟨p0, p1, p2, p3, p4⟩ := cellsP (he1.row (unhide HM).far ((Below.heap_alloc _ _ _ hpl).trans (unhide HM).box))); (obtain ⟨x0, x1, x2, x3, x4⟩ := cellsP (he1.row ((unhide HM).row.apart (Nat.le_refl _)) (at_new rfl))); clear hv1 he1) | (go_at_call 72; refine (brackets_any _ _ _).mono ?_; rintro e w9 ⟨rfl, rfl⟩; rw [unhide HBK]) | (go_at_call 41; refine ((unhide HK).1 _ _ (r ++ sep.data.toList) (unhide HK).2.2.2.1 (unhide HK).2.1 (bnext (unhide HM).bel (unhide HH) |>.trans ((unhide HV1).2.bel ((unhide HM).row.later (unhide HH)) (Nat.le_trans (unhide HM).bel.size (unhide HH).size))) (unhide HK).2.2.1 (unhide HV1).1 (by have := unhide HN; have := unhide HSL; have := (unhide HK).2.2.2.2; rw [List.length_append]; omega) (unhide HN4)).mono ?_; rintro e w2 ⟨v2, r2, rfl, hb2, he2, hB2, hg2⟩; have HV2 := hide (And.intro hb2 (And.intro he2 (And.intro hB2 hg2))); clear hb2 he2 hB2 hg2))
          obtain ⟨hb2, he2, hB2, hg2⟩ := unhide HV2
          exact ⟨⟨k + 1, r2, by omega, by go_num, kmid_step (unhide HM) hb2 (((Ext.below _ (unhide HH)).trans (unhide HV1).2).trans he2) hB2 (((Grew.put r sep.data.toList).trans hg2).cast (by rw [if_pos hk0, unhide HKT])) (by have := unhide HSL; have := (unhide HK).2.2.2.2; omega)⟩, by simp [intOf]; omega⟩
      · have HBK := hide hbk
        have HKT : Hid (T.kidT k = 40 :: (T.kid k).txt ++ [41]) := hide (by unfold PT.kidT inB; rw [hbk]; rfl)
        clear hbk
        rcases Nat.eq_zero_or_pos k with hk0 | hk0
        · have hk1 : ¬ (0 : Int) < (k : Int) := by omega
          have HK0 := hide hk0
          clear hk0
          have HBc := hide ((unhide HM).row.later (unhide HH))
          have HXc : Hid ((wr.alloc (.cells #[.int .i64 (T.kid k).k, .string (T.kid k).t, .int .i64 (T.kid k).n, .string (T.kid k).nm, .slice (T.kid k).xa (T.kid k).len (T.kid k).cap] 30)).heap[wr.heap.size]? = some (.cells #[.int .i64 (T.kid k).k, .string (T.kid k).t, .int .i64 (T.kid k).n, .string (T.kid k).nm, .slice (T.kid k).xa (T.kid k).len (T.kid k).cap] 30 (0, 0))) := hide (at_new rfl)
          have HWc := hide (bnext (unhide HM).bel (unhide HH))
          have HXf := hide ((unhide HM).row.apart (Nat.le_refl _))
          have HRoom := hide (unhide HN)
          go_wp2_with (first | (go_at_call 72; refine (brackets_any _ _ _).mono ?_; rintro e w9 ⟨rfl, rfl⟩; rw [unhide HBK]))
          refine kid_region (B := W.heap.size) (r := r) (bx := wr.heap.size) (M := fun l2 => Grew (r ++ [40]) (T.kid k).txt l2 (30 * (T.kid k).cnt - 10)) opIs_of opIs_of opIs_of opIs_of opIs_of opIs_of opIs_of opIs_of rfl rfl rfl rfl (unhide HBc) (unhide HWc).size (by have := unhide HRoom; omega) (unhide HXc) rfl (unhide HXf) (fun l2 h2 => by have hm := h2.most; have := unhide HRoom; rw [List.length_append, List.length_singleton] at hm; omega) (fun w1 v1 hb1 he1 => ((unhide HK).1 w1 v1 (r ++ [40]) (unhide HK).2.2.2.1 (unhide HK).2.1 ((unhide HWc).trans (he1.bel (unhide HBc) (unhide HWc).size)) (unhide HK).2.2.1 hb1 (by have := unhide HRoom; rw [List.length_append, List.length_singleton]; omega) (unhide HN4)).mono fun e w2 h => by
            obtain ⟨v2, r2, rfl, q1, q2, q3, q4⟩ := h
            exact ⟨v2, rfl, r2, q1, q2, q4⟩) ?_
          intro x w2 v2 l2 hb2 hg2 he2 hx0
          have HV2 := hide (And.intro hb2 (And.intro hg2 he2))
          have HBl := hide ((unhide HWc).trans (he2.bel (unhide HBc) (unhide HWc).size))
          clear hb2 hg2 he2
          simp only [fl]
          go_frame
          rw [hx0]
          clear hx0
          go_wp2_with fail
          obtain ⟨hb2, hg2, he2⟩ := unhide HV2
          exact ⟨⟨k + 1, l2 ++ [41], by omega, by go_num, kmid_step (unhide HM) hb2 ((Ext.below _ (unhide HH)).trans he2) (unhide HBl) ((((Grew.put r [40]).trans hg2).trans (Grew.put l2 [41])).cast (by rw [if_neg (by have := unhide HK0; omega), unhide HKT]; simp)) (by simp; omega)⟩, by simp [intOf]; omega⟩
        · have hk1 : (0 : Int) < (k : Int) := by omega
          go_wp2_with (first | (at_builtin; refine wpx_str rfl _ _ rfl W.heap.size _ r sep rfl rfl (by exact (unhide HM).row.later (unhide HH)) (Nat.le_trans (unhide HM).bel.size (unhide HH).size) (by have := unhide HN; have := (unhide HK).2.2.2.2; omega) ?_; intro v1 w1 hv1 he1; have HV1 := hide (And.intro hv1 he1); (obtain ⟨p0, p1, p2, p3, p4⟩ := cellsP (he1.row (unhide HM).far ((Below.heap_alloc _ _ _ hpl).trans (unhide HM).box))); (obtain ⟨x0, x1, x2, x3, x4⟩ := cellsP (he1.row ((unhide HM).row.apart (Nat.le_refl _)) (at_new rfl))); clear hv1 he1) | (go_at_call 72; refine (brackets_any _ _ _).mono ?_; rintro e w9 ⟨rfl, rfl⟩; rw [unhide HBK]))
          have HBc := hide (unhide HV1).1
          have HXc := hide ((unhide HV1).2.row ((unhide HM).row.apart (Nat.le_refl _)) (show (wr.alloc (.cells #[.int .i64 (T.kid k).k, .string (T.kid k).t, .int .i64 (T.kid k).n, .string (T.kid k).nm, .slice (T.kid k).xa (T.kid k).len (T.kid k).cap] 30)).heap[wr.heap.size]? = some (.cells #[.int .i64 (T.kid k).k, .string (T.kid k).t, .int .i64 (T.kid k).n, .string (T.kid k).nm, .slice (T.kid k).xa (T.kid k).len (T.kid k).cap] 30 (0, 0)) from at_new rfl))
          have HWc := hide ((bnext (unhide HM).bel (unhide HH)).trans ((unhide HV1).2.bel ((unhide HM).row.later (unhide HH)) (Nat.le_trans (unhide HM).bel.size (unhide HH).size)))
          have HXf := hide ((unhide HV1).2.far ((unhide HM).row.apart (Nat.le_refl _)) (by simp))
          have HRoom : Hid (max ((r ++ sep.data.toList).length + 1) 196700 + 30 * (T.kid k).cnt ≤ 10000000) := hide (by have := unhide HN; have := unhide HSL; have := (unhide HK).2.2.2.2; rw [List.length_append]; omega)
          refine kid_region (B := W.heap.size) (r := (r ++ sep.data.toList)) (bx := wr.heap.size) (M := fun l2 => Grew ((r ++ sep.data.toList) ++ [40]) (T.kid k).txt l2 (30 * (T.kid k).cnt - 10)) opIs_of opIs_of opIs_of opIs_of opIs_of opIs_of opIs_of opIs_of rfl rfl rfl rfl (unhide HBc) (unhide HWc).size (by have := unhide HRoom; omega) (unhide HXc) rfl (unhide HXf) (fun l2 h2 => by have hm := h2.most; have := unhide HRoom; rw [List.length_append, List.length_singleton] at hm; omega) (fun w1 v1 hb1 he1 => ((unhide HK).1 w1 v1 ((r ++ sep.data.toList) ++ [40]) (unhide HK).2.2.2.1 (unhide HK).2.1 ((unhide HWc).trans (he1.bel (unhide HBc) (unhide HWc).size)) (unhide HK).2.2.1 hb1 (by have := unhide HRoom; rw [List.length_append, List.length_singleton]; omega) (unhide HN4)).mono fun e w2 h => by
            obtain ⟨v2, r2, rfl, q1, q2, q3, q4⟩ := h
            exact ⟨v2, rfl, r2, q1, q2, q4⟩) ?_
          intro x w2 v2 l2 hb2 hg2 he2 hx0
          have HV2 := hide (And.intro hb2 (And.intro hg2 he2))
          have HBl := hide ((unhide HWc).trans (he2.bel (unhide HBc) (unhide HWc).size))
          clear hb2 hg2 he2
          simp only [fl]
          go_frame
          rw [hx0]
          clear hx0
          go_wp2_with fail
          obtain ⟨hb2, hg2, he2⟩ := unhide HV2
          exact ⟨⟨k + 1, l2 ++ [41], by omega, by go_num, kmid_step (unhide HM) hb2 (((Ext.below _ (unhide HH)).trans (unhide HV1).2).trans he2) (unhide HBl) (((((Grew.put r sep.data.toList).trans (Grew.put _ [40])).trans hg2).trans (Grew.put l2 [41])).cast (by rw [if_pos hk0, unhide HKT]; simp)) (by have := unhide HSL; have := (unhide HK).2.2.2.2; simp; omega)⟩, by simp [intOf]; omega⟩
    · have hk' : k = T.len := by omega
      have HM := hide hm
      clear hm
      go_wp2_with fail
      go_ret
      have hm := unhide HM
      exact ⟨_, r, rfl, hm.row, hm.ext, hm.bel, hk' ▸ hm.grew⟩
end Go.Proofs.YtpphjddljngkmaaGreatDoor
