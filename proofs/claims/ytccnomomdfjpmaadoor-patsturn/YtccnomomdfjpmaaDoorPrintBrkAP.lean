/- Brackets around a kid: a sign, the kid's bytes, a sign, in whatever order the signs' rows are made. -/
import Derived.Test.YtccnomomdfjpmaaDoorPrintBrk4M
namespace Go.Proofs.YtccnomomdfjpmaaDoor
open Go.RowKit

theorem size_pat4 : (Tryd.prog.info? 24).map (·.size) = some 5 := by kernel_rfl
/-- What holds whichever operations have come up. -/
structure KidF (B : Nat) (w0 : World) (v : Value) (r : List UInt8) (kid : Value) (M : List UInt8 → Prop) (L : Array Bool) (x : Nat → Value) (w : World) (cur : Value) (l : List UInt8) : Prop where
  size : L.size = 8
  m : Up L 0 → x 27 = v
  o : Up L 1 → Sign w cur 40 (x 28)
  k : Up L 3 → x 30 = kid
  c : Up L 5 → Sign w cur 41 (x 32)
  st : (¬ Up L 2 ∧ ¬ Up L 4 ∧ ¬ Up L 6 ∧ cur = v ∧ l = r) ∨ (Up L 2 ∧ ¬ Up L 4 ∧ ¬ Up L 6 ∧ x 29 = cur ∧ l = r ++ [40]) ∨ (Up L 4 ∧ ¬ Up L 6 ∧ x 31 = cur ∧ M l) ∨ (Up L 6 ∧ x 33 = cur ∧ ∃ l0, M l0 ∧ l = l0 ++ [41])
  f : Up L 7 → x 0 = x 33
  s : ¬ Up L 7 → x 0 = v
  chn : Chn B w0 v w cur l
set_option maxHeartbeats 1000000 in
theorem kid_region {ops : Array Oper} {id : Nat} {Q : Exit → Act → World → Prop} {a : Act} {w : World} {v : Value} {r : List UInt8} {B bx : Nat} {cs : Array Value} {M : List UInt8 → Prop}
    (p0 : OpIs ops 0 (.move (.tmp 0)) 27 []) (p1 : OpIs ops 1 (.buildSlice 39 1 #[(0, .const (.int .u8 40))]) 28 []) (p2 : OpIs ops 2 (.call { callee := .builtin .append, args := #[.tmp 27, .tmp 28], argTypes := #[39, 39] }) 29 [0, 1])
    (p3 : OpIs ops 3 (.load 24 (.tmp 8)) 30 []) (p4 : OpIs ops 4 (.call { callee := .value (.func 14), args := #[.tmp 29, .tmp 30], argTypes := #[39, 24] }) 31 [2, 3])
    (p5 : OpIs ops 5 (.buildSlice 39 1 #[(0, .const (.int .u8 41))]) 32 []) (p6 : OpIs ops 6 (.call { callee := .builtin .append, args := #[.tmp 31, .tmp 32], argTypes := #[39, 39] }) 33 [4, 5]) (p7 : OpIs ops 7 (.assign (.tmp 33)) 0 [0, 1, 2, 3, 4, 5, 6]) (hn : ops.size = 8)
    (hsz : a.tmps.size = 39) (h0 : a.eval (.tmp 0) = v) (h8 : a.eval (.tmp 8) = .pointer (some ⟨bx, 0, none⟩)) (hv : Bytes w B v r) (hB : B ≤ w.heap.size) (hr : r.length + 2 ≤ 100000000) (hbx : w.heap[bx]? = some (.cells cs 24 (0, 0))) (hcs : cs.size = 5) (hfar : some bx ≠ v.ownBlock)
    (hM : ∀ l, M l → l.length + 1 ≤ 100000000)
    (hC : ∀ w1 v1, Bytes w1 B v1 (r ++ [40]) → Ext w w1 v v1 → Calls Tryd.prog 14 #[v1, .agg cs] w1 fun e w2 => ∃ v2, e = .returned v2 ∧ ∃ r2, Bytes w2 B v2 r2 ∧ Ext w1 w2 v1 v2 ∧ M r2)
    (hQ : ∀ x w2 v2 l2, Bytes w2 B v2 (l2 ++ [41]) → M l2 → Ext w w2 v v2 → x 0 = v2 → Q .normal (fl a [27, 28, 29, 30, 31, 32, 33, 0] x) w2) : (Code.region id ops true).wp Tryd.prog Q a w := by
  refine region_inv2 (I := fun L a' w' => ∃ x cur l, a' = fl a [27, 28, 29, 30, 31, 32, 33, 0] x ∧ KidF B w v r (.agg cs) M L x w' cur l) rfl ?_ ?_ ?_
  · have hd : Below w.heap.size w w.drew := (Below.refl _ _).drew
    exact ⟨fun d => a.eval (.tmp d), v, r, (fl_self _ a).symm, by rw [hn]; rfl, fun h => absurd h up_new, fun h => absurd h up_new, fun h => absurd h up_new, fun h => absurd h up_new, .inl ⟨up_new, up_new, up_new, rfl, rfl⟩, fun h => absurd h up_new, fun _ => h0, hv.later hd, Ext.below v hd⟩
  · rintro L a' w' i ⟨x, cur, l, rfl, H⟩ hsh hi
    have hs := H.size
    have hlt : i < 8 := by
      obtain ⟨-, o, ho, -⟩ := mem_ready.1 hi
      have := (Array.getElem?_eq_some_iff.1 ho).1
      omega
    have hiL : i < L.size := by rw [hs]; exact hlt
    have hS : (L.setIfInBounds i true).size = 8 := by simp [hs]
    have hbw : B ≤ w'.heap.size := Nat.le_trans hB H.chn.ext.grown.size
    rcases (show i = 0 ∨ i = 1 ∨ i = 2 ∨ i = 3 ∨ i = 4 ∨ i = 5 ∨ i = 6 ∨ i = 7 by omega) with rfl | rfl | rfl | rfl | rfl | rfl | rfl | rfl
    · obtain ⟨hu, hd⟩ := op_ready p0 hi
      refine op_at p0 fun o ho hdst => wp_mv ho ?_
      refine ⟨upd x 27 v, cur, l, by rw [hdst, (fl_eval [27, 28, 29, 30, 31, 32, 33, 0] a x (d := 0) (by decide) (by decide) (by rw [hsz]; decide)), H.s (fun q => hu (shut_up p7 hsh q 0 (by decide))), fl_put _ _ _ _ _ (by decide) (by decide)], hS, fun _ => upd_same _ _ _, fun h => ?_, fun h => ?_, fun h => ?_, ?_, fun h => ?_, fun h => ?_, H.chn⟩
      · rw [upd_other (by decide)]; exact H.o (((up_set hiL).1 h).resolve_left (by decide))
      · rw [upd_other (by decide)]; exact H.k (((up_set hiL).1 h).resolve_left (by decide))
      · rw [upd_other (by decide)]; exact H.c (((up_set hiL).1 h).resolve_left (by decide))
      · simpa only [up_set hiL, show ¬ (2 = 0) by decide, show ¬ (4 = 0) by decide, show ¬ (6 = 0) by decide, false_or, upd_other (x := x) (v := v) (show 29 ≠ 27 by decide), upd_other (x := x) (v := v) (show 31 ≠ 27 by decide), upd_other (x := x) (v := v) (show 33 ≠ 27 by decide)] using H.st
      · rw [upd_other (by decide), upd_other (by decide)]; exact H.f (((up_set hiL).1 h).resolve_left (by decide))
      · rw [upd_other (by decide)]; exact H.s fun q => h ((up_set hiL).2 (.inr q))
    · obtain ⟨hu, hd⟩ := op_ready p1 hi
      refine op_at p1 fun o ho hdst => wp_row1 40 ho ?_
      have hb : Below w'.heap.size w' (w'.alloc (.cells #[.int .u8 (((40 : UInt8).toNat : Nat) : Int)] 5)) := (Below.refl _ _).alloc (Nat.le_refl _) _
      refine ⟨upd x 28 (.slice (some ⟨w'.heap.size, 0, none⟩) 1 1), cur, l, by rw [hdst, fl_put _ _ _ _ _ (by decide) (by decide)], hS, fun h => ?_, fun _ => ?_, fun h => ?_, fun h => ?_, ?_, fun h => ?_, fun h => ?_, H.chn.below hb⟩
      · rw [upd_other (by decide)]; exact H.m (((up_set hiL).1 h).resolve_left (by decide))
      · rw [upd_same]; exact Sign.new H.chn.row 40
      · rw [upd_other (by decide)]; exact H.k (((up_set hiL).1 h).resolve_left (by decide))
      · rw [upd_other (by decide)]; exact (H.c (((up_set hiL).1 h).resolve_left (by decide))).below hb
      · simpa only [up_set hiL, show ¬ (2 = 1) by decide, show ¬ (4 = 1) by decide, show ¬ (6 = 1) by decide, false_or, upd_other (x := x) (show 29 ≠ 28 by decide), upd_other (x := x) (show 31 ≠ 28 by decide), upd_other (x := x) (show 33 ≠ 28 by decide)] using H.st
      · rw [upd_other (by decide), upd_other (by decide)]; exact H.f (((up_set hiL).1 h).resolve_left (by decide))
      · rw [upd_other (by decide)]; exact H.s fun q => h ((up_set hiL).2 (.inr q))
    · obtain ⟨hu, hd⟩ := op_ready p2 hi
      rcases H.st with ⟨s2, s4, s6, rfl, rfl⟩ | ⟨s2, -⟩ | ⟨s4, s6, -⟩ | ⟨s6, -⟩
      · obtain ⟨g, hg, hrow, hgf⟩ := H.o (hd 1 (by decide))
        refine op_at p2 fun o ho hdst => wp_byte (.tmp 27) (.tmp 28) ho (by rw [(fl_eval [27, 28, 29, 30, 31, 32, 33, 0] a x (d := 27) (by decide) (by decide) (by rw [hsz]; decide))]; exact H.m (hd 0 (by decide))) (by rw [(fl_eval [27, 28, 29, 30, 31, 32, 33, 0] a x (d := 28) (by decide) (by decide) (by rw [hsz]; decide))]; exact hg) H.chn.row hrow hbw (by omega) ?_
        intro v' w2 hb2 he2
        refine ⟨upd x 29 v', v', _, by rw [hdst, fl_put _ _ _ _ _ (by decide) (by decide)], hS, fun h => ?_, fun h => ?_, fun h => ?_, fun h => ?_, .inr (.inl ⟨(up_set hiL).2 (.inl rfl), fun h => s4 (((up_set hiL).1 h).resolve_left (by decide)), fun h => s6 (((up_set hiL).1 h).resolve_left (by decide)), upd_same _ _ _, rfl⟩), fun h => ?_, fun h => ?_, H.chn.next hb2 he2⟩
        · rw [upd_other (by decide)]; exact H.m (((up_set hiL).1 h).resolve_left (by decide))
        · rw [upd_other (by decide)]; exact (H.o (((up_set hiL).1 h).resolve_left (by decide))).next he2
        · rw [upd_other (by decide)]; exact H.k (((up_set hiL).1 h).resolve_left (by decide))
        · rw [upd_other (by decide)]; exact (H.c (((up_set hiL).1 h).resolve_left (by decide))).next he2
        · rw [upd_other (by decide), upd_other (by decide)]; exact H.f (((up_set hiL).1 h).resolve_left (by decide))
        · rw [upd_other (by decide)]; exact H.s fun q => h ((up_set hiL).2 (.inr q))
      · exact absurd s2 hu
      · exact absurd (shut_up p4 hsh s4 2 (by decide)) hu
      · exact absurd (shut_up p4 hsh (shut_up p6 hsh s6 4 (by decide)) 2 (by decide)) hu
    · obtain ⟨hu, hd⟩ := op_ready p3 hi
      refine op_at p3 fun o ho hdst => wp_load_row 24 (.tmp 8) ho bx (by rw [(fl_eval_out [27, 28, 29, 30, 31, 32, 33, 0] a x (t := 8) (by decide))]; exact h8) 24 cs (0, 0) _ (H.chn.ext.row hfar hbx) Tryd.underlying24 rfl (by rw [hcs]; exact size_pat4) ?_
      refine ⟨upd x 30 (.agg cs), cur, l, by rw [hdst, fl_put _ _ _ _ _ (by decide) (by decide)], hS, fun h => ?_, fun h => ?_, fun _ => upd_same _ _ _, fun h => ?_, ?_, fun h => ?_, fun h => ?_, H.chn⟩
      · rw [upd_other (by decide)]; exact H.m (((up_set hiL).1 h).resolve_left (by decide))
      · rw [upd_other (by decide)]; exact H.o (((up_set hiL).1 h).resolve_left (by decide))
      · rw [upd_other (by decide)]; exact H.c (((up_set hiL).1 h).resolve_left (by decide))
      · simpa only [up_set hiL, show ¬ (2 = 3) by decide, show ¬ (4 = 3) by decide, show ¬ (6 = 3) by decide, false_or, upd_other (x := x) (show 29 ≠ 30 by decide), upd_other (x := x) (show 31 ≠ 30 by decide), upd_other (x := x) (show 33 ≠ 30 by decide)] using H.st
      · rw [upd_other (by decide), upd_other (by decide)]; exact H.f (((up_set hiL).1 h).resolve_left (by decide))
      · rw [upd_other (by decide)]; exact H.s fun q => h ((up_set hiL).2 (.inr q))
    · obtain ⟨hu, hd⟩ := op_ready p4 hi
      rcases H.st with ⟨s2, -⟩ | ⟨s2, s4, s6, hx, rfl⟩ | ⟨s4, -⟩ | ⟨s6, -⟩
      · exact absurd (hd 2 (by decide)) s2
      · refine op_at p4 fun o ho hdst => wp_go ho Tryd.func14 rfl rfl #[cur, .agg cs] (by simp only [List.map_toArray, List.map_cons, List.map_nil]; rw [(fl_eval [27, 28, 29, 30, 31, 32, 33, 0] a x (d := 29) (by decide) (by decide) (by rw [hsz]; decide)), (fl_eval [27, 28, 29, 30, 31, 32, 33, 0] a x (d := 30) (by decide) (by decide) (by rw [hsz]; decide)), hx, H.k (hd 3 (by decide))]) ?_
        refine (hC w' cur H.chn.row H.chn.ext).mono ?_
        rintro e w2 ⟨v2, rfl, r2, hb2, he2, hm2⟩
        refine ⟨v2, rfl, upd x 31 v2, v2, r2, by rw [hdst, fl_put _ _ _ _ _ (by decide) (by decide)], hS, fun h => ?_, fun h => ?_, fun h => ?_, fun h => ?_, .inr (.inr (.inl ⟨(up_set hiL).2 (.inl rfl), fun h => s6 (((up_set hiL).1 h).resolve_left (by decide)), upd_same _ _ _, hm2⟩)), fun h => ?_, fun h => ?_, H.chn.next hb2 he2⟩
        · rw [upd_other (by decide)]; exact H.m (((up_set hiL).1 h).resolve_left (by decide))
        · rw [upd_other (by decide)]; exact (H.o (((up_set hiL).1 h).resolve_left (by decide))).next he2
        · rw [upd_other (by decide)]; exact H.k (((up_set hiL).1 h).resolve_left (by decide))
        · rw [upd_other (by decide)]; exact (H.c (((up_set hiL).1 h).resolve_left (by decide))).next he2
        · rw [upd_other (by decide), upd_other (by decide)]; exact H.f (((up_set hiL).1 h).resolve_left (by decide))
        · rw [upd_other (by decide)]; exact H.s fun q => h ((up_set hiL).2 (.inr q))
      · exact absurd s4 hu
      · exact absurd (shut_up p6 hsh s6 4 (by decide)) hu
    · obtain ⟨hu, hd⟩ := op_ready p5 hi
      refine op_at p5 fun o ho hdst => wp_row1 41 ho ?_
      have hb : Below w'.heap.size w' (w'.alloc (.cells #[.int .u8 (((41 : UInt8).toNat : Nat) : Int)] 5)) := (Below.refl _ _).alloc (Nat.le_refl _) _
      refine ⟨upd x 32 (.slice (some ⟨w'.heap.size, 0, none⟩) 1 1), cur, l, by rw [hdst, fl_put _ _ _ _ _ (by decide) (by decide)], hS, fun h => ?_, fun h => ?_, fun h => ?_, fun _ => ?_, ?_, fun h => ?_, fun h => ?_, H.chn.below hb⟩
      · rw [upd_other (by decide)]; exact H.m (((up_set hiL).1 h).resolve_left (by decide))
      · rw [upd_other (by decide)]; exact (H.o (((up_set hiL).1 h).resolve_left (by decide))).below hb
      · rw [upd_other (by decide)]; exact H.k (((up_set hiL).1 h).resolve_left (by decide))
      · rw [upd_same]; exact Sign.new H.chn.row 41
      · simpa only [up_set hiL, show ¬ (2 = 5) by decide, show ¬ (4 = 5) by decide, show ¬ (6 = 5) by decide, false_or, upd_other (x := x) (show 29 ≠ 32 by decide), upd_other (x := x) (show 31 ≠ 32 by decide), upd_other (x := x) (show 33 ≠ 32 by decide)] using H.st
      · rw [upd_other (by decide), upd_other (by decide)]; exact H.f (((up_set hiL).1 h).resolve_left (by decide))
      · rw [upd_other (by decide)]; exact H.s fun q => h ((up_set hiL).2 (.inr q))
    · obtain ⟨hu, hd⟩ := op_ready p6 hi
      rcases H.st with ⟨-, s4, -⟩ | ⟨-, s4, -⟩ | ⟨s4, s6, hx, hm⟩ | ⟨s6, -⟩
      · exact absurd (hd 4 (by decide)) s4
      · exact absurd (hd 4 (by decide)) s4
      · obtain ⟨g, hg, hrow, hgf⟩ := H.c (hd 5 (by decide))
        refine op_at p6 fun o ho hdst => wp_byte (.tmp 31) (.tmp 32) ho (by rw [(fl_eval [27, 28, 29, 30, 31, 32, 33, 0] a x (d := 31) (by decide) (by decide) (by rw [hsz]; decide))]; exact hx) (by rw [(fl_eval [27, 28, 29, 30, 31, 32, 33, 0] a x (d := 32) (by decide) (by decide) (by rw [hsz]; decide))]; exact hg) H.chn.row hrow hbw (hM l hm) ?_
        intro v' w2 hb2 he2
        refine ⟨upd x 33 v', v', _, by rw [hdst, fl_put _ _ _ _ _ (by decide) (by decide)], hS, fun h => ?_, fun h => ?_, fun h => ?_, fun h => ?_, .inr (.inr (.inr ⟨(up_set hiL).2 (.inl rfl), upd_same _ _ _, l, hm, rfl⟩)), fun h => absurd (shut_up p7 hsh (((up_set hiL).1 h).resolve_left (by decide)) 6 (by decide)) hu, fun h => ?_, H.chn.next hb2 he2⟩
        · rw [upd_other (by decide)]; exact H.m (((up_set hiL).1 h).resolve_left (by decide))
        · rw [upd_other (by decide)]; exact (H.o (((up_set hiL).1 h).resolve_left (by decide))).next he2
        · rw [upd_other (by decide)]; exact H.k (((up_set hiL).1 h).resolve_left (by decide))
        · rw [upd_other (by decide)]; exact (H.c (((up_set hiL).1 h).resolve_left (by decide))).next he2
        · rw [upd_other (by decide)]; exact H.s fun q => h ((up_set hiL).2 (.inr q))
      · exact absurd s6 hu
    · obtain ⟨hu, hd⟩ := op_ready p7 hi
      refine op_at p7 fun o ho hdst => wp_as ho ?_
      refine ⟨upd x 0 (x 33), cur, l, by rw [hdst, (fl_eval [27, 28, 29, 30, 31, 32, 33, 0] a x (d := 33) (by decide) (by decide) (by rw [hsz]; decide)), fl_put _ _ _ _ _ (by decide) (by decide)], hS, fun h => ?_, fun h => ?_, fun h => ?_, fun h => ?_, ?_, fun _ => by rw [upd_same, upd_other (by decide)], fun h => absurd ((up_set hiL).2 (.inl rfl)) h, H.chn⟩
      · rw [upd_other (by decide)]; exact H.m (((up_set hiL).1 h).resolve_left (by decide))
      · rw [upd_other (by decide)]; exact H.o (((up_set hiL).1 h).resolve_left (by decide))
      · rw [upd_other (by decide)]; exact H.k (((up_set hiL).1 h).resolve_left (by decide))
      · rw [upd_other (by decide)]; exact H.c (((up_set hiL).1 h).resolve_left (by decide))
      · simpa only [up_set hiL, show ¬ (2 = 7) by decide, show ¬ (4 = 7) by decide, show ¬ (6 = 7) by decide, false_or, upd_other (x := x) (show 29 ≠ 0 by decide), upd_other (x := x) (show 31 ≠ 0 by decide), upd_other (x := x) (show 33 ≠ 0 by decide)] using H.st
  · rintro L a' w' ⟨x, cur, l, rfl, H⟩ hr0
    have hs := H.size
    have u0 := op_up p0 hr0 (by omega) (by simp)
    have u1 := op_up p1 hr0 (by omega) (by simp)
    have u2 := op_up p2 hr0 (by omega) (by intro d hd; rcases List.mem_cons.1 hd with rfl | hd; exact u0; rw [List.mem_singleton.1 hd]; exact u1)
    have u3 := op_up p3 hr0 (by omega) (by simp)
    have u4 := op_up p4 hr0 (by omega) (by intro d hd; rcases List.mem_cons.1 hd with rfl | hd; exact u2; rw [List.mem_singleton.1 hd]; exact u3)
    have u5 := op_up p5 hr0 (by omega) (by simp)
    have u6 := op_up p6 hr0 (by omega) (by intro d hd; rcases List.mem_cons.1 hd with rfl | hd; exact u4; rw [List.mem_singleton.1 hd]; exact u5)
    have u7 := op_up p7 hr0 (by omega) (by
      intro d hd
      simp only [List.mem_cons, List.mem_nil_iff, or_false] at hd
      rcases hd with rfl | rfl | rfl | rfl | rfl | rfl | rfl
      · exact u0
      · exact u1
      · exact u2
      · exact u3
      · exact u4
      · exact u5
      · exact u6)
    rcases H.st with ⟨-, -, s6, -⟩ | ⟨-, -, s6, -⟩ | ⟨-, s6, -⟩ | ⟨-, hx, l0, hm, rfl⟩
    · exact absurd u6 s6
    · exact absurd u6 s6
    · exact absurd u6 s6
    · exact hQ x w' cur l0 H.chn.row hm H.chn.ext ((H.f u7).trans hx)
end Go.Proofs.YtccnomomdfjpmaaDoor
