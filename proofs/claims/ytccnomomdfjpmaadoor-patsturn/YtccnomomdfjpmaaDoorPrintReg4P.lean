/- The three statements of pats.appendWorded that leave their order open. -/
import Derived.Test.YtccnomomdfjpmaaDoorPrintBrkAP
import Derived.Test.YtccnomomdfjpmaaDoorPrintDig4M
namespace Go.Proofs.YtccnomomdfjpmaaDoor
open Go.RowKit

theorem wp_fa {P : Program} {Q : Exit → Act → World → Prop} {o : Oper} {a : Act} {w : World} {K : Act → World → Prop} {ty : TypeId} {x : Operand} {f g off : Nat} (ho : o.op = .fieldAddr ty x f) (hx : a.eval x = .pointer (some ⟨g, 0, none⟩)) (hr : (Instr.fieldAt ty (.pointer (some ⟨g, 0, none⟩)) f).run P w = .ok (.pointer (some ⟨g, off, none⟩)) w) (h : K (a.put o.dst (.pointer (some ⟨g, off, none⟩))) w) : o.wp P a w K Q := by
  unfold Oper.wp execOp
  simp only [ho, hx, Sem.run_bind, hr, Result.andThen_ok]
  exact h
theorem wp_ld {P : Program} {Q : Exit → Act → World → Prop} {o : Oper} {a : Act} {w : World} {K : Act → World → Prop} {ty : TypeId} {x : Operand} {p v : Value} (ho : o.op = .load ty x) (hx : a.eval x = p) (hr : (Instr.loadAt ty p).run P w = .ok v w) (h : K (a.put o.dst v) w) : o.wp P a w K Q := by
  unfold Oper.wp execOp
  simp only [ho, hx, Sem.run_bind, hr, Result.andThen_ok]
  exact h
theorem wp_ix {P : Program} {Q : Exit → Act → World → Prop} {o : Oper} {a : Act} {w : World} {K : Act → World → Prop} {ty : TypeId} {x i : Operand} {p v : Value} {k : Value} (ho : o.op = .indexAddr ty x i) (hx : a.eval x = p) (hr : (Instr.indexAt ty p k).run P w = .ok v w) (h : K (a.put o.dst v) w) (hi : a.eval i = k := by rfl) : o.wp P a w K Q := by
  unfold Oper.wp execOp
  simp only [ho, hx, hi, Sem.run_bind, hr, Result.andThen_ok]
  exact h
theorem qlen {t : ByteArray} : (quoteB t).data.toList.length = (quoteB t).size := by simp
/-- What holds whichever operations have come up. -/
structure NumF (B : Nat) (w0 : World) (v : Value) (r : List UInt8) (bx u : Nat) (M : List UInt8 → Prop) (L : Array Bool) (x : Nat → Value) (w : World) (cur : Value) (l : List UInt8) : Prop where
  size : L.size = 9
  f0 : Up L 0 → x 18 = v
  f1 : Up L 1 → Sign w cur 40 (x 19)
  f3 : Up L 3 → x 21 = .pointer (some ⟨bx, 2, none⟩)
  f4 : Up L 4 → x 22 = .int .i64 (u : Int)
  f6 : Up L 6 → Sign w cur 41 (x 24)
  st : (¬ Up L 2 ∧ ¬ Up L 5 ∧ ¬ Up L 7 ∧ cur = v ∧ l = r) ∨ (Up L 2 ∧ ¬ Up L 5 ∧ ¬ Up L 7 ∧ x 20 = cur ∧ (fun l => l = r ++ [40]) l) ∨ (Up L 5 ∧ ¬ Up L 7 ∧ x 23 = cur ∧ (M) l) ∨ (Up L 7 ∧ x 25 = cur ∧ (fun l => ∃ l0, M l0 ∧ l = l0 ++ [41]) l)
  fz : Up L 8 → x 4 = x 25
  chn : Chn B w0 v w cur l
set_option maxHeartbeats 1000000 in
theorem num_region {ops : Array Oper} {id : Nat} {Q : Exit → Act → World → Prop} {a : Act} {w : World} {v : Value} {r : List UInt8} {B : Nat} {bx : Nat} {row : Obj} {u : Nat} {M : List UInt8 → Prop}
    (p0 : OpIs ops 0 (.move (.tmp 0)) 18 [])
    (p1 : OpIs ops 1 (.buildSlice 39 1 #[(0, .const (.int .u8 40))]) 19 [])
    (p2 : OpIs ops 2 (.call { callee := .builtin .append, args := #[.tmp 18, .tmp 19], argTypes := #[39, 39] }) 20 [0, 1])
    (p3 : OpIs ops 3 (.fieldAddr 24 (.tmp 3) 2) 21 [])
    (p4 : OpIs ops 4 (.load 3 (.tmp 21)) 22 [3])
    (p5 : OpIs ops 5 (.call { callee := .value (.func 45), args := #[.tmp 20, .tmp 22, .const (.int .i64 10)], argTypes := #[39, 2, 3] }) 23 [2, 4])
    (p6 : OpIs ops 6 (.buildSlice 39 1 #[(0, .const (.int .u8 41))]) 24 [])
    (p7 : OpIs ops 7 (.call { callee := .builtin .append, args := #[.tmp 23, .tmp 24], argTypes := #[39, 39] }) 25 [5, 6])
    (p8 : OpIs ops 8 (.assign (.tmp 25)) 4 [0, 1, 2, 3, 4, 5, 6, 7])
    (hn : ops.size = 9) (hsz : a.tmps.size = 54) (h0 : a.eval (.tmp 0) = v) (hv : Bytes w B v r) (hB : B ≤ w.heap.size)
    (hr : r.length + 140000 ≤ 100000000) (h3 : a.eval (.tmp 3) = .pointer (some ⟨bx, 0, none⟩)) (hbx : w.heap[bx]? = some row) (hfar : some bx ≠ v.ownBlock) (hfa : ∀ W, (Instr.fieldAt 24 (.pointer (some ⟨bx, 0, none⟩)) 2).run Tryd.prog W = .ok (.pointer (some ⟨bx, 2, none⟩)) W) (hld : ∀ W : World, W.heap[bx]? = some row → (Instr.loadAt 3 (.pointer (some ⟨bx, 2, none⟩))).run Tryd.prog W = .ok (.int .i64 (u : Int)) W) (hM : ∀ l, M l → l.length + 1 ≤ 100000000)
    (hC : ∀ w1 v1, Bytes w1 B v1 (r ++ [40]) → Ext w w1 v v1 → Calls Tryd.prog 45 #[v1, .int .i64 (u : Int), .int .i64 10] w1 fun e w2 => ∃ v2, e = .returned v2 ∧ ∃ r2, Bytes w2 B v2 r2 ∧ Ext w1 w2 v1 v2 ∧ M r2)
    (hQ : ∀ x w2 v2 l2, Bytes w2 B v2 l2 → (fun l => ∃ l0, M l0 ∧ l = l0 ++ [41]) l2 → Ext w w2 v v2 → x 4 = v2 → Q .normal (fl a [18, 19, 20, 21, 22, 23, 24, 25, 4] x) w2) : (Code.region id ops true).wp Tryd.prog Q a w := by
  refine region_inv2 (I := fun L a' w' => ∃ x cur l, a' = fl a [18, 19, 20, 21, 22, 23, 24, 25, 4] x ∧ NumF B w v r bx u M L x w' cur l) rfl ?_ ?_ ?_
  · have hd : Below w.heap.size w w.drew := (Below.refl _ _).drew
    exact ⟨fun d => a.eval (.tmp d), v, r, (fl_self _ a).symm, by rw [hn]; rfl, fun h => absurd h up_new, fun h => absurd h up_new, fun h => absurd h up_new, fun h => absurd h up_new, fun h => absurd h up_new, .inl ⟨up_new, up_new, up_new, rfl, rfl⟩, fun h => absurd h up_new, hv.later hd, Ext.below v hd⟩
  · rintro L a' w' i ⟨x, cur, l, rfl, H⟩ hsh hi
    have hs := H.size
    have hlt : i < 9 := by
      obtain ⟨-, o, ho, -⟩ := mem_ready.1 hi
      have := (Array.getElem?_eq_some_iff.1 ho).1
      omega
    have hiL : i < L.size := by rw [hs]; exact hlt
    have hS : (L.setIfInBounds i true).size = 9 := by simp [hs]
    have hbw : B ≤ w'.heap.size := Nat.le_trans hB H.chn.ext.grown.size
    rcases (show i = 0 ∨ i = 1 ∨ i = 2 ∨ i = 3 ∨ i = 4 ∨ i = 5 ∨ i = 6 ∨ i = 7 ∨ i = 8 by omega) with rfl | rfl | rfl | rfl | rfl | rfl | rfl | rfl | rfl
    · obtain ⟨hu, hd⟩ := op_ready p0 hi
      refine op_at p0 fun o ho hdst => wp_mv ho ?_
      refine ⟨upd x 18 v, cur, l, by rw [hdst, (fl_eval_out [18, 19, 20, 21, 22, 23, 24, 25, 4] a x (t := 0) (by decide)), h0, fl_put _ _ _ _ _ (by decide) (by decide)], hS, fun _ => upd_same _ _ _, fun h => ?_, fun h => ?_, fun h => ?_, fun h => ?_, ?_, fun h => ?_, H.chn⟩
      · rw [upd_other (by decide)]; exact H.f1 (((up_set hiL).1 h).resolve_left (by decide))
      · rw [upd_other (by decide)]; exact H.f3 (((up_set hiL).1 h).resolve_left (by decide))
      · rw [upd_other (by decide)]; exact H.f4 (((up_set hiL).1 h).resolve_left (by decide))
      · rw [upd_other (by decide)]; exact H.f6 (((up_set hiL).1 h).resolve_left (by decide))
      · simpa only [up_set hiL, show ¬ (2 = 0) by decide, show ¬ (5 = 0) by decide, show ¬ (7 = 0) by decide, false_or, upd_other (x := x) (show 20 ≠ 18 by decide), upd_other (x := x) (show 23 ≠ 18 by decide), upd_other (x := x) (show 25 ≠ 18 by decide)] using H.st
      · rw [upd_other (by decide), upd_other (by decide)]; exact H.fz (((up_set hiL).1 h).resolve_left (by decide))
    · obtain ⟨hu, hd⟩ := op_ready p1 hi
      refine op_at p1 fun o ho hdst => wp_row1 40 ho ?_
      have hb : Below w'.heap.size w' (w'.alloc (.cells #[.int .u8 (((40 : UInt8).toNat : Nat) : Int)] 5)) := (Below.refl _ _).alloc (Nat.le_refl _) _
      refine ⟨upd x 19 (.slice (some ⟨w'.heap.size, 0, none⟩) 1 1), cur, l, by rw [hdst, fl_put _ _ _ _ _ (by decide) (by decide)], hS, fun h => ?_, fun _ => by rw [upd_same]; exact Sign.new H.chn.row 40, fun h => ?_, fun h => ?_, fun h => ?_, ?_, fun h => ?_, H.chn.below hb⟩
      · rw [upd_other (by decide)]; exact H.f0 (((up_set hiL).1 h).resolve_left (by decide))
      · rw [upd_other (by decide)]; exact H.f3 (((up_set hiL).1 h).resolve_left (by decide))
      · rw [upd_other (by decide)]; exact H.f4 (((up_set hiL).1 h).resolve_left (by decide))
      · rw [upd_other (by decide)]; exact (H.f6 (((up_set hiL).1 h).resolve_left (by decide))).below hb
      · simpa only [up_set hiL, show ¬ (2 = 1) by decide, show ¬ (5 = 1) by decide, show ¬ (7 = 1) by decide, false_or, upd_other (x := x) (show 20 ≠ 19 by decide), upd_other (x := x) (show 23 ≠ 19 by decide), upd_other (x := x) (show 25 ≠ 19 by decide)] using H.st
      · rw [upd_other (by decide), upd_other (by decide)]; exact H.fz (((up_set hiL).1 h).resolve_left (by decide))
    · obtain ⟨hu, hd⟩ := op_ready p2 hi
      rcases H.st with ⟨s2, s5, s7, rfl, rfl⟩ | ⟨s2, -⟩ | ⟨s5, -⟩ | ⟨s7, -⟩
      · obtain ⟨g, hg, hrow, hgf⟩ := H.f1 (hd 1 (by decide))
        refine op_at p2 fun o ho hdst => wp_byte (.tmp 18) (.tmp 19) ho (by rw [(fl_eval [18, 19, 20, 21, 22, 23, 24, 25, 4] a x (d := 18) (by decide) (by decide) (by rw [hsz]; decide))]; exact H.f0 (hd 0 (by decide))) (by rw [(fl_eval [18, 19, 20, 21, 22, 23, 24, 25, 4] a x (d := 19) (by decide) (by decide) (by rw [hsz]; decide))]; exact hg) H.chn.row hrow hbw (by omega) ?_
        intro v' w2 hb2 he2
        refine ⟨upd x 20 v', v', _, by rw [hdst, fl_put _ _ _ _ _ (by decide) (by decide)], hS, fun h => ?_, fun h => ?_, fun h => ?_, fun h => ?_, fun h => ?_, .inr (.inl ⟨(up_set hiL).2 (.inl rfl), fun h => s5 (((up_set hiL).1 h).resolve_left (by decide)), fun h => s7 (((up_set hiL).1 h).resolve_left (by decide)), upd_same _ _ _, rfl⟩), fun h => ?_, H.chn.next hb2 he2⟩
        · rw [upd_other (by decide)]; exact H.f0 (((up_set hiL).1 h).resolve_left (by decide))
        · rw [upd_other (by decide)]; exact (H.f1 (((up_set hiL).1 h).resolve_left (by decide))).next he2
        · rw [upd_other (by decide)]; exact H.f3 (((up_set hiL).1 h).resolve_left (by decide))
        · rw [upd_other (by decide)]; exact H.f4 (((up_set hiL).1 h).resolve_left (by decide))
        · rw [upd_other (by decide)]; exact (H.f6 (((up_set hiL).1 h).resolve_left (by decide))).next he2
        · rw [upd_other (by decide), upd_other (by decide)]; exact H.fz (((up_set hiL).1 h).resolve_left (by decide))
      · exact absurd s2 hu
      · exact absurd (shut_up p5 hsh s5 2 (by decide)) hu
      · exact absurd (shut_up p5 hsh (shut_up p7 hsh s7 5 (by decide)) 2 (by decide)) hu
    · obtain ⟨hu, hd⟩ := op_ready p3 hi
      refine op_at p3 fun o ho hdst => wp_fa ho (by rw [(fl_eval_out [18, 19, 20, 21, 22, 23, 24, 25, 4] a x (t := 3) (by decide))]; exact h3) (hfa w') ?_
      refine ⟨upd x 21 (.pointer (some ⟨bx, 2, none⟩)), cur, l, by rw [hdst, fl_put _ _ _ _ _ (by decide) (by decide)], hS, fun h => ?_, fun h => ?_, fun _ => upd_same _ _ _, fun h => ?_, fun h => ?_, ?_, fun h => ?_, H.chn⟩
      · rw [upd_other (by decide)]; exact H.f0 (((up_set hiL).1 h).resolve_left (by decide))
      · rw [upd_other (by decide)]; exact H.f1 (((up_set hiL).1 h).resolve_left (by decide))
      · rw [upd_other (by decide)]; exact H.f4 (((up_set hiL).1 h).resolve_left (by decide))
      · rw [upd_other (by decide)]; exact H.f6 (((up_set hiL).1 h).resolve_left (by decide))
      · simpa only [up_set hiL, show ¬ (2 = 3) by decide, show ¬ (5 = 3) by decide, show ¬ (7 = 3) by decide, false_or, upd_other (x := x) (show 20 ≠ 21 by decide), upd_other (x := x) (show 23 ≠ 21 by decide), upd_other (x := x) (show 25 ≠ 21 by decide)] using H.st
      · rw [upd_other (by decide), upd_other (by decide)]; exact H.fz (((up_set hiL).1 h).resolve_left (by decide))
    · obtain ⟨hu, hd⟩ := op_ready p4 hi
      refine op_at p4 fun o ho hdst => wp_ld ho (by rw [(fl_eval [18, 19, 20, 21, 22, 23, 24, 25, 4] a x (d := 21) (by decide) (by decide) (by rw [hsz]; decide))]; exact H.f3 (hd 3 (by decide))) (hld w' (H.chn.ext.row hfar hbx)) ?_
      refine ⟨upd x 22 (.int .i64 (u : Int)), cur, l, by rw [hdst, fl_put _ _ _ _ _ (by decide) (by decide)], hS, fun h => ?_, fun h => ?_, fun h => ?_, fun _ => upd_same _ _ _, fun h => ?_, ?_, fun h => ?_, H.chn⟩
      · rw [upd_other (by decide)]; exact H.f0 (((up_set hiL).1 h).resolve_left (by decide))
      · rw [upd_other (by decide)]; exact H.f1 (((up_set hiL).1 h).resolve_left (by decide))
      · rw [upd_other (by decide)]; exact H.f3 (((up_set hiL).1 h).resolve_left (by decide))
      · rw [upd_other (by decide)]; exact H.f6 (((up_set hiL).1 h).resolve_left (by decide))
      · simpa only [up_set hiL, show ¬ (2 = 4) by decide, show ¬ (5 = 4) by decide, show ¬ (7 = 4) by decide, false_or, upd_other (x := x) (show 20 ≠ 22 by decide), upd_other (x := x) (show 23 ≠ 22 by decide), upd_other (x := x) (show 25 ≠ 22 by decide)] using H.st
      · rw [upd_other (by decide), upd_other (by decide)]; exact H.fz (((up_set hiL).1 h).resolve_left (by decide))
    · obtain ⟨hu, hd⟩ := op_ready p5 hi
      rcases H.st with ⟨s2, -⟩ | ⟨s2, s5, s7, hx, hl⟩ | ⟨s5, -⟩ | ⟨s7, -⟩
      · exact absurd (hd 2 (by decide)) s2
      · refine op_at p5 fun o ho hdst => wp_go ho Tryd.func45 rfl rfl #[cur, .int .i64 (u : Int), .int .i64 10] (by simp only [List.map_toArray, List.map_cons, List.map_nil]; rw [(fl_eval [18, 19, 20, 21, 22, 23, 24, 25, 4] a x (d := 20) (by decide) (by decide) (by rw [hsz]; decide)), (fl_eval [18, 19, 20, 21, 22, 23, 24, 25, 4] a x (d := 22) (by decide) (by decide) (by rw [hsz]; decide)), hx, H.f4 (hd 4 (by decide))]; rfl) ((hC w' cur (hl ▸ H.chn.row) H.chn.ext).mono ?_)
        rintro e w2 ⟨v2, rfl, r2, hb2, he2, hm2⟩
        refine ⟨v2, rfl, upd x 23 v2, v2, r2, by rw [hdst, fl_put _ _ _ _ _ (by decide) (by decide)], hS, fun h => ?_, fun h => ?_, fun h => ?_, fun h => ?_, fun h => ?_, .inr (.inr (.inl ⟨(up_set hiL).2 (.inl rfl), fun h => s7 (((up_set hiL).1 h).resolve_left (by decide)), upd_same _ _ _, hm2⟩)), fun h => ?_, H.chn.next hb2 he2⟩
        · rw [upd_other (by decide)]; exact H.f0 (((up_set hiL).1 h).resolve_left (by decide))
        · rw [upd_other (by decide)]; exact (H.f1 (((up_set hiL).1 h).resolve_left (by decide))).next he2
        · rw [upd_other (by decide)]; exact H.f3 (((up_set hiL).1 h).resolve_left (by decide))
        · rw [upd_other (by decide)]; exact H.f4 (((up_set hiL).1 h).resolve_left (by decide))
        · rw [upd_other (by decide)]; exact (H.f6 (((up_set hiL).1 h).resolve_left (by decide))).next he2
        · rw [upd_other (by decide), upd_other (by decide)]; exact H.fz (((up_set hiL).1 h).resolve_left (by decide))
      · exact absurd s5 hu
      · exact absurd (shut_up p7 hsh s7 5 (by decide)) hu
    · obtain ⟨hu, hd⟩ := op_ready p6 hi
      refine op_at p6 fun o ho hdst => wp_row1 41 ho ?_
      have hb : Below w'.heap.size w' (w'.alloc (.cells #[.int .u8 (((41 : UInt8).toNat : Nat) : Int)] 5)) := (Below.refl _ _).alloc (Nat.le_refl _) _
      refine ⟨upd x 24 (.slice (some ⟨w'.heap.size, 0, none⟩) 1 1), cur, l, by rw [hdst, fl_put _ _ _ _ _ (by decide) (by decide)], hS, fun h => ?_, fun h => ?_, fun h => ?_, fun h => ?_, fun _ => by rw [upd_same]; exact Sign.new H.chn.row 41, ?_, fun h => ?_, H.chn.below hb⟩
      · rw [upd_other (by decide)]; exact H.f0 (((up_set hiL).1 h).resolve_left (by decide))
      · rw [upd_other (by decide)]; exact (H.f1 (((up_set hiL).1 h).resolve_left (by decide))).below hb
      · rw [upd_other (by decide)]; exact H.f3 (((up_set hiL).1 h).resolve_left (by decide))
      · rw [upd_other (by decide)]; exact H.f4 (((up_set hiL).1 h).resolve_left (by decide))
      · simpa only [up_set hiL, show ¬ (2 = 6) by decide, show ¬ (5 = 6) by decide, show ¬ (7 = 6) by decide, false_or, upd_other (x := x) (show 20 ≠ 24 by decide), upd_other (x := x) (show 23 ≠ 24 by decide), upd_other (x := x) (show 25 ≠ 24 by decide)] using H.st
      · rw [upd_other (by decide), upd_other (by decide)]; exact H.fz (((up_set hiL).1 h).resolve_left (by decide))
    · obtain ⟨hu, hd⟩ := op_ready p7 hi
      rcases H.st with ⟨-, s5, -⟩ | ⟨-, s5, -⟩ | ⟨s5, s7, hx, hl⟩ | ⟨s7, -⟩
      · exact absurd (hd 5 (by decide)) s5
      · exact absurd (hd 5 (by decide)) s5
      · obtain ⟨g, hg, hrow, hgf⟩ := H.f6 (hd 6 (by decide))
        refine op_at p7 fun o ho hdst => wp_byte (.tmp 23) (.tmp 24) ho (by rw [(fl_eval [18, 19, 20, 21, 22, 23, 24, 25, 4] a x (d := 23) (by decide) (by decide) (by rw [hsz]; decide))]; exact hx) (by rw [(fl_eval [18, 19, 20, 21, 22, 23, 24, 25, 4] a x (d := 24) (by decide) (by decide) (by rw [hsz]; decide))]; exact hg) H.chn.row hrow hbw (hM l hl) ?_
        intro v' w2 hb2 he2
        refine ⟨upd x 25 v', v', _, by rw [hdst, fl_put _ _ _ _ _ (by decide) (by decide)], hS, fun h => ?_, fun h => ?_, fun h => ?_, fun h => ?_, fun h => ?_, .inr (.inr (.inr (⟨(up_set hiL).2 (.inl rfl), upd_same _ _ _, ⟨l, hl, rfl⟩⟩))), fun h => absurd (shut_up p8 hsh (((up_set hiL).1 h).resolve_left (by decide)) 7 (by decide)) hu, H.chn.next hb2 he2⟩
        · rw [upd_other (by decide)]; exact H.f0 (((up_set hiL).1 h).resolve_left (by decide))
        · rw [upd_other (by decide)]; exact (H.f1 (((up_set hiL).1 h).resolve_left (by decide))).next he2
        · rw [upd_other (by decide)]; exact H.f3 (((up_set hiL).1 h).resolve_left (by decide))
        · rw [upd_other (by decide)]; exact H.f4 (((up_set hiL).1 h).resolve_left (by decide))
        · rw [upd_other (by decide)]; exact (H.f6 (((up_set hiL).1 h).resolve_left (by decide))).next he2
      · exact absurd s7 hu
    · obtain ⟨hu, hd⟩ := op_ready p8 hi
      refine op_at p8 fun o ho hdst => wp_as ho ?_
      refine ⟨upd x 4 (x 25), cur, l, by rw [hdst, (fl_eval [18, 19, 20, 21, 22, 23, 24, 25, 4] a x (d := 25) (by decide) (by decide) (by rw [hsz]; decide)), fl_put _ _ _ _ _ (by decide) (by decide)], hS, fun h => ?_, fun h => ?_, fun h => ?_, fun h => ?_, fun h => ?_, ?_, fun _ => by rw [upd_same, upd_other (by decide)], H.chn⟩
      · rw [upd_other (by decide)]; exact H.f0 (((up_set hiL).1 h).resolve_left (by decide))
      · rw [upd_other (by decide)]; exact H.f1 (((up_set hiL).1 h).resolve_left (by decide))
      · rw [upd_other (by decide)]; exact H.f3 (((up_set hiL).1 h).resolve_left (by decide))
      · rw [upd_other (by decide)]; exact H.f4 (((up_set hiL).1 h).resolve_left (by decide))
      · rw [upd_other (by decide)]; exact H.f6 (((up_set hiL).1 h).resolve_left (by decide))
      · simpa only [up_set hiL, show ¬ (2 = 8) by decide, show ¬ (5 = 8) by decide, show ¬ (7 = 8) by decide, false_or, upd_other (x := x) (show 20 ≠ 4 by decide), upd_other (x := x) (show 23 ≠ 4 by decide), upd_other (x := x) (show 25 ≠ 4 by decide)] using H.st
  · rintro L a' w' ⟨x, cur, l, rfl, H⟩ hr0
    have hs := H.size
    have u0 := op_up p0 hr0 (by omega) (by simp)
    have u1 := op_up p1 hr0 (by omega) (by simp)
    have u2 := op_up p2 hr0 (by omega) (by
      intro d hd
      simp only [List.mem_cons, List.mem_nil_iff, or_false] at hd
      rcases hd with rfl | rfl
      · exact u0
      · exact u1)
    have u3 := op_up p3 hr0 (by omega) (by simp)
    have u4 := op_up p4 hr0 (by omega) (by
      intro d hd
      simp only [List.mem_cons, List.mem_nil_iff, or_false] at hd
      rcases hd with rfl
      exact u3)
    have u5 := op_up p5 hr0 (by omega) (by
      intro d hd
      simp only [List.mem_cons, List.mem_nil_iff, or_false] at hd
      rcases hd with rfl | rfl
      · exact u2
      · exact u4)
    have u6 := op_up p6 hr0 (by omega) (by simp)
    have u7 := op_up p7 hr0 (by omega) (by
      intro d hd
      simp only [List.mem_cons, List.mem_nil_iff, or_false] at hd
      rcases hd with rfl | rfl
      · exact u5
      · exact u6)
    have u8 := op_up p8 hr0 (by omega) (by
      intro d hd
      simp only [List.mem_cons, List.mem_nil_iff, or_false] at hd
      rcases hd with rfl | rfl | rfl | rfl | rfl | rfl | rfl | rfl
      · exact u0
      · exact u1
      · exact u2
      · exact u3
      · exact u4
      · exact u5
      · exact u6
      · exact u7)
    rcases H.st with ⟨-, -, sz, -⟩ | ⟨-, -, sz, -⟩ | ⟨-, sz, -⟩ | ⟨-, hx, hl⟩
    · exact absurd u7 sz
    · exact absurd u7 sz
    · exact absurd u7 sz
    · exact hQ x w' cur l H.chn.row hl H.chn.ext ((H.fz u8).trans hx)
/-- What holds whichever operations have come up. -/
structure ArbF (B : Nat) (w0 : World) (v : Value) (r : List UInt8) (bx : Nat) (kids kp kid : Value) (M : List UInt8 → Prop) (L : Array Bool) (x : Nat → Value) (w : World) (cur : Value) (l : List UInt8) : Prop where
  size : L.size = 11
  f0 : Up L 0 → x 43 = v
  f1 : Up L 1 → Sign w cur 40 (x 44)
  f3 : Up L 3 → x 46 = .pointer (some ⟨bx, 4, none⟩)
  f4 : Up L 4 → x 47 = kids
  f5 : Up L 5 → x 48 = kp
  f6 : Up L 6 → x 49 = kid
  f8 : Up L 8 → Sign w cur 41 (x 51)
  st : (¬ Up L 2 ∧ ¬ Up L 7 ∧ ¬ Up L 9 ∧ cur = v ∧ l = r) ∨ (Up L 2 ∧ ¬ Up L 7 ∧ ¬ Up L 9 ∧ x 45 = cur ∧ (fun l => l = r ++ [40]) l) ∨ (Up L 7 ∧ ¬ Up L 9 ∧ x 50 = cur ∧ (M) l) ∨ (Up L 9 ∧ x 52 = cur ∧ (fun l => ∃ l0, M l0 ∧ l = l0 ++ [41]) l)
  fz : Up L 10 → x 4 = x 52
  chn : Chn B w0 v w cur l
set_option maxHeartbeats 1000000 in
theorem arb_region {ops : Array Oper} {id : Nat} {Q : Exit → Act → World → Prop} {a : Act} {w : World} {v : Value} {r : List UInt8} {B : Nat} {bx : Nat} {row : Obj} {kids kp kid : Value} {M : List UInt8 → Prop}
    (p0 : OpIs ops 0 (.move (.tmp 0)) 43 [])
    (p1 : OpIs ops 1 (.buildSlice 39 1 #[(0, .const (.int .u8 40))]) 44 [])
    (p2 : OpIs ops 2 (.call { callee := .builtin .append, args := #[.tmp 43, .tmp 44], argTypes := #[39, 39] }) 45 [0, 1])
    (p3 : OpIs ops 3 (.fieldAddr 24 (.tmp 3) 4) 46 [])
    (p4 : OpIs ops 4 (.load 22 (.tmp 46)) 47 [3])
    (p5 : OpIs ops 5 (.indexAddr 22 (.tmp 47) (.const (.int .i64 0))) 48 [4])
    (p6 : OpIs ops 6 (.load 24 (.tmp 48)) 49 [5])
    (p7 : OpIs ops 7 (.call { callee := .value (.func 14), args := #[.tmp 45, .tmp 49], argTypes := #[39, 24] }) 50 [2, 6])
    (p8 : OpIs ops 8 (.buildSlice 39 1 #[(0, .const (.int .u8 41))]) 51 [])
    (p9 : OpIs ops 9 (.call { callee := .builtin .append, args := #[.tmp 50, .tmp 51], argTypes := #[39, 39] }) 52 [7, 8])
    (p10 : OpIs ops 10 (.assign (.tmp 52)) 4 [0, 1, 2, 3, 4, 5, 6, 7, 8, 9])
    (hn : ops.size = 11) (hsz : a.tmps.size = 54) (h0 : a.eval (.tmp 0) = v) (hv : Bytes w B v r) (hB : B ≤ w.heap.size)
    (hr : r.length + 140000 ≤ 100000000) (h3 : a.eval (.tmp 3) = .pointer (some ⟨bx, 0, none⟩)) (hbx : w.heap[bx]? = some row) (hfar : some bx ≠ v.ownBlock) (hfa : ∀ W, (Instr.fieldAt 24 (.pointer (some ⟨bx, 0, none⟩)) 4).run Tryd.prog W = .ok (.pointer (some ⟨bx, 4, none⟩)) W) (hld : ∀ W : World, W.heap[bx]? = some row → (Instr.loadAt 22 (.pointer (some ⟨bx, 4, none⟩))).run Tryd.prog W = .ok kids W) (hix : ∀ W, (Instr.indexAt 22 kids (.int .i64 0)).run Tryd.prog W = .ok kp W) (hkd : ∀ (W : World) {c : Value}, Ext w W v c → (Instr.loadAt 24 kp).run Tryd.prog W = .ok kid W) (hM : ∀ l, M l → l.length + 1 ≤ 100000000)
    (hC : ∀ w1 v1, Bytes w1 B v1 (r ++ [40]) → Ext w w1 v v1 → Calls Tryd.prog 14 #[v1, kid] w1 fun e w2 => ∃ v2, e = .returned v2 ∧ ∃ r2, Bytes w2 B v2 r2 ∧ Ext w1 w2 v1 v2 ∧ M r2)
    (hQ : ∀ x w2 v2 l2, Bytes w2 B v2 l2 → (fun l => ∃ l0, M l0 ∧ l = l0 ++ [41]) l2 → Ext w w2 v v2 → x 4 = v2 → Q .normal (fl a [43, 44, 45, 46, 47, 48, 49, 50, 51, 52, 4] x) w2) : (Code.region id ops true).wp Tryd.prog Q a w := by
  refine region_inv2 (I := fun L a' w' => ∃ x cur l, a' = fl a [43, 44, 45, 46, 47, 48, 49, 50, 51, 52, 4] x ∧ ArbF B w v r bx kids kp kid M L x w' cur l) rfl ?_ ?_ ?_
  · have hd : Below w.heap.size w w.drew := (Below.refl _ _).drew
    exact ⟨fun d => a.eval (.tmp d), v, r, (fl_self _ a).symm, by rw [hn]; rfl, fun h => absurd h up_new, fun h => absurd h up_new, fun h => absurd h up_new, fun h => absurd h up_new, fun h => absurd h up_new, fun h => absurd h up_new, fun h => absurd h up_new, .inl ⟨up_new, up_new, up_new, rfl, rfl⟩, fun h => absurd h up_new, hv.later hd, Ext.below v hd⟩
  · rintro L a' w' i ⟨x, cur, l, rfl, H⟩ hsh hi
    have hs := H.size
    have hlt : i < 11 := by
      obtain ⟨-, o, ho, -⟩ := mem_ready.1 hi
      have := (Array.getElem?_eq_some_iff.1 ho).1
      omega
    have hiL : i < L.size := by rw [hs]; exact hlt
    have hS : (L.setIfInBounds i true).size = 11 := by simp [hs]
    have hbw : B ≤ w'.heap.size := Nat.le_trans hB H.chn.ext.grown.size
    rcases (show i = 0 ∨ i = 1 ∨ i = 2 ∨ i = 3 ∨ i = 4 ∨ i = 5 ∨ i = 6 ∨ i = 7 ∨ i = 8 ∨ i = 9 ∨ i = 10 by omega) with rfl | rfl | rfl | rfl | rfl | rfl | rfl | rfl | rfl | rfl | rfl
    · obtain ⟨hu, hd⟩ := op_ready p0 hi
      refine op_at p0 fun o ho hdst => wp_mv ho ?_
      refine ⟨upd x 43 v, cur, l, by rw [hdst, (fl_eval_out [43, 44, 45, 46, 47, 48, 49, 50, 51, 52, 4] a x (t := 0) (by decide)), h0, fl_put _ _ _ _ _ (by decide) (by decide)], hS, fun _ => upd_same _ _ _, fun h => ?_, fun h => ?_, fun h => ?_, fun h => ?_, fun h => ?_, fun h => ?_, ?_, fun h => ?_, H.chn⟩
      · rw [upd_other (by decide)]; exact H.f1 (((up_set hiL).1 h).resolve_left (by decide))
      · rw [upd_other (by decide)]; exact H.f3 (((up_set hiL).1 h).resolve_left (by decide))
      · rw [upd_other (by decide)]; exact H.f4 (((up_set hiL).1 h).resolve_left (by decide))
      · rw [upd_other (by decide)]; exact H.f5 (((up_set hiL).1 h).resolve_left (by decide))
      · rw [upd_other (by decide)]; exact H.f6 (((up_set hiL).1 h).resolve_left (by decide))
      · rw [upd_other (by decide)]; exact H.f8 (((up_set hiL).1 h).resolve_left (by decide))
      · simpa only [up_set hiL, show ¬ (2 = 0) by decide, show ¬ (7 = 0) by decide, show ¬ (9 = 0) by decide, false_or, upd_other (x := x) (show 45 ≠ 43 by decide), upd_other (x := x) (show 50 ≠ 43 by decide), upd_other (x := x) (show 52 ≠ 43 by decide)] using H.st
      · rw [upd_other (by decide), upd_other (by decide)]; exact H.fz (((up_set hiL).1 h).resolve_left (by decide))
    · obtain ⟨hu, hd⟩ := op_ready p1 hi
      refine op_at p1 fun o ho hdst => wp_row1 40 ho ?_
      have hb : Below w'.heap.size w' (w'.alloc (.cells #[.int .u8 (((40 : UInt8).toNat : Nat) : Int)] 5)) := (Below.refl _ _).alloc (Nat.le_refl _) _
      refine ⟨upd x 44 (.slice (some ⟨w'.heap.size, 0, none⟩) 1 1), cur, l, by rw [hdst, fl_put _ _ _ _ _ (by decide) (by decide)], hS, fun h => ?_, fun _ => by rw [upd_same]; exact Sign.new H.chn.row 40, fun h => ?_, fun h => ?_, fun h => ?_, fun h => ?_, fun h => ?_, ?_, fun h => ?_, H.chn.below hb⟩
      · rw [upd_other (by decide)]; exact H.f0 (((up_set hiL).1 h).resolve_left (by decide))
      · rw [upd_other (by decide)]; exact H.f3 (((up_set hiL).1 h).resolve_left (by decide))
      · rw [upd_other (by decide)]; exact H.f4 (((up_set hiL).1 h).resolve_left (by decide))
      · rw [upd_other (by decide)]; exact H.f5 (((up_set hiL).1 h).resolve_left (by decide))
      · rw [upd_other (by decide)]; exact H.f6 (((up_set hiL).1 h).resolve_left (by decide))
      · rw [upd_other (by decide)]; exact (H.f8 (((up_set hiL).1 h).resolve_left (by decide))).below hb
      · simpa only [up_set hiL, show ¬ (2 = 1) by decide, show ¬ (7 = 1) by decide, show ¬ (9 = 1) by decide, false_or, upd_other (x := x) (show 45 ≠ 44 by decide), upd_other (x := x) (show 50 ≠ 44 by decide), upd_other (x := x) (show 52 ≠ 44 by decide)] using H.st
      · rw [upd_other (by decide), upd_other (by decide)]; exact H.fz (((up_set hiL).1 h).resolve_left (by decide))
    · obtain ⟨hu, hd⟩ := op_ready p2 hi
      rcases H.st with ⟨s2, s7, s9, rfl, rfl⟩ | ⟨s2, -⟩ | ⟨s7, -⟩ | ⟨s9, -⟩
      · obtain ⟨g, hg, hrow, hgf⟩ := H.f1 (hd 1 (by decide))
        refine op_at p2 fun o ho hdst => wp_byte (.tmp 43) (.tmp 44) ho (by rw [(fl_eval [43, 44, 45, 46, 47, 48, 49, 50, 51, 52, 4] a x (d := 43) (by decide) (by decide) (by rw [hsz]; decide))]; exact H.f0 (hd 0 (by decide))) (by rw [(fl_eval [43, 44, 45, 46, 47, 48, 49, 50, 51, 52, 4] a x (d := 44) (by decide) (by decide) (by rw [hsz]; decide))]; exact hg) H.chn.row hrow hbw (by omega) ?_
        intro v' w2 hb2 he2
        refine ⟨upd x 45 v', v', _, by rw [hdst, fl_put _ _ _ _ _ (by decide) (by decide)], hS, fun h => ?_, fun h => ?_, fun h => ?_, fun h => ?_, fun h => ?_, fun h => ?_, fun h => ?_, .inr (.inl ⟨(up_set hiL).2 (.inl rfl), fun h => s7 (((up_set hiL).1 h).resolve_left (by decide)), fun h => s9 (((up_set hiL).1 h).resolve_left (by decide)), upd_same _ _ _, rfl⟩), fun h => ?_, H.chn.next hb2 he2⟩
        · rw [upd_other (by decide)]; exact H.f0 (((up_set hiL).1 h).resolve_left (by decide))
        · rw [upd_other (by decide)]; exact (H.f1 (((up_set hiL).1 h).resolve_left (by decide))).next he2
        · rw [upd_other (by decide)]; exact H.f3 (((up_set hiL).1 h).resolve_left (by decide))
        · rw [upd_other (by decide)]; exact H.f4 (((up_set hiL).1 h).resolve_left (by decide))
        · rw [upd_other (by decide)]; exact H.f5 (((up_set hiL).1 h).resolve_left (by decide))
        · rw [upd_other (by decide)]; exact H.f6 (((up_set hiL).1 h).resolve_left (by decide))
        · rw [upd_other (by decide)]; exact (H.f8 (((up_set hiL).1 h).resolve_left (by decide))).next he2
        · rw [upd_other (by decide), upd_other (by decide)]; exact H.fz (((up_set hiL).1 h).resolve_left (by decide))
      · exact absurd s2 hu
      · exact absurd (shut_up p7 hsh s7 2 (by decide)) hu
      · exact absurd (shut_up p7 hsh (shut_up p9 hsh s9 7 (by decide)) 2 (by decide)) hu
    · obtain ⟨hu, hd⟩ := op_ready p3 hi
      refine op_at p3 fun o ho hdst => wp_fa ho (by rw [(fl_eval_out [43, 44, 45, 46, 47, 48, 49, 50, 51, 52, 4] a x (t := 3) (by decide))]; exact h3) (hfa w') ?_
      refine ⟨upd x 46 (.pointer (some ⟨bx, 4, none⟩)), cur, l, by rw [hdst, fl_put _ _ _ _ _ (by decide) (by decide)], hS, fun h => ?_, fun h => ?_, fun _ => upd_same _ _ _, fun h => ?_, fun h => ?_, fun h => ?_, fun h => ?_, ?_, fun h => ?_, H.chn⟩
      · rw [upd_other (by decide)]; exact H.f0 (((up_set hiL).1 h).resolve_left (by decide))
      · rw [upd_other (by decide)]; exact H.f1 (((up_set hiL).1 h).resolve_left (by decide))
      · rw [upd_other (by decide)]; exact H.f4 (((up_set hiL).1 h).resolve_left (by decide))
      · rw [upd_other (by decide)]; exact H.f5 (((up_set hiL).1 h).resolve_left (by decide))
      · rw [upd_other (by decide)]; exact H.f6 (((up_set hiL).1 h).resolve_left (by decide))
      · rw [upd_other (by decide)]; exact H.f8 (((up_set hiL).1 h).resolve_left (by decide))
      · simpa only [up_set hiL, show ¬ (2 = 3) by decide, show ¬ (7 = 3) by decide, show ¬ (9 = 3) by decide, false_or, upd_other (x := x) (show 45 ≠ 46 by decide), upd_other (x := x) (show 50 ≠ 46 by decide), upd_other (x := x) (show 52 ≠ 46 by decide)] using H.st
      · rw [upd_other (by decide), upd_other (by decide)]; exact H.fz (((up_set hiL).1 h).resolve_left (by decide))
    · obtain ⟨hu, hd⟩ := op_ready p4 hi
      refine op_at p4 fun o ho hdst => wp_ld ho (by rw [(fl_eval [43, 44, 45, 46, 47, 48, 49, 50, 51, 52, 4] a x (d := 46) (by decide) (by decide) (by rw [hsz]; decide))]; exact H.f3 (hd 3 (by decide))) (hld w' (H.chn.ext.row hfar hbx)) ?_
      refine ⟨upd x 47 (kids), cur, l, by rw [hdst, fl_put _ _ _ _ _ (by decide) (by decide)], hS, fun h => ?_, fun h => ?_, fun h => ?_, fun _ => upd_same _ _ _, fun h => ?_, fun h => ?_, fun h => ?_, ?_, fun h => ?_, H.chn⟩
      · rw [upd_other (by decide)]; exact H.f0 (((up_set hiL).1 h).resolve_left (by decide))
      · rw [upd_other (by decide)]; exact H.f1 (((up_set hiL).1 h).resolve_left (by decide))
      · rw [upd_other (by decide)]; exact H.f3 (((up_set hiL).1 h).resolve_left (by decide))
      · rw [upd_other (by decide)]; exact H.f5 (((up_set hiL).1 h).resolve_left (by decide))
      · rw [upd_other (by decide)]; exact H.f6 (((up_set hiL).1 h).resolve_left (by decide))
      · rw [upd_other (by decide)]; exact H.f8 (((up_set hiL).1 h).resolve_left (by decide))
      · simpa only [up_set hiL, show ¬ (2 = 4) by decide, show ¬ (7 = 4) by decide, show ¬ (9 = 4) by decide, false_or, upd_other (x := x) (show 45 ≠ 47 by decide), upd_other (x := x) (show 50 ≠ 47 by decide), upd_other (x := x) (show 52 ≠ 47 by decide)] using H.st
      · rw [upd_other (by decide), upd_other (by decide)]; exact H.fz (((up_set hiL).1 h).resolve_left (by decide))
    · obtain ⟨hu, hd⟩ := op_ready p5 hi
      refine op_at p5 fun o ho hdst => wp_ix ho (by rw [(fl_eval [43, 44, 45, 46, 47, 48, 49, 50, 51, 52, 4] a x (d := 47) (by decide) (by decide) (by rw [hsz]; decide))]; exact H.f4 (hd 4 (by decide))) (hix w') ?_
      refine ⟨upd x 48 (kp), cur, l, by rw [hdst, fl_put _ _ _ _ _ (by decide) (by decide)], hS, fun h => ?_, fun h => ?_, fun h => ?_, fun h => ?_, fun _ => upd_same _ _ _, fun h => ?_, fun h => ?_, ?_, fun h => ?_, H.chn⟩
      · rw [upd_other (by decide)]; exact H.f0 (((up_set hiL).1 h).resolve_left (by decide))
      · rw [upd_other (by decide)]; exact H.f1 (((up_set hiL).1 h).resolve_left (by decide))
      · rw [upd_other (by decide)]; exact H.f3 (((up_set hiL).1 h).resolve_left (by decide))
      · rw [upd_other (by decide)]; exact H.f4 (((up_set hiL).1 h).resolve_left (by decide))
      · rw [upd_other (by decide)]; exact H.f6 (((up_set hiL).1 h).resolve_left (by decide))
      · rw [upd_other (by decide)]; exact H.f8 (((up_set hiL).1 h).resolve_left (by decide))
      · simpa only [up_set hiL, show ¬ (2 = 5) by decide, show ¬ (7 = 5) by decide, show ¬ (9 = 5) by decide, false_or, upd_other (x := x) (show 45 ≠ 48 by decide), upd_other (x := x) (show 50 ≠ 48 by decide), upd_other (x := x) (show 52 ≠ 48 by decide)] using H.st
      · rw [upd_other (by decide), upd_other (by decide)]; exact H.fz (((up_set hiL).1 h).resolve_left (by decide))
    · obtain ⟨hu, hd⟩ := op_ready p6 hi
      refine op_at p6 fun o ho hdst => wp_ld ho (by rw [(fl_eval [43, 44, 45, 46, 47, 48, 49, 50, 51, 52, 4] a x (d := 48) (by decide) (by decide) (by rw [hsz]; decide))]; exact H.f5 (hd 5 (by decide))) (hkd w' H.chn.ext) ?_
      refine ⟨upd x 49 (kid), cur, l, by rw [hdst, fl_put _ _ _ _ _ (by decide) (by decide)], hS, fun h => ?_, fun h => ?_, fun h => ?_, fun h => ?_, fun h => ?_, fun _ => upd_same _ _ _, fun h => ?_, ?_, fun h => ?_, H.chn⟩
      · rw [upd_other (by decide)]; exact H.f0 (((up_set hiL).1 h).resolve_left (by decide))
      · rw [upd_other (by decide)]; exact H.f1 (((up_set hiL).1 h).resolve_left (by decide))
      · rw [upd_other (by decide)]; exact H.f3 (((up_set hiL).1 h).resolve_left (by decide))
      · rw [upd_other (by decide)]; exact H.f4 (((up_set hiL).1 h).resolve_left (by decide))
      · rw [upd_other (by decide)]; exact H.f5 (((up_set hiL).1 h).resolve_left (by decide))
      · rw [upd_other (by decide)]; exact H.f8 (((up_set hiL).1 h).resolve_left (by decide))
      · simpa only [up_set hiL, show ¬ (2 = 6) by decide, show ¬ (7 = 6) by decide, show ¬ (9 = 6) by decide, false_or, upd_other (x := x) (show 45 ≠ 49 by decide), upd_other (x := x) (show 50 ≠ 49 by decide), upd_other (x := x) (show 52 ≠ 49 by decide)] using H.st
      · rw [upd_other (by decide), upd_other (by decide)]; exact H.fz (((up_set hiL).1 h).resolve_left (by decide))
    · obtain ⟨hu, hd⟩ := op_ready p7 hi
      rcases H.st with ⟨s2, -⟩ | ⟨s2, s7, s9, hx, hl⟩ | ⟨s7, -⟩ | ⟨s9, -⟩
      · exact absurd (hd 2 (by decide)) s2
      · refine op_at p7 fun o ho hdst => wp_go ho Tryd.func14 rfl rfl #[cur, kid] (by simp only [List.map_toArray, List.map_cons, List.map_nil]; rw [(fl_eval [43, 44, 45, 46, 47, 48, 49, 50, 51, 52, 4] a x (d := 45) (by decide) (by decide) (by rw [hsz]; decide)), (fl_eval [43, 44, 45, 46, 47, 48, 49, 50, 51, 52, 4] a x (d := 49) (by decide) (by decide) (by rw [hsz]; decide)), hx, H.f6 (hd 6 (by decide))]) ((hC w' cur (hl ▸ H.chn.row) H.chn.ext).mono ?_)
        rintro e w2 ⟨v2, rfl, r2, hb2, he2, hm2⟩
        refine ⟨v2, rfl, upd x 50 v2, v2, r2, by rw [hdst, fl_put _ _ _ _ _ (by decide) (by decide)], hS, fun h => ?_, fun h => ?_, fun h => ?_, fun h => ?_, fun h => ?_, fun h => ?_, fun h => ?_, .inr (.inr (.inl ⟨(up_set hiL).2 (.inl rfl), fun h => s9 (((up_set hiL).1 h).resolve_left (by decide)), upd_same _ _ _, hm2⟩)), fun h => ?_, H.chn.next hb2 he2⟩
        · rw [upd_other (by decide)]; exact H.f0 (((up_set hiL).1 h).resolve_left (by decide))
        · rw [upd_other (by decide)]; exact (H.f1 (((up_set hiL).1 h).resolve_left (by decide))).next he2
        · rw [upd_other (by decide)]; exact H.f3 (((up_set hiL).1 h).resolve_left (by decide))
        · rw [upd_other (by decide)]; exact H.f4 (((up_set hiL).1 h).resolve_left (by decide))
        · rw [upd_other (by decide)]; exact H.f5 (((up_set hiL).1 h).resolve_left (by decide))
        · rw [upd_other (by decide)]; exact H.f6 (((up_set hiL).1 h).resolve_left (by decide))
        · rw [upd_other (by decide)]; exact (H.f8 (((up_set hiL).1 h).resolve_left (by decide))).next he2
        · rw [upd_other (by decide), upd_other (by decide)]; exact H.fz (((up_set hiL).1 h).resolve_left (by decide))
      · exact absurd s7 hu
      · exact absurd (shut_up p9 hsh s9 7 (by decide)) hu
    · obtain ⟨hu, hd⟩ := op_ready p8 hi
      refine op_at p8 fun o ho hdst => wp_row1 41 ho ?_
      have hb : Below w'.heap.size w' (w'.alloc (.cells #[.int .u8 (((41 : UInt8).toNat : Nat) : Int)] 5)) := (Below.refl _ _).alloc (Nat.le_refl _) _
      refine ⟨upd x 51 (.slice (some ⟨w'.heap.size, 0, none⟩) 1 1), cur, l, by rw [hdst, fl_put _ _ _ _ _ (by decide) (by decide)], hS, fun h => ?_, fun h => ?_, fun h => ?_, fun h => ?_, fun h => ?_, fun h => ?_, fun _ => by rw [upd_same]; exact Sign.new H.chn.row 41, ?_, fun h => ?_, H.chn.below hb⟩
      · rw [upd_other (by decide)]; exact H.f0 (((up_set hiL).1 h).resolve_left (by decide))
      · rw [upd_other (by decide)]; exact (H.f1 (((up_set hiL).1 h).resolve_left (by decide))).below hb
      · rw [upd_other (by decide)]; exact H.f3 (((up_set hiL).1 h).resolve_left (by decide))
      · rw [upd_other (by decide)]; exact H.f4 (((up_set hiL).1 h).resolve_left (by decide))
      · rw [upd_other (by decide)]; exact H.f5 (((up_set hiL).1 h).resolve_left (by decide))
      · rw [upd_other (by decide)]; exact H.f6 (((up_set hiL).1 h).resolve_left (by decide))
      · simpa only [up_set hiL, show ¬ (2 = 8) by decide, show ¬ (7 = 8) by decide, show ¬ (9 = 8) by decide, false_or, upd_other (x := x) (show 45 ≠ 51 by decide), upd_other (x := x) (show 50 ≠ 51 by decide), upd_other (x := x) (show 52 ≠ 51 by decide)] using H.st
      · rw [upd_other (by decide), upd_other (by decide)]; exact H.fz (((up_set hiL).1 h).resolve_left (by decide))
    · obtain ⟨hu, hd⟩ := op_ready p9 hi
      rcases H.st with ⟨-, s7, -⟩ | ⟨-, s7, -⟩ | ⟨s7, s9, hx, hl⟩ | ⟨s9, -⟩
      · exact absurd (hd 7 (by decide)) s7
      · exact absurd (hd 7 (by decide)) s7
      · obtain ⟨g, hg, hrow, hgf⟩ := H.f8 (hd 8 (by decide))
        refine op_at p9 fun o ho hdst => wp_byte (.tmp 50) (.tmp 51) ho (by rw [(fl_eval [43, 44, 45, 46, 47, 48, 49, 50, 51, 52, 4] a x (d := 50) (by decide) (by decide) (by rw [hsz]; decide))]; exact hx) (by rw [(fl_eval [43, 44, 45, 46, 47, 48, 49, 50, 51, 52, 4] a x (d := 51) (by decide) (by decide) (by rw [hsz]; decide))]; exact hg) H.chn.row hrow hbw (hM l hl) ?_
        intro v' w2 hb2 he2
        refine ⟨upd x 52 v', v', _, by rw [hdst, fl_put _ _ _ _ _ (by decide) (by decide)], hS, fun h => ?_, fun h => ?_, fun h => ?_, fun h => ?_, fun h => ?_, fun h => ?_, fun h => ?_, .inr (.inr (.inr (⟨(up_set hiL).2 (.inl rfl), upd_same _ _ _, ⟨l, hl, rfl⟩⟩))), fun h => absurd (shut_up p10 hsh (((up_set hiL).1 h).resolve_left (by decide)) 9 (by decide)) hu, H.chn.next hb2 he2⟩
        · rw [upd_other (by decide)]; exact H.f0 (((up_set hiL).1 h).resolve_left (by decide))
        · rw [upd_other (by decide)]; exact (H.f1 (((up_set hiL).1 h).resolve_left (by decide))).next he2
        · rw [upd_other (by decide)]; exact H.f3 (((up_set hiL).1 h).resolve_left (by decide))
        · rw [upd_other (by decide)]; exact H.f4 (((up_set hiL).1 h).resolve_left (by decide))
        · rw [upd_other (by decide)]; exact H.f5 (((up_set hiL).1 h).resolve_left (by decide))
        · rw [upd_other (by decide)]; exact H.f6 (((up_set hiL).1 h).resolve_left (by decide))
        · rw [upd_other (by decide)]; exact (H.f8 (((up_set hiL).1 h).resolve_left (by decide))).next he2
      · exact absurd s9 hu
    · obtain ⟨hu, hd⟩ := op_ready p10 hi
      refine op_at p10 fun o ho hdst => wp_as ho ?_
      refine ⟨upd x 4 (x 52), cur, l, by rw [hdst, (fl_eval [43, 44, 45, 46, 47, 48, 49, 50, 51, 52, 4] a x (d := 52) (by decide) (by decide) (by rw [hsz]; decide)), fl_put _ _ _ _ _ (by decide) (by decide)], hS, fun h => ?_, fun h => ?_, fun h => ?_, fun h => ?_, fun h => ?_, fun h => ?_, fun h => ?_, ?_, fun _ => by rw [upd_same, upd_other (by decide)], H.chn⟩
      · rw [upd_other (by decide)]; exact H.f0 (((up_set hiL).1 h).resolve_left (by decide))
      · rw [upd_other (by decide)]; exact H.f1 (((up_set hiL).1 h).resolve_left (by decide))
      · rw [upd_other (by decide)]; exact H.f3 (((up_set hiL).1 h).resolve_left (by decide))
      · rw [upd_other (by decide)]; exact H.f4 (((up_set hiL).1 h).resolve_left (by decide))
      · rw [upd_other (by decide)]; exact H.f5 (((up_set hiL).1 h).resolve_left (by decide))
      · rw [upd_other (by decide)]; exact H.f6 (((up_set hiL).1 h).resolve_left (by decide))
      · rw [upd_other (by decide)]; exact H.f8 (((up_set hiL).1 h).resolve_left (by decide))
      · simpa only [up_set hiL, show ¬ (2 = 10) by decide, show ¬ (7 = 10) by decide, show ¬ (9 = 10) by decide, false_or, upd_other (x := x) (show 45 ≠ 4 by decide), upd_other (x := x) (show 50 ≠ 4 by decide), upd_other (x := x) (show 52 ≠ 4 by decide)] using H.st
  · rintro L a' w' ⟨x, cur, l, rfl, H⟩ hr0
    have hs := H.size
    have u0 := op_up p0 hr0 (by omega) (by simp)
    have u1 := op_up p1 hr0 (by omega) (by simp)
    have u2 := op_up p2 hr0 (by omega) (by
      intro d hd
      simp only [List.mem_cons, List.mem_nil_iff, or_false] at hd
      rcases hd with rfl | rfl
      · exact u0
      · exact u1)
    have u3 := op_up p3 hr0 (by omega) (by simp)
    have u4 := op_up p4 hr0 (by omega) (by
      intro d hd
      simp only [List.mem_cons, List.mem_nil_iff, or_false] at hd
      rcases hd with rfl
      exact u3)
    have u5 := op_up p5 hr0 (by omega) (by
      intro d hd
      simp only [List.mem_cons, List.mem_nil_iff, or_false] at hd
      rcases hd with rfl
      exact u4)
    have u6 := op_up p6 hr0 (by omega) (by
      intro d hd
      simp only [List.mem_cons, List.mem_nil_iff, or_false] at hd
      rcases hd with rfl
      exact u5)
    have u7 := op_up p7 hr0 (by omega) (by
      intro d hd
      simp only [List.mem_cons, List.mem_nil_iff, or_false] at hd
      rcases hd with rfl | rfl
      · exact u2
      · exact u6)
    have u8 := op_up p8 hr0 (by omega) (by simp)
    have u9 := op_up p9 hr0 (by omega) (by
      intro d hd
      simp only [List.mem_cons, List.mem_nil_iff, or_false] at hd
      rcases hd with rfl | rfl
      · exact u7
      · exact u8)
    have u10 := op_up p10 hr0 (by omega) (by
      intro d hd
      simp only [List.mem_cons, List.mem_nil_iff, or_false] at hd
      rcases hd with rfl | rfl | rfl | rfl | rfl | rfl | rfl | rfl | rfl | rfl
      · exact u0
      · exact u1
      · exact u2
      · exact u3
      · exact u4
      · exact u5
      · exact u6
      · exact u7
      · exact u8
      · exact u9)
    rcases H.st with ⟨-, -, sz, -⟩ | ⟨-, -, sz, -⟩ | ⟨-, sz, -⟩ | ⟨-, hx, hl⟩
    · exact absurd u9 sz
    · exact absurd u9 sz
    · exact absurd u9 sz
    · exact hQ x w' cur l H.chn.row hl H.chn.ext ((H.fz u10).trans hx)
/-- What holds whichever operations have come up. -/
structure TxqF (B : Nat) (w0 : World) (v : Value) (r : List UInt8) (bx : Nat) (t : ByteArray) (L : Array Bool) (x : Nat → Value) (w : World) (cur : Value) (l : List UInt8) : Prop where
  size : L.size = 10
  f0 : Up L 0 → x 30 = v
  f1 : Up L 1 → Sign w cur 40 (x 31)
  f3 : Up L 3 → x 33 = .pointer (some ⟨bx, 1, none⟩)
  f4 : Up L 4 → x 34 = .string t
  f5 : Up L 5 → x 35 = .string (quoteB t)
  f7 : Up L 7 → Sign w cur 41 (x 37)
  st : (¬ Up L 2 ∧ ¬ Up L 6 ∧ ¬ Up L 8 ∧ cur = v ∧ l = r) ∨ (Up L 2 ∧ ¬ Up L 6 ∧ ¬ Up L 8 ∧ x 32 = cur ∧ (fun l => l = r ++ [40]) l) ∨ (Up L 6 ∧ ¬ Up L 8 ∧ x 36 = cur ∧ (fun l => l = r ++ [40] ++ (quoteB t).data.toList) l) ∨ (Up L 8 ∧ x 38 = cur ∧ (fun l => l = r ++ [40] ++ (quoteB t).data.toList ++ [41]) l)
  fz : Up L 9 → x 4 = x 38
  chn : Chn B w0 v w cur l
set_option maxHeartbeats 1000000 in
theorem txq_region {ops : Array Oper} {id : Nat} {Q : Exit → Act → World → Prop} {a : Act} {w : World} {v : Value} {r : List UInt8} {B : Nat} {bx : Nat} {row : Obj} {t : ByteArray}
    (p0 : OpIs ops 0 (.move (.tmp 0)) 30 [])
    (p1 : OpIs ops 1 (.buildSlice 39 1 #[(0, .const (.int .u8 40))]) 31 [])
    (p2 : OpIs ops 2 (.call { callee := .builtin .append, args := #[.tmp 30, .tmp 31], argTypes := #[39, 39] }) 32 [0, 1])
    (p3 : OpIs ops 3 (.fieldAddr 24 (.tmp 3) 1) 33 [])
    (p4 : OpIs ops 4 (.load 9 (.tmp 33)) 34 [3])
    (p5 : OpIs ops 5 (.call { callee := .value (.func 27), args := #[.tmp 34], argTypes := #[9] }) 35 [4, 2])
    (p6 : OpIs ops 6 (.call { callee := .builtin .append, args := #[.tmp 32, .tmp 35], argTypes := #[39, 9] }) 36 [2, 5])
    (p7 : OpIs ops 7 (.buildSlice 39 1 #[(0, .const (.int .u8 41))]) 37 [])
    (p8 : OpIs ops 8 (.call { callee := .builtin .append, args := #[.tmp 36, .tmp 37], argTypes := #[39, 39] }) 38 [6, 7])
    (p9 : OpIs ops 9 (.assign (.tmp 38)) 4 [0, 1, 2, 3, 4, 5, 6, 7, 8])
    (hn : ops.size = 10) (hsz : a.tmps.size = 54) (h0 : a.eval (.tmp 0) = v) (hv : Bytes w B v r) (hB : B ≤ w.heap.size)
    (hr : r.length + 140000 ≤ 100000000) (h3 : a.eval (.tmp 3) = .pointer (some ⟨bx, 0, none⟩)) (hbx : w.heap[bx]? = some row) (hfar : some bx ≠ v.ownBlock) (hq : (quoteB t).size ≤ 131100) (hfa : ∀ W, (Instr.fieldAt 24 (.pointer (some ⟨bx, 0, none⟩)) 1).run Tryd.prog W = .ok (.pointer (some ⟨bx, 1, none⟩)) W) (hld : ∀ W : World, W.heap[bx]? = some row → (Instr.loadAt 9 (.pointer (some ⟨bx, 1, none⟩))).run Tryd.prog W = .ok (.string t) W)
    (hC : ∀ (w1 : World) {c : Value}, Ext w w1 v c → Calls Tryd.prog 27 #[.string t] w1 fun e w2 => e = .returned (.string (quoteB t)) ∧ Below w1.heap.size w1 w2)
    (hQ : ∀ x w2 v2 l2, Bytes w2 B v2 l2 → (fun l => l = r ++ [40] ++ (quoteB t).data.toList ++ [41]) l2 → Ext w w2 v v2 → x 4 = v2 → Q .normal (fl a [30, 31, 32, 33, 34, 35, 36, 37, 38, 4] x) w2) : (Code.region id ops true).wp Tryd.prog Q a w := by
  refine region_inv2 (I := fun L a' w' => ∃ x cur l, a' = fl a [30, 31, 32, 33, 34, 35, 36, 37, 38, 4] x ∧ TxqF B w v r bx t L x w' cur l) rfl ?_ ?_ ?_
  · have hd : Below w.heap.size w w.drew := (Below.refl _ _).drew
    exact ⟨fun d => a.eval (.tmp d), v, r, (fl_self _ a).symm, by rw [hn]; rfl, fun h => absurd h up_new, fun h => absurd h up_new, fun h => absurd h up_new, fun h => absurd h up_new, fun h => absurd h up_new, fun h => absurd h up_new, .inl ⟨up_new, up_new, up_new, rfl, rfl⟩, fun h => absurd h up_new, hv.later hd, Ext.below v hd⟩
  · rintro L a' w' i ⟨x, cur, l, rfl, H⟩ hsh hi
    have hs := H.size
    have hlt : i < 10 := by
      obtain ⟨-, o, ho, -⟩ := mem_ready.1 hi
      have := (Array.getElem?_eq_some_iff.1 ho).1
      omega
    have hiL : i < L.size := by rw [hs]; exact hlt
    have hS : (L.setIfInBounds i true).size = 10 := by simp [hs]
    have hbw : B ≤ w'.heap.size := Nat.le_trans hB H.chn.ext.grown.size
    rcases (show i = 0 ∨ i = 1 ∨ i = 2 ∨ i = 3 ∨ i = 4 ∨ i = 5 ∨ i = 6 ∨ i = 7 ∨ i = 8 ∨ i = 9 by omega) with rfl | rfl | rfl | rfl | rfl | rfl | rfl | rfl | rfl | rfl
    · obtain ⟨hu, hd⟩ := op_ready p0 hi
      refine op_at p0 fun o ho hdst => wp_mv ho ?_
      refine ⟨upd x 30 v, cur, l, by rw [hdst, (fl_eval_out [30, 31, 32, 33, 34, 35, 36, 37, 38, 4] a x (t := 0) (by decide)), h0, fl_put _ _ _ _ _ (by decide) (by decide)], hS, fun _ => upd_same _ _ _, fun h => ?_, fun h => ?_, fun h => ?_, fun h => ?_, fun h => ?_, ?_, fun h => ?_, H.chn⟩
      · rw [upd_other (by decide)]; exact H.f1 (((up_set hiL).1 h).resolve_left (by decide))
      · rw [upd_other (by decide)]; exact H.f3 (((up_set hiL).1 h).resolve_left (by decide))
      · rw [upd_other (by decide)]; exact H.f4 (((up_set hiL).1 h).resolve_left (by decide))
      · rw [upd_other (by decide)]; exact H.f5 (((up_set hiL).1 h).resolve_left (by decide))
      · rw [upd_other (by decide)]; exact H.f7 (((up_set hiL).1 h).resolve_left (by decide))
      · simpa only [up_set hiL, show ¬ (2 = 0) by decide, show ¬ (6 = 0) by decide, show ¬ (8 = 0) by decide, false_or, upd_other (x := x) (show 32 ≠ 30 by decide), upd_other (x := x) (show 36 ≠ 30 by decide), upd_other (x := x) (show 38 ≠ 30 by decide)] using H.st
      · rw [upd_other (by decide), upd_other (by decide)]; exact H.fz (((up_set hiL).1 h).resolve_left (by decide))
    · obtain ⟨hu, hd⟩ := op_ready p1 hi
      refine op_at p1 fun o ho hdst => wp_row1 40 ho ?_
      have hb : Below w'.heap.size w' (w'.alloc (.cells #[.int .u8 (((40 : UInt8).toNat : Nat) : Int)] 5)) := (Below.refl _ _).alloc (Nat.le_refl _) _
      refine ⟨upd x 31 (.slice (some ⟨w'.heap.size, 0, none⟩) 1 1), cur, l, by rw [hdst, fl_put _ _ _ _ _ (by decide) (by decide)], hS, fun h => ?_, fun _ => by rw [upd_same]; exact Sign.new H.chn.row 40, fun h => ?_, fun h => ?_, fun h => ?_, fun h => ?_, ?_, fun h => ?_, H.chn.below hb⟩
      · rw [upd_other (by decide)]; exact H.f0 (((up_set hiL).1 h).resolve_left (by decide))
      · rw [upd_other (by decide)]; exact H.f3 (((up_set hiL).1 h).resolve_left (by decide))
      · rw [upd_other (by decide)]; exact H.f4 (((up_set hiL).1 h).resolve_left (by decide))
      · rw [upd_other (by decide)]; exact H.f5 (((up_set hiL).1 h).resolve_left (by decide))
      · rw [upd_other (by decide)]; exact (H.f7 (((up_set hiL).1 h).resolve_left (by decide))).below hb
      · simpa only [up_set hiL, show ¬ (2 = 1) by decide, show ¬ (6 = 1) by decide, show ¬ (8 = 1) by decide, false_or, upd_other (x := x) (show 32 ≠ 31 by decide), upd_other (x := x) (show 36 ≠ 31 by decide), upd_other (x := x) (show 38 ≠ 31 by decide)] using H.st
      · rw [upd_other (by decide), upd_other (by decide)]; exact H.fz (((up_set hiL).1 h).resolve_left (by decide))
    · obtain ⟨hu, hd⟩ := op_ready p2 hi
      rcases H.st with ⟨s2, s6, s8, rfl, rfl⟩ | ⟨s2, -⟩ | ⟨s6, -⟩ | ⟨s8, -⟩
      · obtain ⟨g, hg, hrow, hgf⟩ := H.f1 (hd 1 (by decide))
        refine op_at p2 fun o ho hdst => wp_byte (.tmp 30) (.tmp 31) ho (by rw [(fl_eval [30, 31, 32, 33, 34, 35, 36, 37, 38, 4] a x (d := 30) (by decide) (by decide) (by rw [hsz]; decide))]; exact H.f0 (hd 0 (by decide))) (by rw [(fl_eval [30, 31, 32, 33, 34, 35, 36, 37, 38, 4] a x (d := 31) (by decide) (by decide) (by rw [hsz]; decide))]; exact hg) H.chn.row hrow hbw (by omega) ?_
        intro v' w2 hb2 he2
        refine ⟨upd x 32 v', v', _, by rw [hdst, fl_put _ _ _ _ _ (by decide) (by decide)], hS, fun h => ?_, fun h => ?_, fun h => ?_, fun h => ?_, fun h => ?_, fun h => ?_, .inr (.inl ⟨(up_set hiL).2 (.inl rfl), fun h => s6 (((up_set hiL).1 h).resolve_left (by decide)), fun h => s8 (((up_set hiL).1 h).resolve_left (by decide)), upd_same _ _ _, rfl⟩), fun h => ?_, H.chn.next hb2 he2⟩
        · rw [upd_other (by decide)]; exact H.f0 (((up_set hiL).1 h).resolve_left (by decide))
        · rw [upd_other (by decide)]; exact (H.f1 (((up_set hiL).1 h).resolve_left (by decide))).next he2
        · rw [upd_other (by decide)]; exact H.f3 (((up_set hiL).1 h).resolve_left (by decide))
        · rw [upd_other (by decide)]; exact H.f4 (((up_set hiL).1 h).resolve_left (by decide))
        · rw [upd_other (by decide)]; exact H.f5 (((up_set hiL).1 h).resolve_left (by decide))
        · rw [upd_other (by decide)]; exact (H.f7 (((up_set hiL).1 h).resolve_left (by decide))).next he2
        · rw [upd_other (by decide), upd_other (by decide)]; exact H.fz (((up_set hiL).1 h).resolve_left (by decide))
      · exact absurd s2 hu
      · exact absurd (shut_up p6 hsh s6 2 (by decide)) hu
      · exact absurd (shut_up p6 hsh (shut_up p8 hsh s8 6 (by decide)) 2 (by decide)) hu
    · obtain ⟨hu, hd⟩ := op_ready p3 hi
      refine op_at p3 fun o ho hdst => wp_fa ho (by rw [(fl_eval_out [30, 31, 32, 33, 34, 35, 36, 37, 38, 4] a x (t := 3) (by decide))]; exact h3) (hfa w') ?_
      refine ⟨upd x 33 (.pointer (some ⟨bx, 1, none⟩)), cur, l, by rw [hdst, fl_put _ _ _ _ _ (by decide) (by decide)], hS, fun h => ?_, fun h => ?_, fun _ => upd_same _ _ _, fun h => ?_, fun h => ?_, fun h => ?_, ?_, fun h => ?_, H.chn⟩
      · rw [upd_other (by decide)]; exact H.f0 (((up_set hiL).1 h).resolve_left (by decide))
      · rw [upd_other (by decide)]; exact H.f1 (((up_set hiL).1 h).resolve_left (by decide))
      · rw [upd_other (by decide)]; exact H.f4 (((up_set hiL).1 h).resolve_left (by decide))
      · rw [upd_other (by decide)]; exact H.f5 (((up_set hiL).1 h).resolve_left (by decide))
      · rw [upd_other (by decide)]; exact H.f7 (((up_set hiL).1 h).resolve_left (by decide))
      · simpa only [up_set hiL, show ¬ (2 = 3) by decide, show ¬ (6 = 3) by decide, show ¬ (8 = 3) by decide, false_or, upd_other (x := x) (show 32 ≠ 33 by decide), upd_other (x := x) (show 36 ≠ 33 by decide), upd_other (x := x) (show 38 ≠ 33 by decide)] using H.st
      · rw [upd_other (by decide), upd_other (by decide)]; exact H.fz (((up_set hiL).1 h).resolve_left (by decide))
    · obtain ⟨hu, hd⟩ := op_ready p4 hi
      refine op_at p4 fun o ho hdst => wp_ld ho (by rw [(fl_eval [30, 31, 32, 33, 34, 35, 36, 37, 38, 4] a x (d := 33) (by decide) (by decide) (by rw [hsz]; decide))]; exact H.f3 (hd 3 (by decide))) (hld w' (H.chn.ext.row hfar hbx)) ?_
      refine ⟨upd x 34 (.string t), cur, l, by rw [hdst, fl_put _ _ _ _ _ (by decide) (by decide)], hS, fun h => ?_, fun h => ?_, fun h => ?_, fun _ => upd_same _ _ _, fun h => ?_, fun h => ?_, ?_, fun h => ?_, H.chn⟩
      · rw [upd_other (by decide)]; exact H.f0 (((up_set hiL).1 h).resolve_left (by decide))
      · rw [upd_other (by decide)]; exact H.f1 (((up_set hiL).1 h).resolve_left (by decide))
      · rw [upd_other (by decide)]; exact H.f3 (((up_set hiL).1 h).resolve_left (by decide))
      · rw [upd_other (by decide)]; exact H.f5 (((up_set hiL).1 h).resolve_left (by decide))
      · rw [upd_other (by decide)]; exact H.f7 (((up_set hiL).1 h).resolve_left (by decide))
      · simpa only [up_set hiL, show ¬ (2 = 4) by decide, show ¬ (6 = 4) by decide, show ¬ (8 = 4) by decide, false_or, upd_other (x := x) (show 32 ≠ 34 by decide), upd_other (x := x) (show 36 ≠ 34 by decide), upd_other (x := x) (show 38 ≠ 34 by decide)] using H.st
      · rw [upd_other (by decide), upd_other (by decide)]; exact H.fz (((up_set hiL).1 h).resolve_left (by decide))
    · obtain ⟨hu, hd⟩ := op_ready p5 hi
      refine op_at p5 fun o ho hdst => wp_go ho Tryd.func27 rfl rfl #[.string t] (by simp only [List.map_toArray, List.map_cons, List.map_nil]; rw [(fl_eval [30, 31, 32, 33, 34, 35, 36, 37, 38, 4] a x (d := 34) (by decide) (by decide) (by rw [hsz]; decide)), H.f4 (hd 4 (by decide))]) ((hC w' H.chn.ext).mono ?_)
      rintro e w2 ⟨rfl, hb⟩
      refine ⟨_, rfl, upd x 35 (.string (quoteB t)), cur, l, by rw [hdst, fl_put _ _ _ _ _ (by decide) (by decide)], hS, fun h => ?_, fun h => ?_, fun h => ?_, fun h => ?_, fun _ => upd_same _ _ _, fun h => ?_, ?_, fun h => ?_, H.chn.below hb⟩
      · rw [upd_other (by decide)]; exact H.f0 (((up_set hiL).1 h).resolve_left (by decide))
      · rw [upd_other (by decide)]; exact (H.f1 (((up_set hiL).1 h).resolve_left (by decide))).below hb
      · rw [upd_other (by decide)]; exact H.f3 (((up_set hiL).1 h).resolve_left (by decide))
      · rw [upd_other (by decide)]; exact H.f4 (((up_set hiL).1 h).resolve_left (by decide))
      · rw [upd_other (by decide)]; exact (H.f7 (((up_set hiL).1 h).resolve_left (by decide))).below hb
      · simpa only [up_set hiL, show ¬ (2 = 5) by decide, show ¬ (6 = 5) by decide, show ¬ (8 = 5) by decide, false_or, upd_other (x := x) (show 32 ≠ 35 by decide), upd_other (x := x) (show 36 ≠ 35 by decide), upd_other (x := x) (show 38 ≠ 35 by decide)] using H.st
      · rw [upd_other (by decide), upd_other (by decide)]; exact H.fz (((up_set hiL).1 h).resolve_left (by decide))
    · obtain ⟨hu, hd⟩ := op_ready p6 hi
      rcases H.st with ⟨s2, -⟩ | ⟨s2, s6, s8, hx, hl⟩ | ⟨s6, -⟩ | ⟨s8, -⟩
      · exact absurd (hd 2 (by decide)) s2
      · refine op_at p6 fun o ho hdst => wp_text (.tmp 32) (.tmp 35) ho (by rw [(fl_eval [30, 31, 32, 33, 34, 35, 36, 37, 38, 4] a x (d := 32) (by decide) (by decide) (by rw [hsz]; decide))]; exact hx) (by rw [(fl_eval [30, 31, 32, 33, 34, 35, 36, 37, 38, 4] a x (d := 35) (by decide) (by decide) (by rw [hsz]; decide))]; exact H.f5 (hd 5 (by decide))) H.chn.row hbw (by rw [hl, List.length_append, List.length_singleton]; omega) ?_
        intro v' w2 hb2 he2
        refine ⟨upd x 36 v', v', _, by rw [hdst, fl_put _ _ _ _ _ (by decide) (by decide)], hS, fun h => ?_, fun h => ?_, fun h => ?_, fun h => ?_, fun h => ?_, fun h => ?_, .inr (.inr (.inl ⟨(up_set hiL).2 (.inl rfl), fun h => s8 (((up_set hiL).1 h).resolve_left (by decide)), upd_same _ _ _, by rw [hl]⟩)), fun h => ?_, H.chn.next hb2 he2⟩
        · rw [upd_other (by decide)]; exact H.f0 (((up_set hiL).1 h).resolve_left (by decide))
        · rw [upd_other (by decide)]; exact (H.f1 (((up_set hiL).1 h).resolve_left (by decide))).next he2
        · rw [upd_other (by decide)]; exact H.f3 (((up_set hiL).1 h).resolve_left (by decide))
        · rw [upd_other (by decide)]; exact H.f4 (((up_set hiL).1 h).resolve_left (by decide))
        · rw [upd_other (by decide)]; exact H.f5 (((up_set hiL).1 h).resolve_left (by decide))
        · rw [upd_other (by decide)]; exact (H.f7 (((up_set hiL).1 h).resolve_left (by decide))).next he2
        · rw [upd_other (by decide), upd_other (by decide)]; exact H.fz (((up_set hiL).1 h).resolve_left (by decide))
      · exact absurd s6 hu
      · exact absurd (shut_up p8 hsh s8 6 (by decide)) hu
    · obtain ⟨hu, hd⟩ := op_ready p7 hi
      refine op_at p7 fun o ho hdst => wp_row1 41 ho ?_
      have hb : Below w'.heap.size w' (w'.alloc (.cells #[.int .u8 (((41 : UInt8).toNat : Nat) : Int)] 5)) := (Below.refl _ _).alloc (Nat.le_refl _) _
      refine ⟨upd x 37 (.slice (some ⟨w'.heap.size, 0, none⟩) 1 1), cur, l, by rw [hdst, fl_put _ _ _ _ _ (by decide) (by decide)], hS, fun h => ?_, fun h => ?_, fun h => ?_, fun h => ?_, fun h => ?_, fun _ => by rw [upd_same]; exact Sign.new H.chn.row 41, ?_, fun h => ?_, H.chn.below hb⟩
      · rw [upd_other (by decide)]; exact H.f0 (((up_set hiL).1 h).resolve_left (by decide))
      · rw [upd_other (by decide)]; exact (H.f1 (((up_set hiL).1 h).resolve_left (by decide))).below hb
      · rw [upd_other (by decide)]; exact H.f3 (((up_set hiL).1 h).resolve_left (by decide))
      · rw [upd_other (by decide)]; exact H.f4 (((up_set hiL).1 h).resolve_left (by decide))
      · rw [upd_other (by decide)]; exact H.f5 (((up_set hiL).1 h).resolve_left (by decide))
      · simpa only [up_set hiL, show ¬ (2 = 7) by decide, show ¬ (6 = 7) by decide, show ¬ (8 = 7) by decide, false_or, upd_other (x := x) (show 32 ≠ 37 by decide), upd_other (x := x) (show 36 ≠ 37 by decide), upd_other (x := x) (show 38 ≠ 37 by decide)] using H.st
      · rw [upd_other (by decide), upd_other (by decide)]; exact H.fz (((up_set hiL).1 h).resolve_left (by decide))
    · obtain ⟨hu, hd⟩ := op_ready p8 hi
      rcases H.st with ⟨-, s6, -⟩ | ⟨-, s6, -⟩ | ⟨s6, s8, hx, hl⟩ | ⟨s8, -⟩
      · exact absurd (hd 6 (by decide)) s6
      · exact absurd (hd 6 (by decide)) s6
      · obtain ⟨g, hg, hrow, hgf⟩ := H.f7 (hd 7 (by decide))
        refine op_at p8 fun o ho hdst => wp_byte (.tmp 36) (.tmp 37) ho (by rw [(fl_eval [30, 31, 32, 33, 34, 35, 36, 37, 38, 4] a x (d := 36) (by decide) (by decide) (by rw [hsz]; decide))]; exact hx) (by rw [(fl_eval [30, 31, 32, 33, 34, 35, 36, 37, 38, 4] a x (d := 37) (by decide) (by decide) (by rw [hsz]; decide))]; exact hg) H.chn.row hrow hbw (by rw [hl, List.length_append, List.length_append, List.length_singleton, qlen]; omega) ?_
        intro v' w2 hb2 he2
        refine ⟨upd x 38 v', v', _, by rw [hdst, fl_put _ _ _ _ _ (by decide) (by decide)], hS, fun h => ?_, fun h => ?_, fun h => ?_, fun h => ?_, fun h => ?_, fun h => ?_, .inr (.inr (.inr (⟨(up_set hiL).2 (.inl rfl), upd_same _ _ _, by rw [hl]⟩))), fun h => absurd (shut_up p9 hsh (((up_set hiL).1 h).resolve_left (by decide)) 8 (by decide)) hu, H.chn.next hb2 he2⟩
        · rw [upd_other (by decide)]; exact H.f0 (((up_set hiL).1 h).resolve_left (by decide))
        · rw [upd_other (by decide)]; exact (H.f1 (((up_set hiL).1 h).resolve_left (by decide))).next he2
        · rw [upd_other (by decide)]; exact H.f3 (((up_set hiL).1 h).resolve_left (by decide))
        · rw [upd_other (by decide)]; exact H.f4 (((up_set hiL).1 h).resolve_left (by decide))
        · rw [upd_other (by decide)]; exact H.f5 (((up_set hiL).1 h).resolve_left (by decide))
        · rw [upd_other (by decide)]; exact (H.f7 (((up_set hiL).1 h).resolve_left (by decide))).next he2
      · exact absurd s8 hu
    · obtain ⟨hu, hd⟩ := op_ready p9 hi
      refine op_at p9 fun o ho hdst => wp_as ho ?_
      refine ⟨upd x 4 (x 38), cur, l, by rw [hdst, (fl_eval [30, 31, 32, 33, 34, 35, 36, 37, 38, 4] a x (d := 38) (by decide) (by decide) (by rw [hsz]; decide)), fl_put _ _ _ _ _ (by decide) (by decide)], hS, fun h => ?_, fun h => ?_, fun h => ?_, fun h => ?_, fun h => ?_, fun h => ?_, ?_, fun _ => by rw [upd_same, upd_other (by decide)], H.chn⟩
      · rw [upd_other (by decide)]; exact H.f0 (((up_set hiL).1 h).resolve_left (by decide))
      · rw [upd_other (by decide)]; exact H.f1 (((up_set hiL).1 h).resolve_left (by decide))
      · rw [upd_other (by decide)]; exact H.f3 (((up_set hiL).1 h).resolve_left (by decide))
      · rw [upd_other (by decide)]; exact H.f4 (((up_set hiL).1 h).resolve_left (by decide))
      · rw [upd_other (by decide)]; exact H.f5 (((up_set hiL).1 h).resolve_left (by decide))
      · rw [upd_other (by decide)]; exact H.f7 (((up_set hiL).1 h).resolve_left (by decide))
      · simpa only [up_set hiL, show ¬ (2 = 9) by decide, show ¬ (6 = 9) by decide, show ¬ (8 = 9) by decide, false_or, upd_other (x := x) (show 32 ≠ 4 by decide), upd_other (x := x) (show 36 ≠ 4 by decide), upd_other (x := x) (show 38 ≠ 4 by decide)] using H.st
  · rintro L a' w' ⟨x, cur, l, rfl, H⟩ hr0
    have hs := H.size
    have u0 := op_up p0 hr0 (by omega) (by simp)
    have u1 := op_up p1 hr0 (by omega) (by simp)
    have u2 := op_up p2 hr0 (by omega) (by
      intro d hd
      simp only [List.mem_cons, List.mem_nil_iff, or_false] at hd
      rcases hd with rfl | rfl
      · exact u0
      · exact u1)
    have u3 := op_up p3 hr0 (by omega) (by simp)
    have u4 := op_up p4 hr0 (by omega) (by
      intro d hd
      simp only [List.mem_cons, List.mem_nil_iff, or_false] at hd
      rcases hd with rfl
      exact u3)
    have u5 := op_up p5 hr0 (by omega) (by
      intro d hd
      simp only [List.mem_cons, List.mem_nil_iff, or_false] at hd
      rcases hd with rfl | rfl
      · exact u4
      · exact u2)
    have u6 := op_up p6 hr0 (by omega) (by
      intro d hd
      simp only [List.mem_cons, List.mem_nil_iff, or_false] at hd
      rcases hd with rfl | rfl
      · exact u2
      · exact u5)
    have u7 := op_up p7 hr0 (by omega) (by simp)
    have u8 := op_up p8 hr0 (by omega) (by
      intro d hd
      simp only [List.mem_cons, List.mem_nil_iff, or_false] at hd
      rcases hd with rfl | rfl
      · exact u6
      · exact u7)
    have u9 := op_up p9 hr0 (by omega) (by
      intro d hd
      simp only [List.mem_cons, List.mem_nil_iff, or_false] at hd
      rcases hd with rfl | rfl | rfl | rfl | rfl | rfl | rfl | rfl | rfl
      · exact u0
      · exact u1
      · exact u2
      · exact u3
      · exact u4
      · exact u5
      · exact u6
      · exact u7
      · exact u8)
    rcases H.st with ⟨-, -, sz, -⟩ | ⟨-, -, sz, -⟩ | ⟨-, sz, -⟩ | ⟨-, hx, hl⟩
    · exact absurd u8 sz
    · exact absurd u8 sz
    · exact absurd u8 sz
    · exact hQ x w' cur l H.chn.row hl H.chn.ext ((H.fz u9).trans hx)
end Go.Proofs.YtccnomomdfjpmaaDoor
