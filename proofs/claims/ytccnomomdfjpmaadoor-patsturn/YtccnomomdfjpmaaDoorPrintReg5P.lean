/- The statements of pats.appendPat that leave their order open. -/
import Derived.Test.YtccnomomdfjpmaaDoorPrintReg4P
namespace Go.Proofs.YtccnomomdfjpmaaDoor
open Go.RowKit

/-- What holds whichever operations have come up. -/
structure CurF (B : Nat) (w0 : World) (v : Value) (r : List UInt8) (bx : Nat) (nm : ByteArray) (L : Array Bool) (x : Nat → Value) (w : World) (cur : Value) (l : List UInt8) : Prop where
  size : L.size = 7
  f0 : Up L 0 → x 48 = v
  f1 : Up L 1 → Sign w cur 64 (x 49)
  f3 : Up L 3 → x 51 = .pointer (some ⟨bx, 3, none⟩)
  f4 : Up L 4 → x 52 = .string nm
  st : (¬ Up L 2 ∧ ¬ Up L 5 ∧ cur = v ∧ l = r) ∨ (Up L 2 ∧ ¬ Up L 5 ∧ x 50 = cur ∧ (fun l => l = r ++ [64]) l) ∨ (Up L 5 ∧ x 53 = cur ∧ (fun l => l = r ++ [64] ++ nm.data.toList) l)
  fz : Up L 6 → x 4 = x 53
  chn : Chn B w0 v w cur l
set_option maxHeartbeats 1000000 in
theorem cur_region {ops : Array Oper} {id : Nat} {Q : Exit → Act → World → Prop} {a : Act} {w : World} {v : Value} {r : List UInt8} {B : Nat} {bx : Nat} {row : Obj} {nm : ByteArray}
    (p0 : OpIs ops 0 (.move (.tmp 0)) 48 [])
    (p1 : OpIs ops 1 (.buildSlice 39 1 #[(0, .const (.int .u8 64))]) 49 [])
    (p2 : OpIs ops 2 (.call { callee := .builtin .append, args := #[.tmp 48, .tmp 49], argTypes := #[39, 39] }) 50 [0, 1])
    (p3 : OpIs ops 3 (.fieldAddr 24 (.tmp 3) 3) 51 [])
    (p4 : OpIs ops 4 (.load 9 (.tmp 51)) 52 [3])
    (p5 : OpIs ops 5 (.call { callee := .builtin .append, args := #[.tmp 50, .tmp 52], argTypes := #[39, 9] }) 53 [2, 4])
    (p6 : OpIs ops 6 (.assign (.tmp 53)) 4 [0, 1, 2, 3, 4, 5])
    (hn : ops.size = 7) (hsz : a.tmps.size = 65) (h0 : a.eval (.tmp 0) = v) (hv : Bytes w B v r) (hB : B ≤ w.heap.size)
    (hr : r.length + 140000 ≤ 100000000) (h3 : a.eval (.tmp 3) = .pointer (some ⟨bx, 0, none⟩)) (hbx : w.heap[bx]? = some row) (hfar : some bx ≠ v.ownBlock) (hnm : nm.size ≤ 16) (hfa : ∀ W, (Instr.fieldAt 24 (.pointer (some ⟨bx, 0, none⟩)) 3).run Tryd.prog W = .ok (.pointer (some ⟨bx, 3, none⟩)) W) (hld : ∀ W : World, W.heap[bx]? = some row → (Instr.loadAt 9 (.pointer (some ⟨bx, 3, none⟩))).run Tryd.prog W = .ok (.string nm) W) 
    (hQ : ∀ x w2 v2 l2, Bytes w2 B v2 l2 → (fun l => l = r ++ [64] ++ nm.data.toList) l2 → Ext w w2 v v2 → x 4 = v2 → Q .normal (fl a [48, 49, 50, 51, 52, 53, 4] x) w2) : (Code.region id ops true).wp Tryd.prog Q a w := by
  refine region_inv2 (I := fun L a' w' => ∃ x cur l, a' = fl a [48, 49, 50, 51, 52, 53, 4] x ∧ CurF B w v r bx nm L x w' cur l) rfl ?_ ?_ ?_
  · have hd : Below w.heap.size w w.drew := (Below.refl _ _).drew
    exact ⟨fun d => a.eval (.tmp d), v, r, (fl_self _ a).symm, by rw [hn]; rfl, fun h => absurd h up_new, fun h => absurd h up_new, fun h => absurd h up_new, fun h => absurd h up_new, .inl ⟨up_new, up_new, rfl, rfl⟩, fun h => absurd h up_new, hv.later hd, Ext.below v hd⟩
  · rintro L a' w' i ⟨x, cur, l, rfl, H⟩ hsh hi
    have hs := H.size
    have hlt : i < 7 := by
      obtain ⟨-, o, ho, -⟩ := mem_ready.1 hi
      have := (Array.getElem?_eq_some_iff.1 ho).1
      omega
    have hiL : i < L.size := by rw [hs]; exact hlt
    have hS : (L.setIfInBounds i true).size = 7 := by simp [hs]
    have hbw : B ≤ w'.heap.size := Nat.le_trans hB H.chn.ext.grown.size
    rcases (show i = 0 ∨ i = 1 ∨ i = 2 ∨ i = 3 ∨ i = 4 ∨ i = 5 ∨ i = 6 by omega) with rfl | rfl | rfl | rfl | rfl | rfl | rfl
    · obtain ⟨hu, hd⟩ := op_ready p0 hi
      refine op_at p0 fun o ho hdst => wp_mv ho ?_
      refine ⟨upd x 48 v, cur, l, by rw [hdst, (fl_eval_out [48, 49, 50, 51, 52, 53, 4] a x (t := 0) (by decide)), h0, fl_put _ _ _ _ _ (by decide) (by decide)], hS, fun _ => upd_same _ _ _, fun h => ?_, fun h => ?_, fun h => ?_, ?_, fun h => ?_, H.chn⟩
      · rw [upd_other (by decide)]; exact H.f1 (((up_set hiL).1 h).resolve_left (by decide))
      · rw [upd_other (by decide)]; exact H.f3 (((up_set hiL).1 h).resolve_left (by decide))
      · rw [upd_other (by decide)]; exact H.f4 (((up_set hiL).1 h).resolve_left (by decide))
      · simpa only [up_set hiL, show ¬ (2 = 0) by decide, show ¬ (5 = 0) by decide, false_or, upd_other (x := x) (show 50 ≠ 48 by decide), upd_other (x := x) (show 53 ≠ 48 by decide)] using H.st
      · rw [upd_other (by decide), upd_other (by decide)]; exact H.fz (((up_set hiL).1 h).resolve_left (by decide))
    · obtain ⟨hu, hd⟩ := op_ready p1 hi
      refine op_at p1 fun o ho hdst => wp_row1 64 ho ?_
      have hb : Below w'.heap.size w' (w'.alloc (.cells #[.int .u8 (((64 : UInt8).toNat : Nat) : Int)] 5)) := (Below.refl _ _).alloc (Nat.le_refl _) _
      refine ⟨upd x 49 (.slice (some ⟨w'.heap.size, 0, none⟩) 1 1), cur, l, by rw [hdst, fl_put _ _ _ _ _ (by decide) (by decide)], hS, fun h => ?_, fun _ => by rw [upd_same]; exact Sign.new H.chn.row 64, fun h => ?_, fun h => ?_, ?_, fun h => ?_, H.chn.below hb⟩
      · rw [upd_other (by decide)]; exact H.f0 (((up_set hiL).1 h).resolve_left (by decide))
      · rw [upd_other (by decide)]; exact H.f3 (((up_set hiL).1 h).resolve_left (by decide))
      · rw [upd_other (by decide)]; exact H.f4 (((up_set hiL).1 h).resolve_left (by decide))
      · simpa only [up_set hiL, show ¬ (2 = 1) by decide, show ¬ (5 = 1) by decide, false_or, upd_other (x := x) (show 50 ≠ 49 by decide), upd_other (x := x) (show 53 ≠ 49 by decide)] using H.st
      · rw [upd_other (by decide), upd_other (by decide)]; exact H.fz (((up_set hiL).1 h).resolve_left (by decide))
    · obtain ⟨hu, hd⟩ := op_ready p2 hi
      rcases H.st with ⟨s2, s5, rfl, rfl⟩ | ⟨s2, -⟩ | ⟨s5, -⟩
      · obtain ⟨g, hg, hrow, hgf⟩ := H.f1 (hd 1 (by decide))
        refine op_at p2 fun o ho hdst => wp_byte (.tmp 48) (.tmp 49) ho (by rw [(fl_eval [48, 49, 50, 51, 52, 53, 4] a x (d := 48) (by decide) (by decide) (by rw [hsz]; decide))]; exact H.f0 (hd 0 (by decide))) (by rw [(fl_eval [48, 49, 50, 51, 52, 53, 4] a x (d := 49) (by decide) (by decide) (by rw [hsz]; decide))]; exact hg) H.chn.row hrow hbw (by omega) ?_
        intro v' w2 hb2 he2
        refine ⟨upd x 50 v', v', _, by rw [hdst, fl_put _ _ _ _ _ (by decide) (by decide)], hS, fun h => ?_, fun h => ?_, fun h => ?_, fun h => ?_, .inr (.inl ⟨(up_set hiL).2 (.inl rfl), fun h => s5 (((up_set hiL).1 h).resolve_left (by decide)), upd_same _ _ _, rfl⟩), fun h => ?_, H.chn.next hb2 he2⟩
        · rw [upd_other (by decide)]; exact H.f0 (((up_set hiL).1 h).resolve_left (by decide))
        · rw [upd_other (by decide)]; exact (H.f1 (((up_set hiL).1 h).resolve_left (by decide))).next he2
        · rw [upd_other (by decide)]; exact H.f3 (((up_set hiL).1 h).resolve_left (by decide))
        · rw [upd_other (by decide)]; exact H.f4 (((up_set hiL).1 h).resolve_left (by decide))
        · rw [upd_other (by decide), upd_other (by decide)]; exact H.fz (((up_set hiL).1 h).resolve_left (by decide))
      · exact absurd s2 hu
      · exact absurd (shut_up p5 hsh s5 2 (by decide)) hu
    · obtain ⟨hu, hd⟩ := op_ready p3 hi
      refine op_at p3 fun o ho hdst => wp_fa ho (by rw [(fl_eval_out [48, 49, 50, 51, 52, 53, 4] a x (t := 3) (by decide))]; exact h3) (hfa w') ?_
      refine ⟨upd x 51 (.pointer (some ⟨bx, 3, none⟩)), cur, l, by rw [hdst, fl_put _ _ _ _ _ (by decide) (by decide)], hS, fun h => ?_, fun h => ?_, fun _ => upd_same _ _ _, fun h => ?_, ?_, fun h => ?_, H.chn⟩
      · rw [upd_other (by decide)]; exact H.f0 (((up_set hiL).1 h).resolve_left (by decide))
      · rw [upd_other (by decide)]; exact H.f1 (((up_set hiL).1 h).resolve_left (by decide))
      · rw [upd_other (by decide)]; exact H.f4 (((up_set hiL).1 h).resolve_left (by decide))
      · simpa only [up_set hiL, show ¬ (2 = 3) by decide, show ¬ (5 = 3) by decide, false_or, upd_other (x := x) (show 50 ≠ 51 by decide), upd_other (x := x) (show 53 ≠ 51 by decide)] using H.st
      · rw [upd_other (by decide), upd_other (by decide)]; exact H.fz (((up_set hiL).1 h).resolve_left (by decide))
    · obtain ⟨hu, hd⟩ := op_ready p4 hi
      refine op_at p4 fun o ho hdst => wp_ld ho (by rw [(fl_eval [48, 49, 50, 51, 52, 53, 4] a x (d := 51) (by decide) (by decide) (by rw [hsz]; decide))]; exact H.f3 (hd 3 (by decide))) (hld w' (H.chn.ext.row hfar hbx)) ?_
      refine ⟨upd x 52 (.string nm), cur, l, by rw [hdst, fl_put _ _ _ _ _ (by decide) (by decide)], hS, fun h => ?_, fun h => ?_, fun h => ?_, fun _ => upd_same _ _ _, ?_, fun h => ?_, H.chn⟩
      · rw [upd_other (by decide)]; exact H.f0 (((up_set hiL).1 h).resolve_left (by decide))
      · rw [upd_other (by decide)]; exact H.f1 (((up_set hiL).1 h).resolve_left (by decide))
      · rw [upd_other (by decide)]; exact H.f3 (((up_set hiL).1 h).resolve_left (by decide))
      · simpa only [up_set hiL, show ¬ (2 = 4) by decide, show ¬ (5 = 4) by decide, false_or, upd_other (x := x) (show 50 ≠ 52 by decide), upd_other (x := x) (show 53 ≠ 52 by decide)] using H.st
      · rw [upd_other (by decide), upd_other (by decide)]; exact H.fz (((up_set hiL).1 h).resolve_left (by decide))
    · obtain ⟨hu, hd⟩ := op_ready p5 hi
      rcases H.st with ⟨s2, -⟩ | ⟨s2, s5, hx, hl⟩ | ⟨s5, -⟩
      · exact absurd (hd 2 (by decide)) s2
      · refine op_at p5 fun o ho hdst => wp_text (.tmp 50) (.tmp 52) ho (by rw [(fl_eval [48, 49, 50, 51, 52, 53, 4] a x (d := 50) (by decide) (by decide) (by rw [hsz]; decide))]; exact hx) (by rw [(fl_eval [48, 49, 50, 51, 52, 53, 4] a x (d := 52) (by decide) (by decide) (by rw [hsz]; decide))]; exact H.f4 (hd 4 (by decide))) H.chn.row hbw (by rw [hl, List.length_append, List.length_singleton]; omega) ?_
        intro v' w2 hb2 he2
        refine ⟨upd x 53 v', v', _, by rw [hdst, fl_put _ _ _ _ _ (by decide) (by decide)], hS, fun h => ?_, fun h => ?_, fun h => ?_, fun h => ?_, .inr (.inr (⟨(up_set hiL).2 (.inl rfl), upd_same _ _ _, by rw [hl]⟩)), fun h => absurd (shut_up p6 hsh (((up_set hiL).1 h).resolve_left (by decide)) 5 (by decide)) hu, H.chn.next hb2 he2⟩
        · rw [upd_other (by decide)]; exact H.f0 (((up_set hiL).1 h).resolve_left (by decide))
        · rw [upd_other (by decide)]; exact (H.f1 (((up_set hiL).1 h).resolve_left (by decide))).next he2
        · rw [upd_other (by decide)]; exact H.f3 (((up_set hiL).1 h).resolve_left (by decide))
        · rw [upd_other (by decide)]; exact H.f4 (((up_set hiL).1 h).resolve_left (by decide))
      · exact absurd s5 hu
    · obtain ⟨hu, hd⟩ := op_ready p6 hi
      refine op_at p6 fun o ho hdst => wp_as ho ?_
      refine ⟨upd x 4 (x 53), cur, l, by rw [hdst, (fl_eval [48, 49, 50, 51, 52, 53, 4] a x (d := 53) (by decide) (by decide) (by rw [hsz]; decide)), fl_put _ _ _ _ _ (by decide) (by decide)], hS, fun h => ?_, fun h => ?_, fun h => ?_, fun h => ?_, ?_, fun _ => by rw [upd_same, upd_other (by decide)], H.chn⟩
      · rw [upd_other (by decide)]; exact H.f0 (((up_set hiL).1 h).resolve_left (by decide))
      · rw [upd_other (by decide)]; exact H.f1 (((up_set hiL).1 h).resolve_left (by decide))
      · rw [upd_other (by decide)]; exact H.f3 (((up_set hiL).1 h).resolve_left (by decide))
      · rw [upd_other (by decide)]; exact H.f4 (((up_set hiL).1 h).resolve_left (by decide))
      · simpa only [up_set hiL, show ¬ (2 = 6) by decide, show ¬ (5 = 6) by decide, false_or, upd_other (x := x) (show 50 ≠ 4 by decide), upd_other (x := x) (show 53 ≠ 4 by decide)] using H.st
  · rintro L a' w' ⟨x, cur, l, rfl, H⟩ hr0
    have hs := H.size
    have u0 := op_up p0 hr0 (by omega) (by simp)
    have u1 := op_up p1 hr0 (by omega) (by simp)
    have u2 := op_up p2 hr0 (by omega) (by
      intro d hd
      simp only [List.mem_cons, List.mem_nil_iff, or_false] at hd
      rcases hd with rfl | rfl
      · exact u0
      · exact u1)
    have u3 := op_up p3 hr0 (by omega) (by simp)
    have u4 := op_up p4 hr0 (by omega) (by
      intro d hd
      simp only [List.mem_cons, List.mem_nil_iff, or_false] at hd
      rcases hd with rfl
      exact u3)
    have u5 := op_up p5 hr0 (by omega) (by
      intro d hd
      simp only [List.mem_cons, List.mem_nil_iff, or_false] at hd
      rcases hd with rfl | rfl
      · exact u2
      · exact u4)
    have u6 := op_up p6 hr0 (by omega) (by
      intro d hd
      simp only [List.mem_cons, List.mem_nil_iff, or_false] at hd
      rcases hd with rfl | rfl | rfl | rfl | rfl | rfl
      · exact u0
      · exact u1
      · exact u2
      · exact u3
      · exact u4
      · exact u5)
    rcases H.st with ⟨-, sz, -⟩ | ⟨-, sz, -⟩ | ⟨-, hx, hl⟩
    · exact absurd u5 sz
    · exact absurd u5 sz
    · exact hQ x w' cur l H.chn.row hl H.chn.ext ((H.fz u6).trans hx)
/-- What holds whichever operations have come up. -/
structure CalF (B : Nat) (w0 : World) (v : Value) (r : List UInt8) (bx : Nat) (nm : ByteArray) (L : Array Bool) (x : Nat → Value) (w : World) (cur : Value) (l : List UInt8) : Prop where
  size : L.size = 7
  f0 : Up L 0 → x 56 = v
  f1 : Up L 1 → Sign w cur 42 (x 57)
  f3 : Up L 3 → x 59 = .pointer (some ⟨bx, 3, none⟩)
  f4 : Up L 4 → x 60 = .string nm
  st : (¬ Up L 2 ∧ ¬ Up L 5 ∧ cur = v ∧ l = r) ∨ (Up L 2 ∧ ¬ Up L 5 ∧ x 58 = cur ∧ (fun l => l = r ++ [42]) l) ∨ (Up L 5 ∧ x 61 = cur ∧ (fun l => l = r ++ [42] ++ nm.data.toList) l)
  fz : Up L 6 → x 4 = x 61
  chn : Chn B w0 v w cur l
set_option maxHeartbeats 1000000 in
theorem cal_region {ops : Array Oper} {id : Nat} {Q : Exit → Act → World → Prop} {a : Act} {w : World} {v : Value} {r : List UInt8} {B : Nat} {bx : Nat} {row : Obj} {nm : ByteArray}
    (p0 : OpIs ops 0 (.move (.tmp 0)) 56 [])
    (p1 : OpIs ops 1 (.buildSlice 39 1 #[(0, .const (.int .u8 42))]) 57 [])
    (p2 : OpIs ops 2 (.call { callee := .builtin .append, args := #[.tmp 56, .tmp 57], argTypes := #[39, 39] }) 58 [0, 1])
    (p3 : OpIs ops 3 (.fieldAddr 24 (.tmp 3) 3) 59 [])
    (p4 : OpIs ops 4 (.load 9 (.tmp 59)) 60 [3])
    (p5 : OpIs ops 5 (.call { callee := .builtin .append, args := #[.tmp 58, .tmp 60], argTypes := #[39, 9] }) 61 [2, 4])
    (p6 : OpIs ops 6 (.assign (.tmp 61)) 4 [0, 1, 2, 3, 4, 5])
    (hn : ops.size = 7) (hsz : a.tmps.size = 65) (h0 : a.eval (.tmp 0) = v) (hv : Bytes w B v r) (hB : B ≤ w.heap.size)
    (hr : r.length + 140000 ≤ 100000000) (h3 : a.eval (.tmp 3) = .pointer (some ⟨bx, 0, none⟩)) (hbx : w.heap[bx]? = some row) (hfar : some bx ≠ v.ownBlock) (hnm : nm.size ≤ 16) (hfa : ∀ W, (Instr.fieldAt 24 (.pointer (some ⟨bx, 0, none⟩)) 3).run Tryd.prog W = .ok (.pointer (some ⟨bx, 3, none⟩)) W) (hld : ∀ W : World, W.heap[bx]? = some row → (Instr.loadAt 9 (.pointer (some ⟨bx, 3, none⟩))).run Tryd.prog W = .ok (.string nm) W) 
    (hQ : ∀ x w2 v2 l2, Bytes w2 B v2 l2 → (fun l => l = r ++ [42] ++ nm.data.toList) l2 → Ext w w2 v v2 → x 4 = v2 → Q .normal (fl a [56, 57, 58, 59, 60, 61, 4] x) w2) : (Code.region id ops true).wp Tryd.prog Q a w := by
  refine region_inv2 (I := fun L a' w' => ∃ x cur l, a' = fl a [56, 57, 58, 59, 60, 61, 4] x ∧ CalF B w v r bx nm L x w' cur l) rfl ?_ ?_ ?_
  · have hd : Below w.heap.size w w.drew := (Below.refl _ _).drew
    exact ⟨fun d => a.eval (.tmp d), v, r, (fl_self _ a).symm, by rw [hn]; rfl, fun h => absurd h up_new, fun h => absurd h up_new, fun h => absurd h up_new, fun h => absurd h up_new, .inl ⟨up_new, up_new, rfl, rfl⟩, fun h => absurd h up_new, hv.later hd, Ext.below v hd⟩
  · rintro L a' w' i ⟨x, cur, l, rfl, H⟩ hsh hi
    have hs := H.size
    have hlt : i < 7 := by
      obtain ⟨-, o, ho, -⟩ := mem_ready.1 hi
      have := (Array.getElem?_eq_some_iff.1 ho).1
      omega
    have hiL : i < L.size := by rw [hs]; exact hlt
    have hS : (L.setIfInBounds i true).size = 7 := by simp [hs]
    have hbw : B ≤ w'.heap.size := Nat.le_trans hB H.chn.ext.grown.size
    rcases (show i = 0 ∨ i = 1 ∨ i = 2 ∨ i = 3 ∨ i = 4 ∨ i = 5 ∨ i = 6 by omega) with rfl | rfl | rfl | rfl | rfl | rfl | rfl
    · obtain ⟨hu, hd⟩ := op_ready p0 hi
      refine op_at p0 fun o ho hdst => wp_mv ho ?_
      refine ⟨upd x 56 v, cur, l, by rw [hdst, (fl_eval_out [56, 57, 58, 59, 60, 61, 4] a x (t := 0) (by decide)), h0, fl_put _ _ _ _ _ (by decide) (by decide)], hS, fun _ => upd_same _ _ _, fun h => ?_, fun h => ?_, fun h => ?_, ?_, fun h => ?_, H.chn⟩
      · rw [upd_other (by decide)]; exact H.f1 (((up_set hiL).1 h).resolve_left (by decide))
      · rw [upd_other (by decide)]; exact H.f3 (((up_set hiL).1 h).resolve_left (by decide))
      · rw [upd_other (by decide)]; exact H.f4 (((up_set hiL).1 h).resolve_left (by decide))
      · simpa only [up_set hiL, show ¬ (2 = 0) by decide, show ¬ (5 = 0) by decide, false_or, upd_other (x := x) (show 58 ≠ 56 by decide), upd_other (x := x) (show 61 ≠ 56 by decide)] using H.st
      · rw [upd_other (by decide), upd_other (by decide)]; exact H.fz (((up_set hiL).1 h).resolve_left (by decide))
    · obtain ⟨hu, hd⟩ := op_ready p1 hi
      refine op_at p1 fun o ho hdst => wp_row1 42 ho ?_
      have hb : Below w'.heap.size w' (w'.alloc (.cells #[.int .u8 (((42 : UInt8).toNat : Nat) : Int)] 5)) := (Below.refl _ _).alloc (Nat.le_refl _) _
      refine ⟨upd x 57 (.slice (some ⟨w'.heap.size, 0, none⟩) 1 1), cur, l, by rw [hdst, fl_put _ _ _ _ _ (by decide) (by decide)], hS, fun h => ?_, fun _ => by rw [upd_same]; exact Sign.new H.chn.row 42, fun h => ?_, fun h => ?_, ?_, fun h => ?_, H.chn.below hb⟩
      · rw [upd_other (by decide)]; exact H.f0 (((up_set hiL).1 h).resolve_left (by decide))
      · rw [upd_other (by decide)]; exact H.f3 (((up_set hiL).1 h).resolve_left (by decide))
      · rw [upd_other (by decide)]; exact H.f4 (((up_set hiL).1 h).resolve_left (by decide))
      · simpa only [up_set hiL, show ¬ (2 = 1) by decide, show ¬ (5 = 1) by decide, false_or, upd_other (x := x) (show 58 ≠ 57 by decide), upd_other (x := x) (show 61 ≠ 57 by decide)] using H.st
      · rw [upd_other (by decide), upd_other (by decide)]; exact H.fz (((up_set hiL).1 h).resolve_left (by decide))
    · obtain ⟨hu, hd⟩ := op_ready p2 hi
      rcases H.st with ⟨s2, s5, rfl, rfl⟩ | ⟨s2, -⟩ | ⟨s5, -⟩
      · obtain ⟨g, hg, hrow, hgf⟩ := H.f1 (hd 1 (by decide))
        refine op_at p2 fun o ho hdst => wp_byte (.tmp 56) (.tmp 57) ho (by rw [(fl_eval [56, 57, 58, 59, 60, 61, 4] a x (d := 56) (by decide) (by decide) (by rw [hsz]; decide))]; exact H.f0 (hd 0 (by decide))) (by rw [(fl_eval [56, 57, 58, 59, 60, 61, 4] a x (d := 57) (by decide) (by decide) (by rw [hsz]; decide))]; exact hg) H.chn.row hrow hbw (by omega) ?_
        intro v' w2 hb2 he2
        refine ⟨upd x 58 v', v', _, by rw [hdst, fl_put _ _ _ _ _ (by decide) (by decide)], hS, fun h => ?_, fun h => ?_, fun h => ?_, fun h => ?_, .inr (.inl ⟨(up_set hiL).2 (.inl rfl), fun h => s5 (((up_set hiL).1 h).resolve_left (by decide)), upd_same _ _ _, rfl⟩), fun h => ?_, H.chn.next hb2 he2⟩
        · rw [upd_other (by decide)]; exact H.f0 (((up_set hiL).1 h).resolve_left (by decide))
        · rw [upd_other (by decide)]; exact (H.f1 (((up_set hiL).1 h).resolve_left (by decide))).next he2
        · rw [upd_other (by decide)]; exact H.f3 (((up_set hiL).1 h).resolve_left (by decide))
        · rw [upd_other (by decide)]; exact H.f4 (((up_set hiL).1 h).resolve_left (by decide))
        · rw [upd_other (by decide), upd_other (by decide)]; exact H.fz (((up_set hiL).1 h).resolve_left (by decide))
      · exact absurd s2 hu
      · exact absurd (shut_up p5 hsh s5 2 (by decide)) hu
    · obtain ⟨hu, hd⟩ := op_ready p3 hi
      refine op_at p3 fun o ho hdst => wp_fa ho (by rw [(fl_eval_out [56, 57, 58, 59, 60, 61, 4] a x (t := 3) (by decide))]; exact h3) (hfa w') ?_
      refine ⟨upd x 59 (.pointer (some ⟨bx, 3, none⟩)), cur, l, by rw [hdst, fl_put _ _ _ _ _ (by decide) (by decide)], hS, fun h => ?_, fun h => ?_, fun _ => upd_same _ _ _, fun h => ?_, ?_, fun h => ?_, H.chn⟩
      · rw [upd_other (by decide)]; exact H.f0 (((up_set hiL).1 h).resolve_left (by decide))
      · rw [upd_other (by decide)]; exact H.f1 (((up_set hiL).1 h).resolve_left (by decide))
      · rw [upd_other (by decide)]; exact H.f4 (((up_set hiL).1 h).resolve_left (by decide))
      · simpa only [up_set hiL, show ¬ (2 = 3) by decide, show ¬ (5 = 3) by decide, false_or, upd_other (x := x) (show 58 ≠ 59 by decide), upd_other (x := x) (show 61 ≠ 59 by decide)] using H.st
      · rw [upd_other (by decide), upd_other (by decide)]; exact H.fz (((up_set hiL).1 h).resolve_left (by decide))
    · obtain ⟨hu, hd⟩ := op_ready p4 hi
      refine op_at p4 fun o ho hdst => wp_ld ho (by rw [(fl_eval [56, 57, 58, 59, 60, 61, 4] a x (d := 59) (by decide) (by decide) (by rw [hsz]; decide))]; exact H.f3 (hd 3 (by decide))) (hld w' (H.chn.ext.row hfar hbx)) ?_
      refine ⟨upd x 60 (.string nm), cur, l, by rw [hdst, fl_put _ _ _ _ _ (by decide) (by decide)], hS, fun h => ?_, fun h => ?_, fun h => ?_, fun _ => upd_same _ _ _, ?_, fun h => ?_, H.chn⟩
      · rw [upd_other (by decide)]; exact H.f0 (((up_set hiL).1 h).resolve_left (by decide))
      · rw [upd_other (by decide)]; exact H.f1 (((up_set hiL).1 h).resolve_left (by decide))
      · rw [upd_other (by decide)]; exact H.f3 (((up_set hiL).1 h).resolve_left (by decide))
      · simpa only [up_set hiL, show ¬ (2 = 4) by decide, show ¬ (5 = 4) by decide, false_or, upd_other (x := x) (show 58 ≠ 60 by decide), upd_other (x := x) (show 61 ≠ 60 by decide)] using H.st
      · rw [upd_other (by decide), upd_other (by decide)]; exact H.fz (((up_set hiL).1 h).resolve_left (by decide))
    · obtain ⟨hu, hd⟩ := op_ready p5 hi
      rcases H.st with ⟨s2, -⟩ | ⟨s2, s5, hx, hl⟩ | ⟨s5, -⟩
      · exact absurd (hd 2 (by decide)) s2
      · refine op_at p5 fun o ho hdst => wp_text (.tmp 58) (.tmp 60) ho (by rw [(fl_eval [56, 57, 58, 59, 60, 61, 4] a x (d := 58) (by decide) (by decide) (by rw [hsz]; decide))]; exact hx) (by rw [(fl_eval [56, 57, 58, 59, 60, 61, 4] a x (d := 60) (by decide) (by decide) (by rw [hsz]; decide))]; exact H.f4 (hd 4 (by decide))) H.chn.row hbw (by rw [hl, List.length_append, List.length_singleton]; omega) ?_
        intro v' w2 hb2 he2
        refine ⟨upd x 61 v', v', _, by rw [hdst, fl_put _ _ _ _ _ (by decide) (by decide)], hS, fun h => ?_, fun h => ?_, fun h => ?_, fun h => ?_, .inr (.inr (⟨(up_set hiL).2 (.inl rfl), upd_same _ _ _, by rw [hl]⟩)), fun h => absurd (shut_up p6 hsh (((up_set hiL).1 h).resolve_left (by decide)) 5 (by decide)) hu, H.chn.next hb2 he2⟩
        · rw [upd_other (by decide)]; exact H.f0 (((up_set hiL).1 h).resolve_left (by decide))
        · rw [upd_other (by decide)]; exact (H.f1 (((up_set hiL).1 h).resolve_left (by decide))).next he2
        · rw [upd_other (by decide)]; exact H.f3 (((up_set hiL).1 h).resolve_left (by decide))
        · rw [upd_other (by decide)]; exact H.f4 (((up_set hiL).1 h).resolve_left (by decide))
      · exact absurd s5 hu
    · obtain ⟨hu, hd⟩ := op_ready p6 hi
      refine op_at p6 fun o ho hdst => wp_as ho ?_
      refine ⟨upd x 4 (x 61), cur, l, by rw [hdst, (fl_eval [56, 57, 58, 59, 60, 61, 4] a x (d := 61) (by decide) (by decide) (by rw [hsz]; decide)), fl_put _ _ _ _ _ (by decide) (by decide)], hS, fun h => ?_, fun h => ?_, fun h => ?_, fun h => ?_, ?_, fun _ => by rw [upd_same, upd_other (by decide)], H.chn⟩
      · rw [upd_other (by decide)]; exact H.f0 (((up_set hiL).1 h).resolve_left (by decide))
      · rw [upd_other (by decide)]; exact H.f1 (((up_set hiL).1 h).resolve_left (by decide))
      · rw [upd_other (by decide)]; exact H.f3 (((up_set hiL).1 h).resolve_left (by decide))
      · rw [upd_other (by decide)]; exact H.f4 (((up_set hiL).1 h).resolve_left (by decide))
      · simpa only [up_set hiL, show ¬ (2 = 6) by decide, show ¬ (5 = 6) by decide, false_or, upd_other (x := x) (show 58 ≠ 4 by decide), upd_other (x := x) (show 61 ≠ 4 by decide)] using H.st
  · rintro L a' w' ⟨x, cur, l, rfl, H⟩ hr0
    have hs := H.size
    have u0 := op_up p0 hr0 (by omega) (by simp)
    have u1 := op_up p1 hr0 (by omega) (by simp)
    have u2 := op_up p2 hr0 (by omega) (by
      intro d hd
      simp only [List.mem_cons, List.mem_nil_iff, or_false] at hd
      rcases hd with rfl | rfl
      · exact u0
      · exact u1)
    have u3 := op_up p3 hr0 (by omega) (by simp)
    have u4 := op_up p4 hr0 (by omega) (by
      intro d hd
      simp only [List.mem_cons, List.mem_nil_iff, or_false] at hd
      rcases hd with rfl
      exact u3)
    have u5 := op_up p5 hr0 (by omega) (by
      intro d hd
      simp only [List.mem_cons, List.mem_nil_iff, or_false] at hd
      rcases hd with rfl | rfl
      · exact u2
      · exact u4)
    have u6 := op_up p6 hr0 (by omega) (by
      intro d hd
      simp only [List.mem_cons, List.mem_nil_iff, or_false] at hd
      rcases hd with rfl | rfl | rfl | rfl | rfl | rfl
      · exact u0
      · exact u1
      · exact u2
      · exact u3
      · exact u4
      · exact u5)
    rcases H.st with ⟨-, sz, -⟩ | ⟨-, sz, -⟩ | ⟨-, hx, hl⟩
    · exact absurd u5 sz
    · exact absurd u5 sz
    · exact hQ x w' cur l H.chn.row hl H.chn.ext ((H.fz u6).trans hx)
/-- What holds whichever operations have come up. -/
structure CndF (B : Nat) (w0 : World) (v : Value) (r : List UInt8) (bx : Nat) (nm : ByteArray) (pat : Value) (M : List UInt8 → Prop) (L : Array Bool) (x : Nat → Value) (w : World) (cur : Value) (l : List UInt8) : Prop where
  size : L.size = 8
  f0 : Up L 0 → x 30 = v
  f1 : Up L 1 → x 31 = pat
  f4 : Up L 4 → x 34 = .pointer (some ⟨bx, 3, none⟩)
  f5 : Up L 5 → x 35 = .string nm
  st : (¬ Up L 2 ∧ ¬ Up L 3 ∧ ¬ Up L 6 ∧ cur = v ∧ l = r) ∨ (Up L 2 ∧ ¬ Up L 3 ∧ ¬ Up L 6 ∧ x 32 = cur ∧ (M) l) ∨ (Up L 3 ∧ ¬ Up L 6 ∧ x 33 = cur ∧ (fun l => ∃ l0, M l0 ∧ l = l0 ++ [32, 46, 32]) l) ∨ (Up L 6 ∧ x 36 = cur ∧ (fun l => ∃ l0, M l0 ∧ l = l0 ++ [32, 46, 32] ++ nm.data.toList) l)
  fz : Up L 7 → x 4 = x 36
  chn : Chn B w0 v w cur l
set_option maxHeartbeats 1000000 in
theorem cnd_region {ops : Array Oper} {id : Nat} {Q : Exit → Act → World → Prop} {a : Act} {w : World} {v : Value} {r : List UInt8} {B : Nat} {bx : Nat} {row : Obj} {nm : ByteArray} {pat : Value} {M : List UInt8 → Prop}
    (p0 : OpIs ops 0 (.move (.tmp 0)) 30 [])
    (p1 : OpIs ops 1 (.load 24 (.tmp 3)) 31 [])
    (p2 : OpIs ops 2 (.call { callee := .value (.func 28), args := #[.tmp 30, .tmp 31, .const (.string ⟨#[]⟩)], argTypes := #[39, 24, 9] }) 32 [0, 1])
    (p3 : OpIs ops 3 (.call { callee := .builtin .append, args := #[.tmp 32, .const (.string ⟨#[32, 46, 32]⟩)], argTypes := #[39, 9] }) 33 [2])
    (p4 : OpIs ops 4 (.fieldAddr 24 (.tmp 3) 3) 34 [])
    (p5 : OpIs ops 5 (.load 9 (.tmp 34)) 35 [4])
    (p6 : OpIs ops 6 (.call { callee := .builtin .append, args := #[.tmp 33, .tmp 35], argTypes := #[39, 9] }) 36 [3, 5])
    (p7 : OpIs ops 7 (.assign (.tmp 36)) 4 [0, 1, 2, 3, 4, 5, 6])
    (hn : ops.size = 8) (hsz : a.tmps.size = 65) (h0 : a.eval (.tmp 0) = v) (hv : Bytes w B v r) (hB : B ≤ w.heap.size)
    (hr : r.length + 140000 ≤ 100000000) (h3 : a.eval (.tmp 3) = .pointer (some ⟨bx, 0, none⟩)) (hbx : w.heap[bx]? = some row) (hfar : some bx ≠ v.ownBlock) (hnm : nm.size ≤ 16) (hfa : ∀ W, (Instr.fieldAt 24 (.pointer (some ⟨bx, 0, none⟩)) 3).run Tryd.prog W = .ok (.pointer (some ⟨bx, 3, none⟩)) W) (hld : ∀ W : World, W.heap[bx]? = some row → (Instr.loadAt 9 (.pointer (some ⟨bx, 3, none⟩))).run Tryd.prog W = .ok (.string nm) W) (hlp : ∀ W : World, W.heap[bx]? = some row → (Instr.loadAt 24 (.pointer (some ⟨bx, 0, none⟩))).run Tryd.prog W = .ok pat W) (hM : ∀ l, M l → l.length + 100 ≤ 100000000)
    (hC : ∀ w1, Bytes w1 B v r → Ext w w1 v v → Calls Tryd.prog 28 #[v, pat, .string ⟨#[]⟩] w1 fun e w2 => ∃ v2, e = .returned v2 ∧ ∃ r2, Bytes w2 B v2 r2 ∧ Ext w1 w2 v v2 ∧ M r2)
    (hQ : ∀ x w2 v2 l2, Bytes w2 B v2 l2 → (fun l => ∃ l0, M l0 ∧ l = l0 ++ [32, 46, 32] ++ nm.data.toList) l2 → Ext w w2 v v2 → x 4 = v2 → Q .normal (fl a [30, 31, 32, 33, 34, 35, 36, 4] x) w2) : (Code.region id ops true).wp Tryd.prog Q a w := by
  refine region_inv2 (I := fun L a' w' => ∃ x cur l, a' = fl a [30, 31, 32, 33, 34, 35, 36, 4] x ∧ CndF B w v r bx nm pat M L x w' cur l) rfl ?_ ?_ ?_
  · have hd : Below w.heap.size w w.drew := (Below.refl _ _).drew
    exact ⟨fun d => a.eval (.tmp d), v, r, (fl_self _ a).symm, by rw [hn]; rfl, fun h => absurd h up_new, fun h => absurd h up_new, fun h => absurd h up_new, fun h => absurd h up_new, .inl ⟨up_new, up_new, up_new, rfl, rfl⟩, fun h => absurd h up_new, hv.later hd, Ext.below v hd⟩
  · rintro L a' w' i ⟨x, cur, l, rfl, H⟩ hsh hi
    have hs := H.size
    have hlt : i < 8 := by
      obtain ⟨-, o, ho, -⟩ := mem_ready.1 hi
      have := (Array.getElem?_eq_some_iff.1 ho).1
      omega
    have hiL : i < L.size := by rw [hs]; exact hlt
    have hS : (L.setIfInBounds i true).size = 8 := by simp [hs]
    have hbw : B ≤ w'.heap.size := Nat.le_trans hB H.chn.ext.grown.size
    rcases (show i = 0 ∨ i = 1 ∨ i = 2 ∨ i = 3 ∨ i = 4 ∨ i = 5 ∨ i = 6 ∨ i = 7 by omega) with rfl | rfl | rfl | rfl | rfl | rfl | rfl | rfl
    · obtain ⟨hu, hd⟩ := op_ready p0 hi
      refine op_at p0 fun o ho hdst => wp_mv ho ?_
      refine ⟨upd x 30 v, cur, l, by rw [hdst, (fl_eval_out [30, 31, 32, 33, 34, 35, 36, 4] a x (t := 0) (by decide)), h0, fl_put _ _ _ _ _ (by decide) (by decide)], hS, fun _ => upd_same _ _ _, fun h => ?_, fun h => ?_, fun h => ?_, ?_, fun h => ?_, H.chn⟩
      · rw [upd_other (by decide)]; exact H.f1 (((up_set hiL).1 h).resolve_left (by decide))
      · rw [upd_other (by decide)]; exact H.f4 (((up_set hiL).1 h).resolve_left (by decide))
      · rw [upd_other (by decide)]; exact H.f5 (((up_set hiL).1 h).resolve_left (by decide))
      · simpa only [up_set hiL, show ¬ (2 = 0) by decide, show ¬ (3 = 0) by decide, show ¬ (6 = 0) by decide, false_or, upd_other (x := x) (show 32 ≠ 30 by decide), upd_other (x := x) (show 33 ≠ 30 by decide), upd_other (x := x) (show 36 ≠ 30 by decide)] using H.st
      · rw [upd_other (by decide), upd_other (by decide)]; exact H.fz (((up_set hiL).1 h).resolve_left (by decide))
    · obtain ⟨hu, hd⟩ := op_ready p1 hi
      refine op_at p1 fun o ho hdst => wp_ld ho (by rw [(fl_eval_out [30, 31, 32, 33, 34, 35, 36, 4] a x (t := 3) (by decide))]; exact h3) (hlp w' (H.chn.ext.row hfar hbx)) ?_
      refine ⟨upd x 31 (pat), cur, l, by rw [hdst, fl_put _ _ _ _ _ (by decide) (by decide)], hS, fun h => ?_, fun _ => upd_same _ _ _, fun h => ?_, fun h => ?_, ?_, fun h => ?_, H.chn⟩
      · rw [upd_other (by decide)]; exact H.f0 (((up_set hiL).1 h).resolve_left (by decide))
      · rw [upd_other (by decide)]; exact H.f4 (((up_set hiL).1 h).resolve_left (by decide))
      · rw [upd_other (by decide)]; exact H.f5 (((up_set hiL).1 h).resolve_left (by decide))
      · simpa only [up_set hiL, show ¬ (2 = 1) by decide, show ¬ (3 = 1) by decide, show ¬ (6 = 1) by decide, false_or, upd_other (x := x) (show 32 ≠ 31 by decide), upd_other (x := x) (show 33 ≠ 31 by decide), upd_other (x := x) (show 36 ≠ 31 by decide)] using H.st
      · rw [upd_other (by decide), upd_other (by decide)]; exact H.fz (((up_set hiL).1 h).resolve_left (by decide))
    · obtain ⟨hu, hd⟩ := op_ready p2 hi
      rcases H.st with ⟨s2, s3, s6, rfl, rfl⟩ | ⟨s2, -⟩ | ⟨s3, -⟩ | ⟨s6, -⟩
      · refine op_at p2 fun o ho hdst => wp_go ho Tryd.func28 rfl rfl _ (by simp only [List.map_toArray, List.map_cons, List.map_nil]; rw [(fl_eval [30, 31, 32, 33, 34, 35, 36, 4] a x (d := 30) (by decide) (by decide) (by rw [hsz]; decide)), (fl_eval [30, 31, 32, 33, 34, 35, 36, 4] a x (d := 31) (by decide) (by decide) (by rw [hsz]; decide)), H.f0 (hd 0 (by decide)), H.f1 (hd 1 (by decide))]; rfl) ((hC w' H.chn.row H.chn.ext).mono ?_)
        rintro e w2 ⟨v2, rfl, r2, hb2, he2, hm2⟩
        refine ⟨v2, rfl, upd x 32 v2, v2, r2, by rw [hdst, fl_put _ _ _ _ _ (by decide) (by decide)], hS, fun h => ?_, fun h => ?_, fun h => ?_, fun h => ?_, .inr (.inl ⟨(up_set hiL).2 (.inl rfl), fun h => s3 (((up_set hiL).1 h).resolve_left (by decide)), fun h => s6 (((up_set hiL).1 h).resolve_left (by decide)), upd_same _ _ _, hm2⟩), fun h => ?_, H.chn.next hb2 he2⟩
        · rw [upd_other (by decide)]; exact H.f0 (((up_set hiL).1 h).resolve_left (by decide))
        · rw [upd_other (by decide)]; exact H.f1 (((up_set hiL).1 h).resolve_left (by decide))
        · rw [upd_other (by decide)]; exact H.f4 (((up_set hiL).1 h).resolve_left (by decide))
        · rw [upd_other (by decide)]; exact H.f5 (((up_set hiL).1 h).resolve_left (by decide))
        · rw [upd_other (by decide), upd_other (by decide)]; exact H.fz (((up_set hiL).1 h).resolve_left (by decide))
      · exact absurd s2 hu
      · exact absurd (shut_up p3 hsh s3 2 (by decide)) hu
      · exact absurd (shut_up p3 hsh (shut_up p6 hsh s6 3 (by decide)) 2 (by decide)) hu
    · obtain ⟨hu, hd⟩ := op_ready p3 hi
      rcases H.st with ⟨s2, -⟩ | ⟨s2, s3, s6, hx, hl⟩ | ⟨s3, -⟩ | ⟨s6, -⟩
      · exact absurd (hd 2 (by decide)) s2
      · refine op_at p3 fun o ho hdst => wp_text (.tmp 32) (.const (.string ⟨#[32, 46, 32]⟩)) ho (by rw [(fl_eval [30, 31, 32, 33, 34, 35, 36, 4] a x (d := 32) (by decide) (by decide) (by rw [hsz]; decide))]; exact hx) rfl H.chn.row hbw (by have := hM l hl; show l.length + 3 ≤ _; omega) ?_
        intro v' w2 hb2 he2
        refine ⟨upd x 33 v', v', _, by rw [hdst, fl_put _ _ _ _ _ (by decide) (by decide)], hS, fun h => ?_, fun h => ?_, fun h => ?_, fun h => ?_, .inr (.inr (.inl ⟨(up_set hiL).2 (.inl rfl), fun h => s6 (((up_set hiL).1 h).resolve_left (by decide)), upd_same _ _ _, ⟨l, hl, rfl⟩⟩)), fun h => ?_, H.chn.next hb2 he2⟩
        · rw [upd_other (by decide)]; exact H.f0 (((up_set hiL).1 h).resolve_left (by decide))
        · rw [upd_other (by decide)]; exact H.f1 (((up_set hiL).1 h).resolve_left (by decide))
        · rw [upd_other (by decide)]; exact H.f4 (((up_set hiL).1 h).resolve_left (by decide))
        · rw [upd_other (by decide)]; exact H.f5 (((up_set hiL).1 h).resolve_left (by decide))
        · rw [upd_other (by decide), upd_other (by decide)]; exact H.fz (((up_set hiL).1 h).resolve_left (by decide))
      · exact absurd s3 hu
      · exact absurd (shut_up p6 hsh s6 3 (by decide)) hu
    · obtain ⟨hu, hd⟩ := op_ready p4 hi
      refine op_at p4 fun o ho hdst => wp_fa ho (by rw [(fl_eval_out [30, 31, 32, 33, 34, 35, 36, 4] a x (t := 3) (by decide))]; exact h3) (hfa w') ?_
      refine ⟨upd x 34 (.pointer (some ⟨bx, 3, none⟩)), cur, l, by rw [hdst, fl_put _ _ _ _ _ (by decide) (by decide)], hS, fun h => ?_, fun h => ?_, fun _ => upd_same _ _ _, fun h => ?_, ?_, fun h => ?_, H.chn⟩
      · rw [upd_other (by decide)]; exact H.f0 (((up_set hiL).1 h).resolve_left (by decide))
      · rw [upd_other (by decide)]; exact H.f1 (((up_set hiL).1 h).resolve_left (by decide))
      · rw [upd_other (by decide)]; exact H.f5 (((up_set hiL).1 h).resolve_left (by decide))
      · simpa only [up_set hiL, show ¬ (2 = 4) by decide, show ¬ (3 = 4) by decide, show ¬ (6 = 4) by decide, false_or, upd_other (x := x) (show 32 ≠ 34 by decide), upd_other (x := x) (show 33 ≠ 34 by decide), upd_other (x := x) (show 36 ≠ 34 by decide)] using H.st
      · rw [upd_other (by decide), upd_other (by decide)]; exact H.fz (((up_set hiL).1 h).resolve_left (by decide))
    · obtain ⟨hu, hd⟩ := op_ready p5 hi
      refine op_at p5 fun o ho hdst => wp_ld ho (by rw [(fl_eval [30, 31, 32, 33, 34, 35, 36, 4] a x (d := 34) (by decide) (by decide) (by rw [hsz]; decide))]; exact H.f4 (hd 4 (by decide))) (hld w' (H.chn.ext.row hfar hbx)) ?_
      refine ⟨upd x 35 (.string nm), cur, l, by rw [hdst, fl_put _ _ _ _ _ (by decide) (by decide)], hS, fun h => ?_, fun h => ?_, fun h => ?_, fun _ => upd_same _ _ _, ?_, fun h => ?_, H.chn⟩
      · rw [upd_other (by decide)]; exact H.f0 (((up_set hiL).1 h).resolve_left (by decide))
      · rw [upd_other (by decide)]; exact H.f1 (((up_set hiL).1 h).resolve_left (by decide))
      · rw [upd_other (by decide)]; exact H.f4 (((up_set hiL).1 h).resolve_left (by decide))
      · simpa only [up_set hiL, show ¬ (2 = 5) by decide, show ¬ (3 = 5) by decide, show ¬ (6 = 5) by decide, false_or, upd_other (x := x) (show 32 ≠ 35 by decide), upd_other (x := x) (show 33 ≠ 35 by decide), upd_other (x := x) (show 36 ≠ 35 by decide)] using H.st
      · rw [upd_other (by decide), upd_other (by decide)]; exact H.fz (((up_set hiL).1 h).resolve_left (by decide))
    · obtain ⟨hu, hd⟩ := op_ready p6 hi
      rcases H.st with ⟨-, s3, -⟩ | ⟨-, s3, -⟩ | ⟨s3, s6, hx, hl⟩ | ⟨s6, -⟩
      · exact absurd (hd 3 (by decide)) s3
      · exact absurd (hd 3 (by decide)) s3
      · refine op_at p6 fun o ho hdst => wp_text (.tmp 33) (.tmp 35) ho (by rw [(fl_eval [30, 31, 32, 33, 34, 35, 36, 4] a x (d := 33) (by decide) (by decide) (by rw [hsz]; decide))]; exact hx) (by rw [(fl_eval [30, 31, 32, 33, 34, 35, 36, 4] a x (d := 35) (by decide) (by decide) (by rw [hsz]; decide))]; exact H.f5 (hd 5 (by decide))) H.chn.row hbw (by obtain ⟨l0, h0, e0⟩ := hl; have := hM l0 h0; rw [e0, List.length_append]; show l0.length + 3 + nm.size ≤ _; omega) ?_
        intro v' w2 hb2 he2
        refine ⟨upd x 36 v', v', _, by rw [hdst, fl_put _ _ _ _ _ (by decide) (by decide)], hS, fun h => ?_, fun h => ?_, fun h => ?_, fun h => ?_, .inr (.inr (.inr (⟨(up_set hiL).2 (.inl rfl), upd_same _ _ _, by obtain ⟨l0, h0, e0⟩ := hl; exact ⟨l0, h0, by rw [e0]⟩⟩))), fun h => absurd (shut_up p7 hsh (((up_set hiL).1 h).resolve_left (by decide)) 6 (by decide)) hu, H.chn.next hb2 he2⟩
        · rw [upd_other (by decide)]; exact H.f0 (((up_set hiL).1 h).resolve_left (by decide))
        · rw [upd_other (by decide)]; exact H.f1 (((up_set hiL).1 h).resolve_left (by decide))
        · rw [upd_other (by decide)]; exact H.f4 (((up_set hiL).1 h).resolve_left (by decide))
        · rw [upd_other (by decide)]; exact H.f5 (((up_set hiL).1 h).resolve_left (by decide))
      · exact absurd s6 hu
    · obtain ⟨hu, hd⟩ := op_ready p7 hi
      refine op_at p7 fun o ho hdst => wp_as ho ?_
      refine ⟨upd x 4 (x 36), cur, l, by rw [hdst, (fl_eval [30, 31, 32, 33, 34, 35, 36, 4] a x (d := 36) (by decide) (by decide) (by rw [hsz]; decide)), fl_put _ _ _ _ _ (by decide) (by decide)], hS, fun h => ?_, fun h => ?_, fun h => ?_, fun h => ?_, ?_, fun _ => by rw [upd_same, upd_other (by decide)], H.chn⟩
      · rw [upd_other (by decide)]; exact H.f0 (((up_set hiL).1 h).resolve_left (by decide))
      · rw [upd_other (by decide)]; exact H.f1 (((up_set hiL).1 h).resolve_left (by decide))
      · rw [upd_other (by decide)]; exact H.f4 (((up_set hiL).1 h).resolve_left (by decide))
      · rw [upd_other (by decide)]; exact H.f5 (((up_set hiL).1 h).resolve_left (by decide))
      · simpa only [up_set hiL, show ¬ (2 = 7) by decide, show ¬ (3 = 7) by decide, show ¬ (6 = 7) by decide, false_or, upd_other (x := x) (show 32 ≠ 4 by decide), upd_other (x := x) (show 33 ≠ 4 by decide), upd_other (x := x) (show 36 ≠ 4 by decide)] using H.st
  · rintro L a' w' ⟨x, cur, l, rfl, H⟩ hr0
    have hs := H.size
    have u0 := op_up p0 hr0 (by omega) (by simp)
    have u1 := op_up p1 hr0 (by omega) (by simp)
    have u2 := op_up p2 hr0 (by omega) (by
      intro d hd
      simp only [List.mem_cons, List.mem_nil_iff, or_false] at hd
      rcases hd with rfl | rfl
      · exact u0
      · exact u1)
    have u3 := op_up p3 hr0 (by omega) (by
      intro d hd
      simp only [List.mem_cons, List.mem_nil_iff, or_false] at hd
      rcases hd with rfl
      exact u2)
    have u4 := op_up p4 hr0 (by omega) (by simp)
    have u5 := op_up p5 hr0 (by omega) (by
      intro d hd
      simp only [List.mem_cons, List.mem_nil_iff, or_false] at hd
      rcases hd with rfl
      exact u4)
    have u6 := op_up p6 hr0 (by omega) (by
      intro d hd
      simp only [List.mem_cons, List.mem_nil_iff, or_false] at hd
      rcases hd with rfl | rfl
      · exact u3
      · exact u5)
    have u7 := op_up p7 hr0 (by omega) (by
      intro d hd
      simp only [List.mem_cons, List.mem_nil_iff, or_false] at hd
      rcases hd with rfl | rfl | rfl | rfl | rfl | rfl | rfl
      · exact u0
      · exact u1
      · exact u2
      · exact u3
      · exact u4
      · exact u5
      · exact u6)
    rcases H.st with ⟨-, -, sz, -⟩ | ⟨-, -, sz, -⟩ | ⟨-, sz, -⟩ | ⟨-, hx, hl⟩
    · exact absurd u6 sz
    · exact absurd u6 sz
    · exact absurd u6 sz
    · exact hQ x w' cur l H.chn.row hl H.chn.ext ((H.fz u7).trans hx)
/-- What holds whichever operations have come up. -/
structure ImmF (B : Nat) (w0 : World) (v : Value) (r : List UInt8) (bx : Nat) (nm : ByteArray) (pat : Value) (M : List UInt8 → Prop) (L : Array Bool) (x : Nat → Value) (w : World) (cur : Value) (l : List UInt8) : Prop where
  size : L.size = 8
  f0 : Up L 0 → x 39 = v
  f1 : Up L 1 → x 40 = pat
  f4 : Up L 4 → x 43 = .pointer (some ⟨bx, 3, none⟩)
  f5 : Up L 5 → x 44 = .string nm
  st : (¬ Up L 2 ∧ ¬ Up L 3 ∧ ¬ Up L 6 ∧ cur = v ∧ l = r) ∨ (Up L 2 ∧ ¬ Up L 3 ∧ ¬ Up L 6 ∧ x 41 = cur ∧ (M) l) ∨ (Up L 3 ∧ ¬ Up L 6 ∧ x 42 = cur ∧ (fun l => ∃ l0, M l0 ∧ l = l0 ++ [32, 36, 32]) l) ∨ (Up L 6 ∧ x 45 = cur ∧ (fun l => ∃ l0, M l0 ∧ l = l0 ++ [32, 36, 32] ++ nm.data.toList) l)
  fz : Up L 7 → x 4 = x 45
  chn : Chn B w0 v w cur l
set_option maxHeartbeats 1000000 in
theorem imm_region {ops : Array Oper} {id : Nat} {Q : Exit → Act → World → Prop} {a : Act} {w : World} {v : Value} {r : List UInt8} {B : Nat} {bx : Nat} {row : Obj} {nm : ByteArray} {pat : Value} {M : List UInt8 → Prop}
    (p0 : OpIs ops 0 (.move (.tmp 0)) 39 [])
    (p1 : OpIs ops 1 (.load 24 (.tmp 3)) 40 [])
    (p2 : OpIs ops 2 (.call { callee := .value (.func 28), args := #[.tmp 39, .tmp 40, .const (.string ⟨#[]⟩)], argTypes := #[39, 24, 9] }) 41 [0, 1])
    (p3 : OpIs ops 3 (.call { callee := .builtin .append, args := #[.tmp 41, .const (.string ⟨#[32, 36, 32]⟩)], argTypes := #[39, 9] }) 42 [2])
    (p4 : OpIs ops 4 (.fieldAddr 24 (.tmp 3) 3) 43 [])
    (p5 : OpIs ops 5 (.load 9 (.tmp 43)) 44 [4])
    (p6 : OpIs ops 6 (.call { callee := .builtin .append, args := #[.tmp 42, .tmp 44], argTypes := #[39, 9] }) 45 [3, 5])
    (p7 : OpIs ops 7 (.assign (.tmp 45)) 4 [0, 1, 2, 3, 4, 5, 6])
    (hn : ops.size = 8) (hsz : a.tmps.size = 65) (h0 : a.eval (.tmp 0) = v) (hv : Bytes w B v r) (hB : B ≤ w.heap.size)
    (hr : r.length + 140000 ≤ 100000000) (h3 : a.eval (.tmp 3) = .pointer (some ⟨bx, 0, none⟩)) (hbx : w.heap[bx]? = some row) (hfar : some bx ≠ v.ownBlock) (hnm : nm.size ≤ 16) (hfa : ∀ W, (Instr.fieldAt 24 (.pointer (some ⟨bx, 0, none⟩)) 3).run Tryd.prog W = .ok (.pointer (some ⟨bx, 3, none⟩)) W) (hld : ∀ W : World, W.heap[bx]? = some row → (Instr.loadAt 9 (.pointer (some ⟨bx, 3, none⟩))).run Tryd.prog W = .ok (.string nm) W) (hlp : ∀ W : World, W.heap[bx]? = some row → (Instr.loadAt 24 (.pointer (some ⟨bx, 0, none⟩))).run Tryd.prog W = .ok pat W) (hM : ∀ l, M l → l.length + 100 ≤ 100000000)
    (hC : ∀ w1, Bytes w1 B v r → Ext w w1 v v → Calls Tryd.prog 28 #[v, pat, .string ⟨#[]⟩] w1 fun e w2 => ∃ v2, e = .returned v2 ∧ ∃ r2, Bytes w2 B v2 r2 ∧ Ext w1 w2 v v2 ∧ M r2)
    (hQ : ∀ x w2 v2 l2, Bytes w2 B v2 l2 → (fun l => ∃ l0, M l0 ∧ l = l0 ++ [32, 36, 32] ++ nm.data.toList) l2 → Ext w w2 v v2 → x 4 = v2 → Q .normal (fl a [39, 40, 41, 42, 43, 44, 45, 4] x) w2) : (Code.region id ops true).wp Tryd.prog Q a w := by
  refine region_inv2 (I := fun L a' w' => ∃ x cur l, a' = fl a [39, 40, 41, 42, 43, 44, 45, 4] x ∧ ImmF B w v r bx nm pat M L x w' cur l) rfl ?_ ?_ ?_
  · have hd : Below w.heap.size w w.drew := (Below.refl _ _).drew
    exact ⟨fun d => a.eval (.tmp d), v, r, (fl_self _ a).symm, by rw [hn]; rfl, fun h => absurd h up_new, fun h => absurd h up_new, fun h => absurd h up_new, fun h => absurd h up_new, .inl ⟨up_new, up_new, up_new, rfl, rfl⟩, fun h => absurd h up_new, hv.later hd, Ext.below v hd⟩
  · rintro L a' w' i ⟨x, cur, l, rfl, H⟩ hsh hi
    have hs := H.size
    have hlt : i < 8 := by
      obtain ⟨-, o, ho, -⟩ := mem_ready.1 hi
      have := (Array.getElem?_eq_some_iff.1 ho).1
      omega
    have hiL : i < L.size := by rw [hs]; exact hlt
    have hS : (L.setIfInBounds i true).size = 8 := by simp [hs]
    have hbw : B ≤ w'.heap.size := Nat.le_trans hB H.chn.ext.grown.size
    rcases (show i = 0 ∨ i = 1 ∨ i = 2 ∨ i = 3 ∨ i = 4 ∨ i = 5 ∨ i = 6 ∨ i = 7 by omega) with rfl | rfl | rfl | rfl | rfl | rfl | rfl | rfl
    · obtain ⟨hu, hd⟩ := op_ready p0 hi
      refine op_at p0 fun o ho hdst => wp_mv ho ?_
      refine ⟨upd x 39 v, cur, l, by rw [hdst, (fl_eval_out [39, 40, 41, 42, 43, 44, 45, 4] a x (t := 0) (by decide)), h0, fl_put _ _ _ _ _ (by decide) (by decide)], hS, fun _ => upd_same _ _ _, fun h => ?_, fun h => ?_, fun h => ?_, ?_, fun h => ?_, H.chn⟩
      · rw [upd_other (by decide)]; exact H.f1 (((up_set hiL).1 h).resolve_left (by decide))
      · rw [upd_other (by decide)]; exact H.f4 (((up_set hiL).1 h).resolve_left (by decide))
      · rw [upd_other (by decide)]; exact H.f5 (((up_set hiL).1 h).resolve_left (by decide))
      · simpa only [up_set hiL, show ¬ (2 = 0) by decide, show ¬ (3 = 0) by decide, show ¬ (6 = 0) by decide, false_or, upd_other (x := x) (show 41 ≠ 39 by decide), upd_other (x := x) (show 42 ≠ 39 by decide), upd_other (x := x) (show 45 ≠ 39 by decide)] using H.st
      · rw [upd_other (by decide), upd_other (by decide)]; exact H.fz (((up_set hiL).1 h).resolve_left (by decide))
    · obtain ⟨hu, hd⟩ := op_ready p1 hi
      refine op_at p1 fun o ho hdst => wp_ld ho (by rw [(fl_eval_out [39, 40, 41, 42, 43, 44, 45, 4] a x (t := 3) (by decide))]; exact h3) (hlp w' (H.chn.ext.row hfar hbx)) ?_
      refine ⟨upd x 40 (pat), cur, l, by rw [hdst, fl_put _ _ _ _ _ (by decide) (by decide)], hS, fun h => ?_, fun _ => upd_same _ _ _, fun h => ?_, fun h => ?_, ?_, fun h => ?_, H.chn⟩
      · rw [upd_other (by decide)]; exact H.f0 (((up_set hiL).1 h).resolve_left (by decide))
      · rw [upd_other (by decide)]; exact H.f4 (((up_set hiL).1 h).resolve_left (by decide))
      · rw [upd_other (by decide)]; exact H.f5 (((up_set hiL).1 h).resolve_left (by decide))
      · simpa only [up_set hiL, show ¬ (2 = 1) by decide, show ¬ (3 = 1) by decide, show ¬ (6 = 1) by decide, false_or, upd_other (x := x) (show 41 ≠ 40 by decide), upd_other (x := x) (show 42 ≠ 40 by decide), upd_other (x := x) (show 45 ≠ 40 by decide)] using H.st
      · rw [upd_other (by decide), upd_other (by decide)]; exact H.fz (((up_set hiL).1 h).resolve_left (by decide))
    · obtain ⟨hu, hd⟩ := op_ready p2 hi
      rcases H.st with ⟨s2, s3, s6, rfl, rfl⟩ | ⟨s2, -⟩ | ⟨s3, -⟩ | ⟨s6, -⟩
      · refine op_at p2 fun o ho hdst => wp_go ho Tryd.func28 rfl rfl _ (by simp only [List.map_toArray, List.map_cons, List.map_nil]; rw [(fl_eval [39, 40, 41, 42, 43, 44, 45, 4] a x (d := 39) (by decide) (by decide) (by rw [hsz]; decide)), (fl_eval [39, 40, 41, 42, 43, 44, 45, 4] a x (d := 40) (by decide) (by decide) (by rw [hsz]; decide)), H.f0 (hd 0 (by decide)), H.f1 (hd 1 (by decide))]; rfl) ((hC w' H.chn.row H.chn.ext).mono ?_)
        rintro e w2 ⟨v2, rfl, r2, hb2, he2, hm2⟩
        refine ⟨v2, rfl, upd x 41 v2, v2, r2, by rw [hdst, fl_put _ _ _ _ _ (by decide) (by decide)], hS, fun h => ?_, fun h => ?_, fun h => ?_, fun h => ?_, .inr (.inl ⟨(up_set hiL).2 (.inl rfl), fun h => s3 (((up_set hiL).1 h).resolve_left (by decide)), fun h => s6 (((up_set hiL).1 h).resolve_left (by decide)), upd_same _ _ _, hm2⟩), fun h => ?_, H.chn.next hb2 he2⟩
        · rw [upd_other (by decide)]; exact H.f0 (((up_set hiL).1 h).resolve_left (by decide))
        · rw [upd_other (by decide)]; exact H.f1 (((up_set hiL).1 h).resolve_left (by decide))
        · rw [upd_other (by decide)]; exact H.f4 (((up_set hiL).1 h).resolve_left (by decide))
        · rw [upd_other (by decide)]; exact H.f5 (((up_set hiL).1 h).resolve_left (by decide))
        · rw [upd_other (by decide), upd_other (by decide)]; exact H.fz (((up_set hiL).1 h).resolve_left (by decide))
      · exact absurd s2 hu
      · exact absurd (shut_up p3 hsh s3 2 (by decide)) hu
      · exact absurd (shut_up p3 hsh (shut_up p6 hsh s6 3 (by decide)) 2 (by decide)) hu
    · obtain ⟨hu, hd⟩ := op_ready p3 hi
      rcases H.st with ⟨s2, -⟩ | ⟨s2, s3, s6, hx, hl⟩ | ⟨s3, -⟩ | ⟨s6, -⟩
      · exact absurd (hd 2 (by decide)) s2
      · refine op_at p3 fun o ho hdst => wp_text (.tmp 41) (.const (.string ⟨#[32, 36, 32]⟩)) ho (by rw [(fl_eval [39, 40, 41, 42, 43, 44, 45, 4] a x (d := 41) (by decide) (by decide) (by rw [hsz]; decide))]; exact hx) rfl H.chn.row hbw (by have := hM l hl; show l.length + 3 ≤ _; omega) ?_
        intro v' w2 hb2 he2
        refine ⟨upd x 42 v', v', _, by rw [hdst, fl_put _ _ _ _ _ (by decide) (by decide)], hS, fun h => ?_, fun h => ?_, fun h => ?_, fun h => ?_, .inr (.inr (.inl ⟨(up_set hiL).2 (.inl rfl), fun h => s6 (((up_set hiL).1 h).resolve_left (by decide)), upd_same _ _ _, ⟨l, hl, rfl⟩⟩)), fun h => ?_, H.chn.next hb2 he2⟩
        · rw [upd_other (by decide)]; exact H.f0 (((up_set hiL).1 h).resolve_left (by decide))
        · rw [upd_other (by decide)]; exact H.f1 (((up_set hiL).1 h).resolve_left (by decide))
        · rw [upd_other (by decide)]; exact H.f4 (((up_set hiL).1 h).resolve_left (by decide))
        · rw [upd_other (by decide)]; exact H.f5 (((up_set hiL).1 h).resolve_left (by decide))
        · rw [upd_other (by decide), upd_other (by decide)]; exact H.fz (((up_set hiL).1 h).resolve_left (by decide))
      · exact absurd s3 hu
      · exact absurd (shut_up p6 hsh s6 3 (by decide)) hu
    · obtain ⟨hu, hd⟩ := op_ready p4 hi
      refine op_at p4 fun o ho hdst => wp_fa ho (by rw [(fl_eval_out [39, 40, 41, 42, 43, 44, 45, 4] a x (t := 3) (by decide))]; exact h3) (hfa w') ?_
      refine ⟨upd x 43 (.pointer (some ⟨bx, 3, none⟩)), cur, l, by rw [hdst, fl_put _ _ _ _ _ (by decide) (by decide)], hS, fun h => ?_, fun h => ?_, fun _ => upd_same _ _ _, fun h => ?_, ?_, fun h => ?_, H.chn⟩
      · rw [upd_other (by decide)]; exact H.f0 (((up_set hiL).1 h).resolve_left (by decide))
      · rw [upd_other (by decide)]; exact H.f1 (((up_set hiL).1 h).resolve_left (by decide))
      · rw [upd_other (by decide)]; exact H.f5 (((up_set hiL).1 h).resolve_left (by decide))
      · simpa only [up_set hiL, show ¬ (2 = 4) by decide, show ¬ (3 = 4) by decide, show ¬ (6 = 4) by decide, false_or, upd_other (x := x) (show 41 ≠ 43 by decide), upd_other (x := x) (show 42 ≠ 43 by decide), upd_other (x := x) (show 45 ≠ 43 by decide)] using H.st
      · rw [upd_other (by decide), upd_other (by decide)]; exact H.fz (((up_set hiL).1 h).resolve_left (by decide))
    · obtain ⟨hu, hd⟩ := op_ready p5 hi
      refine op_at p5 fun o ho hdst => wp_ld ho (by rw [(fl_eval [39, 40, 41, 42, 43, 44, 45, 4] a x (d := 43) (by decide) (by decide) (by rw [hsz]; decide))]; exact H.f4 (hd 4 (by decide))) (hld w' (H.chn.ext.row hfar hbx)) ?_
      refine ⟨upd x 44 (.string nm), cur, l, by rw [hdst, fl_put _ _ _ _ _ (by decide) (by decide)], hS, fun h => ?_, fun h => ?_, fun h => ?_, fun _ => upd_same _ _ _, ?_, fun h => ?_, H.chn⟩
      · rw [upd_other (by decide)]; exact H.f0 (((up_set hiL).1 h).resolve_left (by decide))
      · rw [upd_other (by decide)]; exact H.f1 (((up_set hiL).1 h).resolve_left (by decide))
      · rw [upd_other (by decide)]; exact H.f4 (((up_set hiL).1 h).resolve_left (by decide))
      · simpa only [up_set hiL, show ¬ (2 = 5) by decide, show ¬ (3 = 5) by decide, show ¬ (6 = 5) by decide, false_or, upd_other (x := x) (show 41 ≠ 44 by decide), upd_other (x := x) (show 42 ≠ 44 by decide), upd_other (x := x) (show 45 ≠ 44 by decide)] using H.st
      · rw [upd_other (by decide), upd_other (by decide)]; exact H.fz (((up_set hiL).1 h).resolve_left (by decide))
    · obtain ⟨hu, hd⟩ := op_ready p6 hi
      rcases H.st with ⟨-, s3, -⟩ | ⟨-, s3, -⟩ | ⟨s3, s6, hx, hl⟩ | ⟨s6, -⟩
      · exact absurd (hd 3 (by decide)) s3
      · exact absurd (hd 3 (by decide)) s3
      · refine op_at p6 fun o ho hdst => wp_text (.tmp 42) (.tmp 44) ho (by rw [(fl_eval [39, 40, 41, 42, 43, 44, 45, 4] a x (d := 42) (by decide) (by decide) (by rw [hsz]; decide))]; exact hx) (by rw [(fl_eval [39, 40, 41, 42, 43, 44, 45, 4] a x (d := 44) (by decide) (by decide) (by rw [hsz]; decide))]; exact H.f5 (hd 5 (by decide))) H.chn.row hbw (by obtain ⟨l0, h0, e0⟩ := hl; have := hM l0 h0; rw [e0, List.length_append]; show l0.length + 3 + nm.size ≤ _; omega) ?_
        intro v' w2 hb2 he2
        refine ⟨upd x 45 v', v', _, by rw [hdst, fl_put _ _ _ _ _ (by decide) (by decide)], hS, fun h => ?_, fun h => ?_, fun h => ?_, fun h => ?_, .inr (.inr (.inr (⟨(up_set hiL).2 (.inl rfl), upd_same _ _ _, by obtain ⟨l0, h0, e0⟩ := hl; exact ⟨l0, h0, by rw [e0]⟩⟩))), fun h => absurd (shut_up p7 hsh (((up_set hiL).1 h).resolve_left (by decide)) 6 (by decide)) hu, H.chn.next hb2 he2⟩
        · rw [upd_other (by decide)]; exact H.f0 (((up_set hiL).1 h).resolve_left (by decide))
        · rw [upd_other (by decide)]; exact H.f1 (((up_set hiL).1 h).resolve_left (by decide))
        · rw [upd_other (by decide)]; exact H.f4 (((up_set hiL).1 h).resolve_left (by decide))
        · rw [upd_other (by decide)]; exact H.f5 (((up_set hiL).1 h).resolve_left (by decide))
      · exact absurd s6 hu
    · obtain ⟨hu, hd⟩ := op_ready p7 hi
      refine op_at p7 fun o ho hdst => wp_as ho ?_
      refine ⟨upd x 4 (x 45), cur, l, by rw [hdst, (fl_eval [39, 40, 41, 42, 43, 44, 45, 4] a x (d := 45) (by decide) (by decide) (by rw [hsz]; decide)), fl_put _ _ _ _ _ (by decide) (by decide)], hS, fun h => ?_, fun h => ?_, fun h => ?_, fun h => ?_, ?_, fun _ => by rw [upd_same, upd_other (by decide)], H.chn⟩
      · rw [upd_other (by decide)]; exact H.f0 (((up_set hiL).1 h).resolve_left (by decide))
      · rw [upd_other (by decide)]; exact H.f1 (((up_set hiL).1 h).resolve_left (by decide))
      · rw [upd_other (by decide)]; exact H.f4 (((up_set hiL).1 h).resolve_left (by decide))
      · rw [upd_other (by decide)]; exact H.f5 (((up_set hiL).1 h).resolve_left (by decide))
      · simpa only [up_set hiL, show ¬ (2 = 7) by decide, show ¬ (3 = 7) by decide, show ¬ (6 = 7) by decide, false_or, upd_other (x := x) (show 41 ≠ 4 by decide), upd_other (x := x) (show 42 ≠ 4 by decide), upd_other (x := x) (show 45 ≠ 4 by decide)] using H.st
  · rintro L a' w' ⟨x, cur, l, rfl, H⟩ hr0
    have hs := H.size
    have u0 := op_up p0 hr0 (by omega) (by simp)
    have u1 := op_up p1 hr0 (by omega) (by simp)
    have u2 := op_up p2 hr0 (by omega) (by
      intro d hd
      simp only [List.mem_cons, List.mem_nil_iff, or_false] at hd
      rcases hd with rfl | rfl
      · exact u0
      · exact u1)
    have u3 := op_up p3 hr0 (by omega) (by
      intro d hd
      simp only [List.mem_cons, List.mem_nil_iff, or_false] at hd
      rcases hd with rfl
      exact u2)
    have u4 := op_up p4 hr0 (by omega) (by simp)
    have u5 := op_up p5 hr0 (by omega) (by
      intro d hd
      simp only [List.mem_cons, List.mem_nil_iff, or_false] at hd
      rcases hd with rfl
      exact u4)
    have u6 := op_up p6 hr0 (by omega) (by
      intro d hd
      simp only [List.mem_cons, List.mem_nil_iff, or_false] at hd
      rcases hd with rfl | rfl
      · exact u3
      · exact u5)
    have u7 := op_up p7 hr0 (by omega) (by
      intro d hd
      simp only [List.mem_cons, List.mem_nil_iff, or_false] at hd
      rcases hd with rfl | rfl | rfl | rfl | rfl | rfl | rfl
      · exact u0
      · exact u1
      · exact u2
      · exact u3
      · exact u4
      · exact u5
      · exact u6)
    rcases H.st with ⟨-, -, sz, -⟩ | ⟨-, -, sz, -⟩ | ⟨-, sz, -⟩ | ⟨-, hx, hl⟩
    · exact absurd u6 sz
    · exact absurd u6 sz
    · exact absurd u6 sz
    · exact hQ x w' cur l H.chn.row hl H.chn.ext ((H.fz u7).trans hx)
end Go.Proofs.YtccnomomdfjpmaaDoor
