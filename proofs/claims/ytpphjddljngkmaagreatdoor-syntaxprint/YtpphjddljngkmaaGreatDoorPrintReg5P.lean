/- The statements of pats.appendPat that leave their order open. -/
import Derived.Test.YtpphjddljngkmaaGreatDoorPrintBrkAM
import Derived.Test.YtpphjddljngkmaaGreatDoorPrintReg4M
namespace Go.Proofs.YtpphjddljngkmaaGreatDoor
open Go.RowKit

/-- What holds whichever operations have come up. -/
structure CurF (B : Nat) (w0 : World) (v : Value) (r : List UInt8) (bx : Nat) (nm : ByteArray) (L : Array Bool) (x : Nat → Value) (w : World) (cur : Value) (l : List UInt8) : Prop where
  size : L.size = 7
  f0 : Up L 0 → x 48 = v
  f1 : Up L 1 → Sign w cur 64 (x 49)
  f3 : Up L 3 → x 51 = .pointer (some ⟨bx, 3, none⟩)
  f4 : Up L 4 → x 52 = .string nm
  st : (¬ Up L 2 ∧ ¬ Up L 5 ∧ cur = v ∧ l = r) ∨ (Up L 2 ∧ ¬ Up L 5 ∧ x 50 = cur ∧ (fun l => l = r ++ [64]) l) ∨ (Up L 5 ∧ x 53 = cur ∧ (fun l => l = r ++ [64] ++ nm.data.toList) l)
  fz : Up L 6 → x 4 = x 53
  chn : Chn B w0 v w cur l
set_option maxHeartbeats 1000000 in
theorem cur_region {ops : Array Oper} {id : Nat} {Q : Exit → Act → World → Prop} {a : Act} {w : World} {v : Value} {r : List UInt8} {B : Nat} {bx : Nat} {row : Obj} {nm : ByteArray}
    (p0 : OpIs ops 0 (.move (.tmp 0)) 48 [])
    (p1 : OpIs ops 1 (.buildSlice 50 1 #[(0, .const (.int .u8 64))]) 49 [])
    (p2 : OpIs ops 2 (.call { callee := .builtin .append, args := #[.tmp 48, .tmp 49], argTypes := #[50, 50] }) 50 [0, 1])
    (p3 : OpIs ops 3 (.fieldAddr 30 (.tmp 3) 3) 51 [])
    (p4 : OpIs ops 4 (.load 9 (.tmp 51)) 52 [3])
    (p5 : OpIs ops 5 (.call { callee := .builtin .append, args := #[.tmp 50, .tmp 52], argTypes := #[50, 9] }) 53 [2, 4])
    (p6 : OpIs ops 6 (.assign (.tmp 53)) 4 [0, 1, 2, 3, 4, 5])
    (hn : ops.size = 7) (hsz : a.tmps.size = 65) (h0 : a.eval (.tmp 0) = v) (hv : Bytes w B v r) (hB : B ≤ w.heap.size)
    (hr : r.length + 140000 ≤ 100000000) (h3 : a.eval (.tmp 3) = .pointer (some ⟨bx, 0, none⟩)) (hbx : w.heap[bx]? = some row) (hfar : some bx ≠ v.ownBlock) (hnm : nm.size ≤ 16) (hfa : ∀ W, (Instr.fieldAt 30 (.pointer (some ⟨bx, 0, none⟩)) 3).run Tryz.prog W = .ok (.pointer (some ⟨bx, 3, none⟩)) W) (hld : ∀ W : World, W.heap[bx]? = some row → (Instr.loadAt 9 (.pointer (some ⟨bx, 3, none⟩))).run Tryz.prog W = .ok (.string nm) W) 
    (hQ : ∀ x w2 v2 l2, Bytes w2 B v2 l2 → (fun l => l = r ++ [64] ++ nm.data.toList) l2 → Ext w w2 v v2 → x 4 = v2 → Q .normal (fl a [48, 49, 50, 51, 52, 53, 4] x) w2) : (Code.region id ops true).wp Tryz.prog Q a w := by
  refine region_inv2 (I := fun L a' w' => ∃ x cur l, a' = fl a [48, 49, 50, 51, 52, 53, 4] x ∧ CurF B w v r bx nm L x w' cur l) rfl ?_ ?_ ?_
  · have hd : Below w.heap.size w w.drew := (Below.refl _ _).drew
    exact ⟨fun d => a.eval (.tmp d), v, r, (fl_self _ a).symm, by rw [hn]; rfl, fun h => absurd h up_new, fun h => absurd h up_new, fun h => absurd h up_new, fun h => absurd h up_new, .inl ⟨up_new, up_new, rfl, rfl⟩, fun h => absurd h up_new, hv.later hd, Ext.below v hd⟩
  · rintro L a' w' i ⟨x, cur, l, rfl, H⟩ hsh hi
    have hs := H.size
    have hlt : i < 7 := by
      obtain ⟨-, o, ho, -⟩ := mem_ready.1 hi
      have := (Array.getElem?_eq_some_iff.1 ho).1
      omega
    have hiL : i < L.size := by rw [hs]; exact hlt
    have hS : (L.setIfInBounds i true).size = 7 := by simp [hs]
    have hbw : B ≤ w'.heap.size := Nat.le_trans hB H.chn.ext.grown.size
    rcases (show i = 0 ∨ i = 1 ∨ i = 2 ∨ i = 3 ∨ i = 4 ∨ i = 5 ∨ i = 6 by omega) with rfl | rfl | rfl | rfl | rfl | rfl | rfl
    · obtain ⟨hu, hd⟩ := op_ready p0 hi
      refine op_at p0 fun o ho hdst => wp_mv ho ?_
      refine ⟨upd x 48 v, cur, l, by rw [hdst, (fl_eval_out [48, 49, 50, 51, 52, 53, 4] a x (t := 0) (by decide)), h0, fl_put _ _ _ _ _ (by decide) (by decide)], hS, fun _ => upd_same _ _ _, us hiL H.f1, uk hiL H.f3, uk hiL H.f4, ?_, uz hiL H.fz, H.chn⟩
      · simpa only [up_set hiL, (nd : ¬ 2 = 0), (nd : ¬ 5 = 0), false_or, uo x 50 48, uo x 53 48] using H.st
    · obtain ⟨hu, hd⟩ := op_ready p1 hi
      refine op_at p1 fun o ho hdst => wp_row1 64 ho ?_
      have hb : Below w'.heap.size w' (w'.alloc (.cells #[.int .u8 (((64 : UInt8).toNat : Nat) : Int)] 5)) := ba _
      refine ⟨upd x 49 (.slice (some ⟨w'.heap.size, 0, none⟩) 1 1), cur, l, fp hdst, hS, uk hiL H.f0, fun _ => by rw [upd_same]; exact Sign.new H.chn.row 64, uk hiL H.f3, uk hiL H.f4, ?_, uz hiL H.fz, H.chn.below hb⟩
      · simpa only [up_set hiL, (nd : ¬ 2 = 1), (nd : ¬ 5 = 1), false_or, uo x 50 49, uo x 53 49] using H.st
    · obtain ⟨hu, hd⟩ := op_ready p2 hi
      rcases H.st with ⟨s2, s5, rfl, rfl⟩ | ⟨s2, -⟩ | ⟨s5, -⟩
      · obtain ⟨g, hg, hrow, hgf⟩ := H.f1 (hd 1 (by decide))
        refine op_at p2 fun o ho hdst => wp_byte (.tmp 48) (.tmp 49) ho (fe hsz (H.f0 (hd 0 (by decide)))) (fe hsz (hg)) H.chn.row hrow hbw (by omega) ?_
        intro v' w2 hb2 he2
        refine ⟨upd x 50 v', v', _, fp hdst, hS, uk hiL H.f0, fun h => (ut hiL H.f1 h).next he2, uk hiL H.f3, uk hiL H.f4, .inr (.inl ⟨(up_set hiL).2 (.inl rfl), fun h => s5 (upn hiL h), upd_same _ _ _, rfl⟩), uz hiL H.fz, H.chn.next hb2 he2⟩
      · exact absurd s2 hu
      · exact absurd (shut_up p5 hsh s5 2 (by decide)) hu
    · obtain ⟨hu, hd⟩ := op_ready p3 hi
      refine op_at p3 fun o ho hdst => wp_fa ho (by rw [(fl_eval_out [48, 49, 50, 51, 52, 53, 4] a x (t := 3) (by decide))]; exact h3) (hfa w') ?_
      refine ⟨upd x 51 (.pointer (some ⟨bx, 3, none⟩)), cur, l, fp hdst, hS, uk hiL H.f0, us hiL H.f1, fun _ => upd_same _ _ _, uk hiL H.f4, ?_, uz hiL H.fz, H.chn⟩
      · simpa only [up_set hiL, (nd : ¬ 2 = 3), (nd : ¬ 5 = 3), false_or, uo x 50 51, uo x 53 51] using H.st
    · obtain ⟨hu, hd⟩ := op_ready p4 hi
      refine op_at p4 fun o ho hdst => wp_ld ho (fe hsz (H.f3 (hd 3 (by decide)))) (hld w' (H.chn.ext.row hfar hbx)) ?_
      refine ⟨upd x 52 (.string nm), cur, l, fp hdst, hS, uk hiL H.f0, us hiL H.f1, uk hiL H.f3, fun _ => upd_same _ _ _, ?_, uz hiL H.fz, H.chn⟩
      · simpa only [up_set hiL, (nd : ¬ 2 = 4), (nd : ¬ 5 = 4), false_or, uo x 50 52, uo x 53 52] using H.st
    · obtain ⟨hu, hd⟩ := op_ready p5 hi
      rcases H.st with ⟨s2, -⟩ | ⟨s2, s5, hx, hl⟩ | ⟨s5, -⟩
      · exact absurd (hd 2 (by decide)) s2
      · refine op_at p5 fun o ho hdst => wp_text (.tmp 50) (.tmp 52) ho (fe hsz (hx)) (fe hsz (H.f4 (hd 4 (by decide)))) H.chn.row hbw (by rw [hl, List.length_append, List.length_singleton]; omega) ?_
        intro v' w2 hb2 he2
        refine ⟨upd x 53 v', v', _, fp hdst, hS, uk hiL H.f0, fun h => (ut hiL H.f1 h).next he2, uk hiL H.f3, uk hiL H.f4, .inr (.inr (⟨(up_set hiL).2 (.inl rfl), upd_same _ _ _, by rw [hl]⟩)), fun h => absurd (shut_up p6 hsh (upn hiL h) 5 (by decide)) hu, H.chn.next hb2 he2⟩
      · exact absurd s5 hu
    · obtain ⟨hu, hd⟩ := op_ready p6 hi
      refine op_at p6 fun o ho hdst => wp_as ho ?_
      refine ⟨upd x 4 (x 53), cur, l, by rw [hdst, (fl_eval [48, 49, 50, 51, 52, 53, 4] a x (d := 53) (by decide) (by decide) (by rw [hsz]; decide)), fl_put _ _ _ _ _ (by decide) (by decide)], hS, uk hiL H.f0, us hiL H.f1, uk hiL H.f3, uk hiL H.f4, ?_, fun _ => by rw [upd_same, upd_other (by decide)], H.chn⟩
      · simpa only [up_set hiL, (nd : ¬ 2 = 6), (nd : ¬ 5 = 6), false_or, uo x 50 4, uo x 53 4] using H.st
  · rintro L a' w' ⟨x, cur, l, rfl, H⟩ hr0
    have hs := H.size
    have u0 := op_up p0 hr0 (by omega) (by simp)
    have u1 := op_up p1 hr0 (by omega) (by simp)
    have u2 := op_up p2 hr0 (by omega) (mc u0 (mc u1 mn))
    have u3 := op_up p3 hr0 (by omega) (by simp)
    have u4 := op_up p4 hr0 (by omega) (mc u3 mn)
    have u5 := op_up p5 hr0 (by omega) (mc u2 (mc u4 mn))
    have u6 := op_up p6 hr0 (by omega) (mc u0 (mc u1 (mc u2 (mc u3 (mc u4 (mc u5 mn))))))
    rcases H.st with ⟨-, sz, -⟩ | ⟨-, sz, -⟩ | ⟨-, hx, hl⟩
    · exact absurd u5 sz
    · exact absurd u5 sz
    · exact hQ x w' cur l H.chn.row hl H.chn.ext ((H.fz u6).trans hx)
/-- What holds whichever operations have come up. -/
structure CalF (B : Nat) (w0 : World) (v : Value) (r : List UInt8) (bx : Nat) (nm : ByteArray) (L : Array Bool) (x : Nat → Value) (w : World) (cur : Value) (l : List UInt8) : Prop where
  size : L.size = 7
  f0 : Up L 0 → x 56 = v
  f1 : Up L 1 → Sign w cur 42 (x 57)
  f3 : Up L 3 → x 59 = .pointer (some ⟨bx, 3, none⟩)
  f4 : Up L 4 → x 60 = .string nm
  st : (¬ Up L 2 ∧ ¬ Up L 5 ∧ cur = v ∧ l = r) ∨ (Up L 2 ∧ ¬ Up L 5 ∧ x 58 = cur ∧ (fun l => l = r ++ [42]) l) ∨ (Up L 5 ∧ x 61 = cur ∧ (fun l => l = r ++ [42] ++ nm.data.toList) l)
  fz : Up L 6 → x 4 = x 61
  chn : Chn B w0 v w cur l
set_option maxHeartbeats 1000000 in
theorem cal_region {ops : Array Oper} {id : Nat} {Q : Exit → Act → World → Prop} {a : Act} {w : World} {v : Value} {r : List UInt8} {B : Nat} {bx : Nat} {row : Obj} {nm : ByteArray}
    (p0 : OpIs ops 0 (.move (.tmp 0)) 56 [])
    (p1 : OpIs ops 1 (.buildSlice 50 1 #[(0, .const (.int .u8 42))]) 57 [])
    (p2 : OpIs ops 2 (.call { callee := .builtin .append, args := #[.tmp 56, .tmp 57], argTypes := #[50, 50] }) 58 [0, 1])
    (p3 : OpIs ops 3 (.fieldAddr 30 (.tmp 3) 3) 59 [])
    (p4 : OpIs ops 4 (.load 9 (.tmp 59)) 60 [3])
    (p5 : OpIs ops 5 (.call { callee := .builtin .append, args := #[.tmp 58, .tmp 60], argTypes := #[50, 9] }) 61 [2, 4])
    (p6 : OpIs ops 6 (.assign (.tmp 61)) 4 [0, 1, 2, 3, 4, 5])
    (hn : ops.size = 7) (hsz : a.tmps.size = 65) (h0 : a.eval (.tmp 0) = v) (hv : Bytes w B v r) (hB : B ≤ w.heap.size)
    (hr : r.length + 140000 ≤ 100000000) (h3 : a.eval (.tmp 3) = .pointer (some ⟨bx, 0, none⟩)) (hbx : w.heap[bx]? = some row) (hfar : some bx ≠ v.ownBlock) (hnm : nm.size ≤ 16) (hfa : ∀ W, (Instr.fieldAt 30 (.pointer (some ⟨bx, 0, none⟩)) 3).run Tryz.prog W = .ok (.pointer (some ⟨bx, 3, none⟩)) W) (hld : ∀ W : World, W.heap[bx]? = some row → (Instr.loadAt 9 (.pointer (some ⟨bx, 3, none⟩))).run Tryz.prog W = .ok (.string nm) W) 
    (hQ : ∀ x w2 v2 l2, Bytes w2 B v2 l2 → (fun l => l = r ++ [42] ++ nm.data.toList) l2 → Ext w w2 v v2 → x 4 = v2 → Q .normal (fl a [56, 57, 58, 59, 60, 61, 4] x) w2) : (Code.region id ops true).wp Tryz.prog Q a w := by
  refine region_inv2 (I := fun L a' w' => ∃ x cur l, a' = fl a [56, 57, 58, 59, 60, 61, 4] x ∧ CalF B w v r bx nm L x w' cur l) rfl ?_ ?_ ?_
  · have hd : Below w.heap.size w w.drew := (Below.refl _ _).drew
    exact ⟨fun d => a.eval (.tmp d), v, r, (fl_self _ a).symm, by rw [hn]; rfl, fun h => absurd h up_new, fun h => absurd h up_new, fun h => absurd h up_new, fun h => absurd h up_new, .inl ⟨up_new, up_new, rfl, rfl⟩, fun h => absurd h up_new, hv.later hd, Ext.below v hd⟩
  · rintro L a' w' i ⟨x, cur, l, rfl, H⟩ hsh hi
    have hs := H.size
    have hlt : i < 7 := by
      obtain ⟨-, o, ho, -⟩ := mem_ready.1 hi
      have := (Array.getElem?_eq_some_iff.1 ho).1
      omega
    have hiL : i < L.size := by rw [hs]; exact hlt
    have hS : (L.setIfInBounds i true).size = 7 := by simp [hs]
    have hbw : B ≤ w'.heap.size := Nat.le_trans hB H.chn.ext.grown.size
    rcases (show i = 0 ∨ i = 1 ∨ i = 2 ∨ i = 3 ∨ i = 4 ∨ i = 5 ∨ i = 6 by omega) with rfl | rfl | rfl | rfl | rfl | rfl | rfl
    · obtain ⟨hu, hd⟩ := op_ready p0 hi
      refine op_at p0 fun o ho hdst => wp_mv ho ?_
      refine ⟨upd x 56 v, cur, l, by rw [hdst, (fl_eval_out [56, 57, 58, 59, 60, 61, 4] a x (t := 0) (by decide)), h0, fl_put _ _ _ _ _ (by decide) (by decide)], hS, fun _ => upd_same _ _ _, us hiL H.f1, uk hiL H.f3, uk hiL H.f4, ?_, uz hiL H.fz, H.chn⟩
      · simpa only [up_set hiL, (nd : ¬ 2 = 0), (nd : ¬ 5 = 0), false_or, uo x 58 56, uo x 61 56] using H.st
    · obtain ⟨hu, hd⟩ := op_ready p1 hi
      refine op_at p1 fun o ho hdst => wp_row1 42 ho ?_
      have hb : Below w'.heap.size w' (w'.alloc (.cells #[.int .u8 (((42 : UInt8).toNat : Nat) : Int)] 5)) := ba _
      refine ⟨upd x 57 (.slice (some ⟨w'.heap.size, 0, none⟩) 1 1), cur, l, fp hdst, hS, uk hiL H.f0, fun _ => by rw [upd_same]; exact Sign.new H.chn.row 42, uk hiL H.f3, uk hiL H.f4, ?_, uz hiL H.fz, H.chn.below hb⟩
      · simpa only [up_set hiL, (nd : ¬ 2 = 1), (nd : ¬ 5 = 1), false_or, uo x 58 57, uo x 61 57] using H.st
    · obtain ⟨hu, hd⟩ := op_ready p2 hi
      rcases H.st with ⟨s2, s5, rfl, rfl⟩ | ⟨s2, -⟩ | ⟨s5, -⟩
      · obtain ⟨g, hg, hrow, hgf⟩ := H.f1 (hd 1 (by decide))
        refine op_at p2 fun o ho hdst => wp_byte (.tmp 56) (.tmp 57) ho (fe hsz (H.f0 (hd 0 (by decide)))) (fe hsz (hg)) H.chn.row hrow hbw (by omega) ?_
        intro v' w2 hb2 he2
        refine ⟨upd x 58 v', v', _, fp hdst, hS, uk hiL H.f0, fun h => (ut hiL H.f1 h).next he2, uk hiL H.f3, uk hiL H.f4, .inr (.inl ⟨(up_set hiL).2 (.inl rfl), fun h => s5 (upn hiL h), upd_same _ _ _, rfl⟩), uz hiL H.fz, H.chn.next hb2 he2⟩
      · exact absurd s2 hu
      · exact absurd (shut_up p5 hsh s5 2 (by decide)) hu
    · obtain ⟨hu, hd⟩ := op_ready p3 hi
      refine op_at p3 fun o ho hdst => wp_fa ho (by rw [(fl_eval_out [56, 57, 58, 59, 60, 61, 4] a x (t := 3) (by decide))]; exact h3) (hfa w') ?_
      refine ⟨upd x 59 (.pointer (some ⟨bx, 3, none⟩)), cur, l, fp hdst, hS, uk hiL H.f0, us hiL H.f1, fun _ => upd_same _ _ _, uk hiL H.f4, ?_, uz hiL H.fz, H.chn⟩
      · simpa only [up_set hiL, (nd : ¬ 2 = 3), (nd : ¬ 5 = 3), false_or, uo x 58 59, uo x 61 59] using H.st
    · obtain ⟨hu, hd⟩ := op_ready p4 hi
      refine op_at p4 fun o ho hdst => wp_ld ho (fe hsz (H.f3 (hd 3 (by decide)))) (hld w' (H.chn.ext.row hfar hbx)) ?_
      refine ⟨upd x 60 (.string nm), cur, l, fp hdst, hS, uk hiL H.f0, us hiL H.f1, uk hiL H.f3, fun _ => upd_same _ _ _, ?_, uz hiL H.fz, H.chn⟩
      · simpa only [up_set hiL, (nd : ¬ 2 = 4), (nd : ¬ 5 = 4), false_or, uo x 58 60, uo x 61 60] using H.st
    · obtain ⟨hu, hd⟩ := op_ready p5 hi
      rcases H.st with ⟨s2, -⟩ | ⟨s2, s5, hx, hl⟩ | ⟨s5, -⟩
      · exact absurd (hd 2 (by decide)) s2
      · refine op_at p5 fun o ho hdst => wp_text (.tmp 58) (.tmp 60) ho (fe hsz (hx)) (fe hsz (H.f4 (hd 4 (by decide)))) H.chn.row hbw (by rw [hl, List.length_append, List.length_singleton]; omega) ?_
        intro v' w2 hb2 he2
        refine ⟨upd x 61 v', v', _, fp hdst, hS, uk hiL H.f0, fun h => (ut hiL H.f1 h).next he2, uk hiL H.f3, uk hiL H.f4, .inr (.inr (⟨(up_set hiL).2 (.inl rfl), upd_same _ _ _, by rw [hl]⟩)), fun h => absurd (shut_up p6 hsh (upn hiL h) 5 (by decide)) hu, H.chn.next hb2 he2⟩
      · exact absurd s5 hu
    · obtain ⟨hu, hd⟩ := op_ready p6 hi
      refine op_at p6 fun o ho hdst => wp_as ho ?_
      refine ⟨upd x 4 (x 61), cur, l, by rw [hdst, (fl_eval [56, 57, 58, 59, 60, 61, 4] a x (d := 61) (by decide) (by decide) (by rw [hsz]; decide)), fl_put _ _ _ _ _ (by decide) (by decide)], hS, uk hiL H.f0, us hiL H.f1, uk hiL H.f3, uk hiL H.f4, ?_, fun _ => by rw [upd_same, upd_other (by decide)], H.chn⟩
      · simpa only [up_set hiL, (nd : ¬ 2 = 6), (nd : ¬ 5 = 6), false_or, uo x 58 4, uo x 61 4] using H.st
  · rintro L a' w' ⟨x, cur, l, rfl, H⟩ hr0
    have hs := H.size
    have u0 := op_up p0 hr0 (by omega) (by simp)
    have u1 := op_up p1 hr0 (by omega) (by simp)
    have u2 := op_up p2 hr0 (by omega) (mc u0 (mc u1 mn))
    have u3 := op_up p3 hr0 (by omega) (by simp)
    have u4 := op_up p4 hr0 (by omega) (mc u3 mn)
    have u5 := op_up p5 hr0 (by omega) (mc u2 (mc u4 mn))
    have u6 := op_up p6 hr0 (by omega) (mc u0 (mc u1 (mc u2 (mc u3 (mc u4 (mc u5 mn))))))
    rcases H.st with ⟨-, sz, -⟩ | ⟨-, sz, -⟩ | ⟨-, hx, hl⟩
    · exact absurd u5 sz
    · exact absurd u5 sz
    · exact hQ x w' cur l H.chn.row hl H.chn.ext ((H.fz u6).trans hx)
/-- What holds whichever operations have come up. -/
structure CndF (B : Nat) (w0 : World) (v : Value) (r : List UInt8) (bx : Nat) (nm : ByteArray) (pat : Value) (M : List UInt8 → Prop) (L : Array Bool) (x : Nat → Value) (w : World) (cur : Value) (l : List UInt8) : Prop where
  size : L.size = 8
  f0 : Up L 0 → x 30 = v
  f1 : Up L 1 → x 31 = pat
  f4 : Up L 4 → x 34 = .pointer (some ⟨bx, 3, none⟩)
  f5 : Up L 5 → x 35 = .string nm
  st : (¬ Up L 2 ∧ ¬ Up L 3 ∧ ¬ Up L 6 ∧ cur = v ∧ l = r) ∨ (Up L 2 ∧ ¬ Up L 3 ∧ ¬ Up L 6 ∧ x 32 = cur ∧ (M) l) ∨ (Up L 3 ∧ ¬ Up L 6 ∧ x 33 = cur ∧ (fun l => ∃ l0, M l0 ∧ l = l0 ++ [32, 46, 32]) l) ∨ (Up L 6 ∧ x 36 = cur ∧ (fun l => ∃ l0, M l0 ∧ l = l0 ++ [32, 46, 32] ++ nm.data.toList) l)
  fz : Up L 7 → x 4 = x 36
  chn : Chn B w0 v w cur l
set_option maxHeartbeats 1000000 in
theorem cnd_region {ops : Array Oper} {id : Nat} {Q : Exit → Act → World → Prop} {a : Act} {w : World} {v : Value} {r : List UInt8} {B : Nat} {bx : Nat} {row : Obj} {nm : ByteArray} {pat : Value} {M : List UInt8 → Prop}
    (p0 : OpIs ops 0 (.move (.tmp 0)) 30 [])
    (p1 : OpIs ops 1 (.load 30 (.tmp 3)) 31 [])
    (p2 : OpIs ops 2 (.call { callee := .value (.func 56), args := #[.tmp 30, .tmp 31, .const (.string ⟨#[]⟩)], argTypes := #[50, 30, 9] }) 32 [0, 1])
    (p3 : OpIs ops 3 (.call { callee := .builtin .append, args := #[.tmp 32, .const (.string ⟨#[32, 46, 32]⟩)], argTypes := #[50, 9] }) 33 [2])
    (p4 : OpIs ops 4 (.fieldAddr 30 (.tmp 3) 3) 34 [])
    (p5 : OpIs ops 5 (.load 9 (.tmp 34)) 35 [4])
    (p6 : OpIs ops 6 (.call { callee := .builtin .append, args := #[.tmp 33, .tmp 35], argTypes := #[50, 9] }) 36 [3, 5])
    (p7 : OpIs ops 7 (.assign (.tmp 36)) 4 [0, 1, 2, 3, 4, 5, 6])
    (hn : ops.size = 8) (hsz : a.tmps.size = 65) (h0 : a.eval (.tmp 0) = v) (hv : Bytes w B v r) (hB : B ≤ w.heap.size)
    (hr : r.length + 140000 ≤ 100000000) (h3 : a.eval (.tmp 3) = .pointer (some ⟨bx, 0, none⟩)) (hbx : w.heap[bx]? = some row) (hfar : some bx ≠ v.ownBlock) (hnm : nm.size ≤ 16) (hfa : ∀ W, (Instr.fieldAt 30 (.pointer (some ⟨bx, 0, none⟩)) 3).run Tryz.prog W = .ok (.pointer (some ⟨bx, 3, none⟩)) W) (hld : ∀ W : World, W.heap[bx]? = some row → (Instr.loadAt 9 (.pointer (some ⟨bx, 3, none⟩))).run Tryz.prog W = .ok (.string nm) W) (hlp : ∀ W : World, W.heap[bx]? = some row → (Instr.loadAt 30 (.pointer (some ⟨bx, 0, none⟩))).run Tryz.prog W = .ok pat W) (hM : ∀ l, M l → l.length + 100 ≤ 100000000)
    (hC : ∀ w1, Bytes w1 B v r → Ext w w1 v v → Calls Tryz.prog 56 #[v, pat, .string ⟨#[]⟩] w1 fun e w2 => ∃ v2, e = .returned v2 ∧ ∃ r2, Bytes w2 B v2 r2 ∧ Ext w1 w2 v v2 ∧ M r2)
    (hQ : ∀ x w2 v2 l2, Bytes w2 B v2 l2 → (fun l => ∃ l0, M l0 ∧ l = l0 ++ [32, 46, 32] ++ nm.data.toList) l2 → Ext w w2 v v2 → x 4 = v2 → Q .normal (fl a [30, 31, 32, 33, 34, 35, 36, 4] x) w2) : (Code.region id ops true).wp Tryz.prog Q a w := by
  refine region_inv2 (I := fun L a' w' => ∃ x cur l, a' = fl a [30, 31, 32, 33, 34, 35, 36, 4] x ∧ CndF B w v r bx nm pat M L x w' cur l) rfl ?_ ?_ ?_
  · have hd : Below w.heap.size w w.drew := (Below.refl _ _).drew
    exact ⟨fun d => a.eval (.tmp d), v, r, (fl_self _ a).symm, by rw [hn]; rfl, fun h => absurd h up_new, fun h => absurd h up_new, fun h => absurd h up_new, fun h => absurd h up_new, .inl ⟨up_new, up_new, up_new, rfl, rfl⟩, fun h => absurd h up_new, hv.later hd, Ext.below v hd⟩
  · rintro L a' w' i ⟨x, cur, l, rfl, H⟩ hsh hi
    have hs := H.size
    have hlt : i < 8 := by
      obtain ⟨-, o, ho, -⟩ := mem_ready.1 hi
      have := (Array.getElem?_eq_some_iff.1 ho).1
      omega
    have hiL : i < L.size := by rw [hs]; exact hlt
    have hS : (L.setIfInBounds i true).size = 8 := by simp [hs]
    have hbw : B ≤ w'.heap.size := Nat.le_trans hB H.chn.ext.grown.size
    rcases (show i = 0 ∨ i = 1 ∨ i = 2 ∨ i = 3 ∨ i = 4 ∨ i = 5 ∨ i = 6 ∨ i = 7 by omega) with rfl | rfl | rfl | rfl | rfl | rfl | rfl | rfl
    · obtain ⟨hu, hd⟩ := op_ready p0 hi
      refine op_at p0 fun o ho hdst => wp_mv ho ?_
      refine ⟨upd x 30 v, cur, l, by rw [hdst, (fl_eval_out [30, 31, 32, 33, 34, 35, 36, 4] a x (t := 0) (by decide)), h0, fl_put _ _ _ _ _ (by decide) (by decide)], hS, fun _ => upd_same _ _ _, uk hiL H.f1, uk hiL H.f4, uk hiL H.f5, ?_, uz hiL H.fz, H.chn⟩
      · simpa only [up_set hiL, (nd : ¬ 2 = 0), (nd : ¬ 3 = 0), (nd : ¬ 6 = 0), false_or, uo x 32 30, uo x 33 30, uo x 36 30] using H.st
    · obtain ⟨hu, hd⟩ := op_ready p1 hi
      refine op_at p1 fun o ho hdst => wp_ld ho (by rw [(fl_eval_out [30, 31, 32, 33, 34, 35, 36, 4] a x (t := 3) (by decide))]; exact h3) (hlp w' (H.chn.ext.row hfar hbx)) ?_
      refine ⟨upd x 31 (pat), cur, l, fp hdst, hS, uk hiL H.f0, fun _ => upd_same _ _ _, uk hiL H.f4, uk hiL H.f5, ?_, uz hiL H.fz, H.chn⟩
      · simpa only [up_set hiL, (nd : ¬ 2 = 1), (nd : ¬ 3 = 1), (nd : ¬ 6 = 1), false_or, uo x 32 31, uo x 33 31, uo x 36 31] using H.st
    · obtain ⟨hu, hd⟩ := op_ready p2 hi
      rcases H.st with ⟨s2, s3, s6, rfl, rfl⟩ | ⟨s2, -⟩ | ⟨s3, -⟩ | ⟨s6, -⟩
      · refine op_at p2 fun o ho hdst => wp_go ho Tryz.func56 rfl rfl _ (by simp only [List.map_toArray, List.map_cons, List.map_nil]; rw [(fl_eval [30, 31, 32, 33, 34, 35, 36, 4] a x (d := 30) (by decide) (by decide) (by rw [hsz]; decide)), (fl_eval [30, 31, 32, 33, 34, 35, 36, 4] a x (d := 31) (by decide) (by decide) (by rw [hsz]; decide)), H.f0 (hd 0 (by decide)), H.f1 (hd 1 (by decide))]; rfl) ((hC w' H.chn.row H.chn.ext).mono ?_)
        rintro e w2 ⟨v2, rfl, r2, hb2, he2, hm2⟩
        refine ⟨v2, rfl, upd x 32 v2, v2, r2, fp hdst, hS, uk hiL H.f0, uk hiL H.f1, uk hiL H.f4, uk hiL H.f5, .inr (.inl ⟨(up_set hiL).2 (.inl rfl), fun h => s3 (upn hiL h), fun h => s6 (upn hiL h), upd_same _ _ _, hm2⟩), uz hiL H.fz, H.chn.next hb2 he2⟩
      · exact absurd s2 hu
      · exact absurd (shut_up p3 hsh s3 2 (by decide)) hu
      · exact absurd (shut_up p3 hsh (shut_up p6 hsh s6 3 (by decide)) 2 (by decide)) hu
    · obtain ⟨hu, hd⟩ := op_ready p3 hi
      rcases H.st with ⟨s2, -⟩ | ⟨s2, s3, s6, hx, hl⟩ | ⟨s3, -⟩ | ⟨s6, -⟩
      · exact absurd (hd 2 (by decide)) s2
      · refine op_at p3 fun o ho hdst => wp_text (.tmp 32) (.const (.string ⟨#[32, 46, 32]⟩)) ho (fe hsz (hx)) rfl H.chn.row hbw (by have := hM l hl; show l.length + 3 ≤ _; omega) ?_
        intro v' w2 hb2 he2
        refine ⟨upd x 33 v', v', _, fp hdst, hS, uk hiL H.f0, uk hiL H.f1, uk hiL H.f4, uk hiL H.f5, .inr (.inr (.inl ⟨(up_set hiL).2 (.inl rfl), fun h => s6 (upn hiL h), upd_same _ _ _, ⟨l, hl, rfl⟩⟩)), uz hiL H.fz, H.chn.next hb2 he2⟩
      · exact absurd s3 hu
      · exact absurd (shut_up p6 hsh s6 3 (by decide)) hu
    · obtain ⟨hu, hd⟩ := op_ready p4 hi
      refine op_at p4 fun o ho hdst => wp_fa ho (by rw [(fl_eval_out [30, 31, 32, 33, 34, 35, 36, 4] a x (t := 3) (by decide))]; exact h3) (hfa w') ?_
      refine ⟨upd x 34 (.pointer (some ⟨bx, 3, none⟩)), cur, l, fp hdst, hS, uk hiL H.f0, uk hiL H.f1, fun _ => upd_same _ _ _, uk hiL H.f5, ?_, uz hiL H.fz, H.chn⟩
      · simpa only [up_set hiL, (nd : ¬ 2 = 4), (nd : ¬ 3 = 4), (nd : ¬ 6 = 4), false_or, uo x 32 34, uo x 33 34, uo x 36 34] using H.st
    · obtain ⟨hu, hd⟩ := op_ready p5 hi
      refine op_at p5 fun o ho hdst => wp_ld ho (fe hsz (H.f4 (hd 4 (by decide)))) (hld w' (H.chn.ext.row hfar hbx)) ?_
      refine ⟨upd x 35 (.string nm), cur, l, fp hdst, hS, uk hiL H.f0, uk hiL H.f1, uk hiL H.f4, fun _ => upd_same _ _ _, ?_, uz hiL H.fz, H.chn⟩
      · simpa only [up_set hiL, (nd : ¬ 2 = 5), (nd : ¬ 3 = 5), (nd : ¬ 6 = 5), false_or, uo x 32 35, uo x 33 35, uo x 36 35] using H.st
    · obtain ⟨hu, hd⟩ := op_ready p6 hi
      rcases H.st with ⟨-, s3, -⟩ | ⟨-, s3, -⟩ | ⟨s3, s6, hx, hl⟩ | ⟨s6, -⟩
      · exact absurd (hd 3 (by decide)) s3
      · exact absurd (hd 3 (by decide)) s3
      · refine op_at p6 fun o ho hdst => wp_text (.tmp 33) (.tmp 35) ho (fe hsz (hx)) (fe hsz (H.f5 (hd 5 (by decide)))) H.chn.row hbw (by obtain ⟨l0, h0, e0⟩ := hl; have := hM l0 h0; rw [e0, List.length_append]; show l0.length + 3 + nm.size ≤ _; omega) ?_
        intro v' w2 hb2 he2
        refine ⟨upd x 36 v', v', _, fp hdst, hS, uk hiL H.f0, uk hiL H.f1, uk hiL H.f4, uk hiL H.f5, .inr (.inr (.inr (⟨(up_set hiL).2 (.inl rfl), upd_same _ _ _, by obtain ⟨l0, h0, e0⟩ := hl; exact ⟨l0, h0, by rw [e0]⟩⟩))), fun h => absurd (shut_up p7 hsh (upn hiL h) 6 (by decide)) hu, H.chn.next hb2 he2⟩
      · exact absurd s6 hu
    · obtain ⟨hu, hd⟩ := op_ready p7 hi
      refine op_at p7 fun o ho hdst => wp_as ho ?_
      refine ⟨upd x 4 (x 36), cur, l, by rw [hdst, (fl_eval [30, 31, 32, 33, 34, 35, 36, 4] a x (d := 36) (by decide) (by decide) (by rw [hsz]; decide)), fl_put _ _ _ _ _ (by decide) (by decide)], hS, uk hiL H.f0, uk hiL H.f1, uk hiL H.f4, uk hiL H.f5, ?_, fun _ => by rw [upd_same, upd_other (by decide)], H.chn⟩
      · simpa only [up_set hiL, (nd : ¬ 2 = 7), (nd : ¬ 3 = 7), (nd : ¬ 6 = 7), false_or, uo x 32 4, uo x 33 4, uo x 36 4] using H.st
  · rintro L a' w' ⟨x, cur, l, rfl, H⟩ hr0
    have hs := H.size
    have u0 := op_up p0 hr0 (by omega) (by simp)
    have u1 := op_up p1 hr0 (by omega) (by simp)
    have u2 := op_up p2 hr0 (by omega) (mc u0 (mc u1 mn))
    have u3 := op_up p3 hr0 (by omega) (mc u2 mn)
    have u4 := op_up p4 hr0 (by omega) (by simp)
    have u5 := op_up p5 hr0 (by omega) (mc u4 mn)
    have u6 := op_up p6 hr0 (by omega) (mc u3 (mc u5 mn))
    have u7 := op_up p7 hr0 (by omega) (mc u0 (mc u1 (mc u2 (mc u3 (mc u4 (mc u5 (mc u6 mn)))))))
    rcases H.st with ⟨-, -, sz, -⟩ | ⟨-, -, sz, -⟩ | ⟨-, sz, -⟩ | ⟨-, hx, hl⟩
    · exact absurd u6 sz
    · exact absurd u6 sz
    · exact absurd u6 sz
    · exact hQ x w' cur l H.chn.row hl H.chn.ext ((H.fz u7).trans hx)
/-- What holds whichever operations have come up. -/
structure ImmF (B : Nat) (w0 : World) (v : Value) (r : List UInt8) (bx : Nat) (nm : ByteArray) (pat : Value) (M : List UInt8 → Prop) (L : Array Bool) (x : Nat → Value) (w : World) (cur : Value) (l : List UInt8) : Prop where
  size : L.size = 8
  f0 : Up L 0 → x 39 = v
  f1 : Up L 1 → x 40 = pat
  f4 : Up L 4 → x 43 = .pointer (some ⟨bx, 3, none⟩)
  f5 : Up L 5 → x 44 = .string nm
  st : (¬ Up L 2 ∧ ¬ Up L 3 ∧ ¬ Up L 6 ∧ cur = v ∧ l = r) ∨ (Up L 2 ∧ ¬ Up L 3 ∧ ¬ Up L 6 ∧ x 41 = cur ∧ (M) l) ∨ (Up L 3 ∧ ¬ Up L 6 ∧ x 42 = cur ∧ (fun l => ∃ l0, M l0 ∧ l = l0 ++ [32, 36, 32]) l) ∨ (Up L 6 ∧ x 45 = cur ∧ (fun l => ∃ l0, M l0 ∧ l = l0 ++ [32, 36, 32] ++ nm.data.toList) l)
  fz : Up L 7 → x 4 = x 45
  chn : Chn B w0 v w cur l
set_option maxHeartbeats 1000000 in
theorem imm_region {ops : Array Oper} {id : Nat} {Q : Exit → Act → World → Prop} {a : Act} {w : World} {v : Value} {r : List UInt8} {B : Nat} {bx : Nat} {row : Obj} {nm : ByteArray} {pat : Value} {M : List UInt8 → Prop}
    (p0 : OpIs ops 0 (.move (.tmp 0)) 39 [])
    (p1 : OpIs ops 1 (.load 30 (.tmp 3)) 40 [])
    (p2 : OpIs ops 2 (.call { callee := .value (.func 56), args := #[.tmp 39, .tmp 40, .const (.string ⟨#[]⟩)], argTypes := #[50, 30, 9] }) 41 [0, 1])
    (p3 : OpIs ops 3 (.call { callee := .builtin .append, args := #[.tmp 41, .const (.string ⟨#[32, 36, 32]⟩)], argTypes := #[50, 9] }) 42 [2])
    (p4 : OpIs ops 4 (.fieldAddr 30 (.tmp 3) 3) 43 [])
    (p5 : OpIs ops 5 (.load 9 (.tmp 43)) 44 [4])
    (p6 : OpIs ops 6 (.call { callee := .builtin .append, args := #[.tmp 42, .tmp 44], argTypes := #[50, 9] }) 45 [3, 5])
    (p7 : OpIs ops 7 (.assign (.tmp 45)) 4 [0, 1, 2, 3, 4, 5, 6])
    (hn : ops.size = 8) (hsz : a.tmps.size = 65) (h0 : a.eval (.tmp 0) = v) (hv : Bytes w B v r) (hB : B ≤ w.heap.size)
    (hr : r.length + 140000 ≤ 100000000) (h3 : a.eval (.tmp 3) = .pointer (some ⟨bx, 0, none⟩)) (hbx : w.heap[bx]? = some row) (hfar : some bx ≠ v.ownBlock) (hnm : nm.size ≤ 16) (hfa : ∀ W, (Instr.fieldAt 30 (.pointer (some ⟨bx, 0, none⟩)) 3).run Tryz.prog W = .ok (.pointer (some ⟨bx, 3, none⟩)) W) (hld : ∀ W : World, W.heap[bx]? = some row → (Instr.loadAt 9 (.pointer (some ⟨bx, 3, none⟩))).run Tryz.prog W = .ok (.string nm) W) (hlp : ∀ W : World, W.heap[bx]? = some row → (Instr.loadAt 30 (.pointer (some ⟨bx, 0, none⟩))).run Tryz.prog W = .ok pat W) (hM : ∀ l, M l → l.length + 100 ≤ 100000000)
    (hC : ∀ w1, Bytes w1 B v r → Ext w w1 v v → Calls Tryz.prog 56 #[v, pat, .string ⟨#[]⟩] w1 fun e w2 => ∃ v2, e = .returned v2 ∧ ∃ r2, Bytes w2 B v2 r2 ∧ Ext w1 w2 v v2 ∧ M r2)
    (hQ : ∀ x w2 v2 l2, Bytes w2 B v2 l2 → (fun l => ∃ l0, M l0 ∧ l = l0 ++ [32, 36, 32] ++ nm.data.toList) l2 → Ext w w2 v v2 → x 4 = v2 → Q .normal (fl a [39, 40, 41, 42, 43, 44, 45, 4] x) w2) : (Code.region id ops true).wp Tryz.prog Q a w := by
  refine region_inv2 (I := fun L a' w' => ∃ x cur l, a' = fl a [39, 40, 41, 42, 43, 44, 45, 4] x ∧ ImmF B w v r bx nm pat M L x w' cur l) rfl ?_ ?_ ?_
  · have hd : Below w.heap.size w w.drew := (Below.refl _ _).drew
    exact ⟨fun d => a.eval (.tmp d), v, r, (fl_self _ a).symm, by rw [hn]; rfl, fun h => absurd h up_new, fun h => absurd h up_new, fun h => absurd h up_new, fun h => absurd h up_new, .inl ⟨up_new, up_new, up_new, rfl, rfl⟩, fun h => absurd h up_new, hv.later hd, Ext.below v hd⟩
  · rintro L a' w' i ⟨x, cur, l, rfl, H⟩ hsh hi
    have hs := H.size
    have hlt : i < 8 := by
      obtain ⟨-, o, ho, -⟩ := mem_ready.1 hi
      have := (Array.getElem?_eq_some_iff.1 ho).1
      omega
    have hiL : i < L.size := by rw [hs]; exact hlt
    have hS : (L.setIfInBounds i true).size = 8 := by simp [hs]
    have hbw : B ≤ w'.heap.size := Nat.le_trans hB H.chn.ext.grown.size
    rcases (show i = 0 ∨ i = 1 ∨ i = 2 ∨ i = 3 ∨ i = 4 ∨ i = 5 ∨ i = 6 ∨ i = 7 by omega) with rfl | rfl | rfl | rfl | rfl | rfl | rfl | rfl
    · obtain ⟨hu, hd⟩ := op_ready p0 hi
      refine op_at p0 fun o ho hdst => wp_mv ho ?_
      refine ⟨upd x 39 v, cur, l, by rw [hdst, (fl_eval_out [39, 40, 41, 42, 43, 44, 45, 4] a x (t := 0) (by decide)), h0, fl_put _ _ _ _ _ (by decide) (by decide)], hS, fun _ => upd_same _ _ _, uk hiL H.f1, uk hiL H.f4, uk hiL H.f5, ?_, uz hiL H.fz, H.chn⟩
      · simpa only [up_set hiL, (nd : ¬ 2 = 0), (nd : ¬ 3 = 0), (nd : ¬ 6 = 0), false_or, uo x 41 39, uo x 42 39, uo x 45 39] using H.st
    · obtain ⟨hu, hd⟩ := op_ready p1 hi
      refine op_at p1 fun o ho hdst => wp_ld ho (by rw [(fl_eval_out [39, 40, 41, 42, 43, 44, 45, 4] a x (t := 3) (by decide))]; exact h3) (hlp w' (H.chn.ext.row hfar hbx)) ?_
      refine ⟨upd x 40 (pat), cur, l, fp hdst, hS, uk hiL H.f0, fun _ => upd_same _ _ _, uk hiL H.f4, uk hiL H.f5, ?_, uz hiL H.fz, H.chn⟩
      · simpa only [up_set hiL, (nd : ¬ 2 = 1), (nd : ¬ 3 = 1), (nd : ¬ 6 = 1), false_or, uo x 41 40, uo x 42 40, uo x 45 40] using H.st
    · obtain ⟨hu, hd⟩ := op_ready p2 hi
      rcases H.st with ⟨s2, s3, s6, rfl, rfl⟩ | ⟨s2, -⟩ | ⟨s3, -⟩ | ⟨s6, -⟩
      · refine op_at p2 fun o ho hdst => wp_go ho Tryz.func56 rfl rfl _ (by simp only [List.map_toArray, List.map_cons, List.map_nil]; rw [(fl_eval [39, 40, 41, 42, 43, 44, 45, 4] a x (d := 39) (by decide) (by decide) (by rw [hsz]; decide)), (fl_eval [39, 40, 41, 42, 43, 44, 45, 4] a x (d := 40) (by decide) (by decide) (by rw [hsz]; decide)), H.f0 (hd 0 (by decide)), H.f1 (hd 1 (by decide))]; rfl) ((hC w' H.chn.row H.chn.ext).mono ?_)
        rintro e w2 ⟨v2, rfl, r2, hb2, he2, hm2⟩
        refine ⟨v2, rfl, upd x 41 v2, v2, r2, fp hdst, hS, uk hiL H.f0, uk hiL H.f1, uk hiL H.f4, uk hiL H.f5, .inr (.inl ⟨(up_set hiL).2 (.inl rfl), fun h => s3 (upn hiL h), fun h => s6 (upn hiL h), upd_same _ _ _, hm2⟩), uz hiL H.fz, H.chn.next hb2 he2⟩
      · exact absurd s2 hu
      · exact absurd (shut_up p3 hsh s3 2 (by decide)) hu
      · exact absurd (shut_up p3 hsh (shut_up p6 hsh s6 3 (by decide)) 2 (by decide)) hu
    · obtain ⟨hu, hd⟩ := op_ready p3 hi
      rcases H.st with ⟨s2, -⟩ | ⟨s2, s3, s6, hx, hl⟩ | ⟨s3, -⟩ | ⟨s6, -⟩
      · exact absurd (hd 2 (by decide)) s2
      · refine op_at p3 fun o ho hdst => wp_text (.tmp 41) (.const (.string ⟨#[32, 36, 32]⟩)) ho (fe hsz (hx)) rfl H.chn.row hbw (by have := hM l hl; show l.length + 3 ≤ _; omega) ?_
        intro v' w2 hb2 he2
        refine ⟨upd x 42 v', v', _, fp hdst, hS, uk hiL H.f0, uk hiL H.f1, uk hiL H.f4, uk hiL H.f5, .inr (.inr (.inl ⟨(up_set hiL).2 (.inl rfl), fun h => s6 (upn hiL h), upd_same _ _ _, ⟨l, hl, rfl⟩⟩)), uz hiL H.fz, H.chn.next hb2 he2⟩
      · exact absurd s3 hu
      · exact absurd (shut_up p6 hsh s6 3 (by decide)) hu
    · obtain ⟨hu, hd⟩ := op_ready p4 hi
      refine op_at p4 fun o ho hdst => wp_fa ho (by rw [(fl_eval_out [39, 40, 41, 42, 43, 44, 45, 4] a x (t := 3) (by decide))]; exact h3) (hfa w') ?_
      refine ⟨upd x 43 (.pointer (some ⟨bx, 3, none⟩)), cur, l, fp hdst, hS, uk hiL H.f0, uk hiL H.f1, fun _ => upd_same _ _ _, uk hiL H.f5, ?_, uz hiL H.fz, H.chn⟩
      · simpa only [up_set hiL, (nd : ¬ 2 = 4), (nd : ¬ 3 = 4), (nd : ¬ 6 = 4), false_or, uo x 41 43, uo x 42 43, uo x 45 43] using H.st
    · obtain ⟨hu, hd⟩ := op_ready p5 hi
      refine op_at p5 fun o ho hdst => wp_ld ho (fe hsz (H.f4 (hd 4 (by decide)))) (hld w' (H.chn.ext.row hfar hbx)) ?_
      refine ⟨upd x 44 (.string nm), cur, l, fp hdst, hS, uk hiL H.f0, uk hiL H.f1, uk hiL H.f4, fun _ => upd_same _ _ _, ?_, uz hiL H.fz, H.chn⟩
      · simpa only [up_set hiL, (nd : ¬ 2 = 5), (nd : ¬ 3 = 5), (nd : ¬ 6 = 5), false_or, uo x 41 44, uo x 42 44, uo x 45 44] using H.st
    · obtain ⟨hu, hd⟩ := op_ready p6 hi
      rcases H.st with ⟨-, s3, -⟩ | ⟨-, s3, -⟩ | ⟨s3, s6, hx, hl⟩ | ⟨s6, -⟩
      · exact absurd (hd 3 (by decide)) s3
      · exact absurd (hd 3 (by decide)) s3
      · refine op_at p6 fun o ho hdst => wp_text (.tmp 42) (.tmp 44) ho (fe hsz (hx)) (fe hsz (H.f5 (hd 5 (by decide)))) H.chn.row hbw (by obtain ⟨l0, h0, e0⟩ := hl; have := hM l0 h0; rw [e0, List.length_append]; show l0.length + 3 + nm.size ≤ _; omega) ?_
        intro v' w2 hb2 he2
        refine ⟨upd x 45 v', v', _, fp hdst, hS, uk hiL H.f0, uk hiL H.f1, uk hiL H.f4, uk hiL H.f5, .inr (.inr (.inr (⟨(up_set hiL).2 (.inl rfl), upd_same _ _ _, by obtain ⟨l0, h0, e0⟩ := hl; exact ⟨l0, h0, by rw [e0]⟩⟩))), fun h => absurd (shut_up p7 hsh (upn hiL h) 6 (by decide)) hu, H.chn.next hb2 he2⟩
      · exact absurd s6 hu
    · obtain ⟨hu, hd⟩ := op_ready p7 hi
      refine op_at p7 fun o ho hdst => wp_as ho ?_
      refine ⟨upd x 4 (x 45), cur, l, by rw [hdst, (fl_eval [39, 40, 41, 42, 43, 44, 45, 4] a x (d := 45) (by decide) (by decide) (by rw [hsz]; decide)), fl_put _ _ _ _ _ (by decide) (by decide)], hS, uk hiL H.f0, uk hiL H.f1, uk hiL H.f4, uk hiL H.f5, ?_, fun _ => by rw [upd_same, upd_other (by decide)], H.chn⟩
      · simpa only [up_set hiL, (nd : ¬ 2 = 7), (nd : ¬ 3 = 7), (nd : ¬ 6 = 7), false_or, uo x 41 4, uo x 42 4, uo x 45 4] using H.st
  · rintro L a' w' ⟨x, cur, l, rfl, H⟩ hr0
    have hs := H.size
    have u0 := op_up p0 hr0 (by omega) (by simp)
    have u1 := op_up p1 hr0 (by omega) (by simp)
    have u2 := op_up p2 hr0 (by omega) (mc u0 (mc u1 mn))
    have u3 := op_up p3 hr0 (by omega) (mc u2 mn)
    have u4 := op_up p4 hr0 (by omega) (by simp)
    have u5 := op_up p5 hr0 (by omega) (mc u4 mn)
    have u6 := op_up p6 hr0 (by omega) (mc u3 (mc u5 mn))
    have u7 := op_up p7 hr0 (by omega) (mc u0 (mc u1 (mc u2 (mc u3 (mc u4 (mc u5 (mc u6 mn)))))))
    rcases H.st with ⟨-, -, sz, -⟩ | ⟨-, -, sz, -⟩ | ⟨-, sz, -⟩ | ⟨-, hx, hl⟩
    · exact absurd u6 sz
    · exact absurd u6 sz
    · exact absurd u6 sz
    · exact hQ x w' cur l H.chn.row hl H.chn.ext ((H.fz u7).trans hx)
end Go.Proofs.YtpphjddljngkmaaGreatDoor
