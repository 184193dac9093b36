/- The checker's block and its maps; what is learned of a statement. -/
import Derived.Test.YtpphjddljngkmaaDoorCkPP
import Derived.Deep.QuietTactic
import Derived.BigQuiet
import Derived.Deep.RegionHeld3
import Derived.Deep.Cut
import Derived.Lib.QuietBelow
namespace Go.Proofs.YtpphjddljngkmaaDoor
open Go.RowKit

/-- A checker as it lies in memory. -/
structure CkM (B z bl bf n : Nat) (pv : Value) (c : CS) (w : World) : Prop where
  chk : CkAt w z bl bf c.er c.at_ pv
  lab : MI w bl n c.fl
  fns : MI w bf n c.ff
  oz : B ≤ z
  ol : B ≤ bl
  of : B ≤ bf
  zl : z ≠ bl
  zf : z ≠ bf
  lf : bl ≠ bf
theorem MI.more {w : World} {b n : Nat} {f : ByteArray → Option Int} (h : MI w b n f) : MI w b (n + 1) f := by obtain ⟨D, h, k⟩ := h; exact ⟨D, h.mono (Nat.le_succ _), k⟩
section
variable {B z bl bf n : Nat} {pv : Value} {c : CS} {w w' : World}
theorem CkM.zlt (h : CkM B z bl bf n pv c w) : z < w.heap.size := (Array.getElem?_eq_some_iff.1 h.chk.blk).1
theorem CkM.le (h : CkM B z bl bf n pv c w) : B ≤ w.heap.size := by have := h.zlt; have := h.oz; omega
theorem CkM.more (h : CkM B z bl bf n pv c w) : CkM B z bl bf (n + 1) pv c w := ⟨h.chk, h.lab.more, h.fns.more, h.oz, h.ol, h.of, h.zl, h.zf, h.lf⟩
theorem CkM.keep (h : CkM B z bl bf n pv c w) (hz : w'.heap[z]? = w.heap[z]?) (hl : w'.heap[bl]? = w.heap[bl]?) (hf : w'.heap[bf]? = w.heap[bf]?) : CkM B z bl bf n pv c w' :=
  ⟨⟨hz.trans h.chk.blk⟩, h.lab.below hl, h.fns.below hf, h.oz, h.ol, h.of, h.zl, h.zf, h.lf⟩
theorem CkM.later (h : CkM B z bl bf n pv c w) (hb : Below w.heap.size w w') : CkM B z bl bf n pv c w' := h.keep (hb.block _ h.zlt) (hb.block _ h.lab.lt) (hb.block _ h.fns.lt)
theorem CkM.same (h : CkM B z bl bf n pv c w) (hb : w'.heap = w.heap) : CkM B z bl bf n pv c w' := h.keep (by rw [hb]) (by rw [hb]) (by rw [hb])
theorem CkM.c2 (h : CkM B z bl bf n pv c w) : w.cell? ⟨z, 2, none⟩ = some (.map (some bl)) := cr h.chk.blk
theorem CkM.c3 (h : CkM B z bl bf n pv c w) : w.cell? ⟨z, 3, none⟩ = some (.map (some bf)) := cr h.chk.blk
theorem CkM.c4 (h : CkM B z bl bf n pv c w) : w.cell? ⟨z, 4, none⟩ = some pv := cr h.chk.blk
theorem CkM.c0 (h : CkM B z bl bf n pv c w) : w.cell? ⟨z, 0, none⟩ = some (.int .i64 c.er) := cr h.chk.blk
theorem CkM.c1 (h : CkM B z bl bf n pv c w) : w.cell? ⟨z, 1, none⟩ = some (.int .i64 c.at_) := cr h.chk.blk
theorem But.belowB (h : But z w w') (hz : B ≤ z) (hw : B ≤ w.heap.size) : Below B w w' := ⟨h.os, h.tape, h.output, h.size, fun k hk => h.block k (by omega) (by omega)⟩
theorem grown_belowB {b : Nat} (h : w.grownBy w' (some b)) (hb : B ≤ b) (hw : B ≤ w.heap.size) : Below B w w' := ⟨h.os, h.tape, h.output, h.size, fun k hk => h.block k (by omega) (fun e => by injection e with e; omega)⟩
theorem CkM.told (h : CkM B z bl bf n pv c w) {e i : Int} (hb : But z w w') (hc : CkAt w' z bl bf (tE c.er e) (tA c.er e c.at_ i) pv) : CkM B z bl bf n pv (c.tell e i) w' :=
  ⟨hc, h.lab.below (hb.block _ h.lab.lt (Ne.symm h.zl)), h.fns.below (hb.block _ h.fns.lt (Ne.symm h.zf)), h.oz, h.ol, h.of, h.zl, h.zf, h.lf⟩
/-- The first error is told. -/
theorem tell_M (h : CkM B z bl bf n pv c w) (e i : Int) : Calls Tryd.prog 20 #[.pointer (some ⟨z, 0, none⟩), .int .i64 e, .int .i64 i] w fun x w' => x = .returned (.tuple #[]) ∧ But z w w' ∧ CkM B z bl bf n pv (c.tell e i) w' :=
  (tell_any h.chk e i).mono fun _ _ q => ⟨q.1, q.2.1, h.told q.2.1 q.2.2⟩
/-- A map is written. -/
theorem CkM.updL (h : CkM B z bl bf n pv c w) (s : ByteArray) (i : Nat) (hs : s.size ≤ maxLen) (hn : n ≤ 10000) (hi : i ≤ 2000) : ∃ w', (Instr.mapUpdate 34 (.map (some bl)) (.string s) (.int .i64 (i : Int))).run Tryd.prog w.drew = .ok () w' ∧ CkM B z bl bf (n + 1) pv (c.withL s (i : Int)) w' ∧ w.grownBy w' (some bl) := by
  obtain ⟨D, hown, h5⟩ := h.lab
  obtain ⟨w4, hrun, r1, r2⟩ := hown.drew.update (Maps.string_keyed Tryd.underlying9) Tryd.underlying34 (by unfold maxLen; omega) (keyS_key hs) (plainElem_int (e := 3) (a := (i : Int)) Tryd.underlying3 (by simp [Lit.wf, IntKind.min, IntKind.max, IntKind.signed, IntKind.bits]; omega))
  exact ⟨w4, hrun, ⟨⟨(r2.block z h.zlt (fun e => by injection e with e; exact h.zl e)).trans h.chk.blk⟩, MI.put h5 hown.isMap r1, h.fns.more.below (r2.block bf h.fns.lt (fun e => by injection e with e; exact h.lf e.symm)), h.oz, h.ol, h.of, h.zl, h.zf, h.lf⟩, ⟨r2.os, r2.tape, r2.output, r2.size, r2.block⟩⟩
theorem CkM.updF (h : CkM B z bl bf n pv c w) (s : ByteArray) (i : Nat) (hs : s.size ≤ maxLen) (hn : n ≤ 10000) (hi : i ≤ 2000) : ∃ w', (Instr.mapUpdate 34 (.map (some bf)) (.string s) (.int .i64 (i : Int))).run Tryd.prog w.drew = .ok () w' ∧ CkM B z bl bf (n + 1) pv (c.withF s (i : Int)) w' ∧ w.grownBy w' (some bf) := by
  obtain ⟨D, hown, h5⟩ := h.fns
  obtain ⟨w4, hrun, r1, r2⟩ := hown.drew.update (Maps.string_keyed Tryd.underlying9) Tryd.underlying34 (by unfold maxLen; omega) (keyS_key hs) (plainElem_int (e := 3) (a := (i : Int)) Tryd.underlying3 (by simp [Lit.wf, IntKind.min, IntKind.max, IntKind.signed, IntKind.bits]; omega))
  exact ⟨w4, hrun, ⟨⟨(r2.block z h.zlt (fun e => by injection e with e; exact h.zf e)).trans h.chk.blk⟩, h.lab.more.below (r2.block bl h.lab.lt (fun e => by injection e with e; exact h.lf e)), MI.put h5 hown.isMap r1, h.oz, h.ol, h.of, h.zl, h.zf, h.lf⟩, ⟨r2.os, r2.tape, r2.output, r2.size, r2.block⟩⟩
end
/-- A whole statement is loaded, in a region that draws its order. -/
theorem wpq_stmt {K : World → Prop} {Q : Act → Prop} {ops : Array Oper} {a : Act} {o : Oper} {rest : List Oper} (hw : Region.wanted o (yielded ops a.tmps) = true) (x : Operand) (ho : o.op = .load 49 x) (g : Nat) (hx : a.eval x = .pointer (some ⟨g, 0, none⟩)) (C : Array Value) (hC : C.size = 24)
    (hK : ∀ w, K w → w.heap[g]? = some (.cells C 49 (0, 0))) (h : wpQuiet Tryd.prog ops K Q rest (a.put o.dst (.agg C))) : wpQuiet Tryd.prog ops K Q (o :: rest) a := by
  unfold wpQuiet
  rw [if_pos hw]
  refine ⟨.agg C, fun w q => ?_, h⟩
  unfold Oper.quietAt execOp
  simp only [ho, hx, Instr.loadAt, Instr.sureAddr, Sem.run_bind, Sem.run_pure, Result.andThen_ok, run_loadVar_row w g _ _ C _ _ (hK w q) Tryd.underlying49 rfl (size_stmt.trans (by rw [hC]))]
  exact ⟨rfl, rfl⟩
set_option maxRecDepth 100000 in
set_option maxHeartbeats 8000000 in
theorem learn_any (S : SV) (w : World) (B z bl bf n i : Nat) (pv : Value) (c : CS) (hS : ∀ W, Below B w W → S.In W) (h8 : S.k = 7 → S.ps.l.length ≤ 8 ∧ S.ls.l.length ≤ 8) (hM : CkM B z bl bf n pv c w) (hn : n ≤ 2000) (hi : i ≤ 1000) :
    Calls Tryd.prog 23 #[.pointer (some ⟨z, 0, none⟩), .int .i64 (i : Int), S.v] w fun e w' => e = .returned (.tuple #[]) ∧ CkM B z bl bf (n + 1 + 1) pv (c.learn (i : Int) S) w' ∧ Below B w w' := by
  have hBw := hM.le
  have hzw : z ≠ w.heap.size := by have := hM.zlt; omega
  have HCLS := hide (fun W (h : S.In W) (q : S.k = 7) => clash_any S W h (h8 q).1 (h8 q).2)
  unfold SV.v at HCLS ⊢
  have HCC : Hid (S.cells[0]? = some (.string S.lab) ∧ S.cells[1]? = some (.int .i64 S.k) ∧ S.cells[17]? = some (.string S.nm)) := hide (⟨rfl, rfl, rfl⟩)
  have hC24 := sv_size S
  generalize S.cells = C at *
  obtain ⟨e0, e1, e17⟩ := unhide HCC
  obtain ⟨_, f0⟩ := Array.getElem?_eq_some_iff.1 e0
  obtain ⟨w1, hw1⟩ : ∃ w1, w1 = w.alloc (.cells C 49) := ⟨_, rfl⟩
  have hb1 : Below w.heap.size w w1 := by rw [hw1]; exact ba _
  have hr1 : w1.heap[w.heap.size]? = some (.cells C 49 (0, 0)) := by rw [hw1]; exact at_new rfl
  have HM1 := hide (hM.later hb1)
  have HB1 := hide (hb1.mono hBw)
  have HI1 := hide hS
  have HR1 := hide hr1
  have HRW := hide hw1
  have hts := (hS w (Below.refl _ _)).txt.1
  have htn := (hS w (Below.refl _ _)).txt.2.1
  have HLO := hide (fun W => leadsOut_any S.lab W)
  have HBU := hide (fun W => builtin_any S.nm W)
  have hbl := hM.lab.lt
  have hbf := hM.fns.lt
  have hzl := hM.zlt
  have hx1 : w.heap.size < w1.heap.size := by rw [hw1, World.size_alloc]; omega
  clear hM hS hb1 hr1 hw1 h8
  go_enter Tryd.func23, Tryd.ntmps23
  go_upto_if 8 with fail
  rw [show w.alloc (.cells C 49) = w1 from (unhide HRW).symm]
  go_cut [] from 8 (fun wx => Hid (wx.heap[w.heap.size]? = some (.cells C 49 (0, 0)) ∧ CkM B z bl bf (n + 1) pv (c.labS (i : Int) S) wx ∧ Below B w wx))
  case first =>
    have HEND : Hid (∀ (w3 : World) (c' : CS), CkM B z bl bf n pv c' w3 → w3.heap[w.heap.size]? = some (.cells C 49 (0, 0)) → Below B w w3 → ∃ w4, (Instr.mapUpdate 34 (.map (some bl)) (.string S.lab) (.int .i64 (i : Int))).run Tryd.prog w3.drew = .ok () w4 ∧ w4.heap[w.heap.size]? = some (.cells C 49 (0, 0)) ∧ CkM B z bl bf (n + 1) pv (c'.withL S.lab (i : Int)) w4 ∧ Below B w w4) := hide (fun w3 c' hM3 hr3 hB3 => by
      obtain ⟨w4, hrun, hM4, hg⟩ := hM3.updL S.lab i hts (by omega) (by omega)
      exact ⟨w4, hrun, (hg.block w.heap.size (Array.getElem?_eq_some_iff.1 hr3).1 (fun e => by injection e with e; omega)).trans hr3, hM4, hB3.trans (grown_belowB hg hM3.ol hM3.le)⟩)
    have HIL := hide (fun W (h : CkM B z bl bf n pv c W) => isLabel_any (o := 2) h.c2 h.lab hts)
    cases he : S.lab.toList.isEmpty
    · cases hlo : lout S.lab
      · cases hla : (c.fl S.lab).isSome
        · simp only [hlo] at HLO
          simp only [hla] at HIL
          have c2 := (unhide HM1).c2
          have c0 : w1.cell? ⟨w.heap.size, 0, none⟩ = some (.string S.lab) := by rw [cell_of_row _ _ _ _ _ _ (unhide HR1)]; exact e0
          go_wp2_with fail
          go_quiet (first
            | (go_at_call 33; exact Calls.quiet_of_same (unhide HLO _))
            | (go_at_call 34; exact Calls.quiet_of_same (unhide HIL _ ((unhide HM1).same (World.heap_drewN _ _)))))
          have hh2 : (w1.drewN nq).heap = w1.heap := World.heap_drewN _ _
          have HB2 := hide (below_drewN (unhide HB1) nq)
          generalize w1.drewN nq = w2 at *
          have hM2 := (unhide HM1).same hh2
          clear c2 c0
          obtain ⟨w4, hrun, hr4, hM4, hB4⟩ := unhide HEND w2 _ hM2 (by rw [hh2]; exact unhide HR1) (unhide HB2)
          have d2 := hM2.c2
          have d0 : w2.cell? ⟨w.heap.size, 0, none⟩ = some (.string S.lab) := by rw [cell_of_row _ _ _ _ _ _ (show w2.heap[w.heap.size]? = some (.cells C 49 (0, 0)) by rw [hh2]; exact unhide HR1)]; exact e0
          have HZ : Hid (w4.heap[w.heap.size]? = some (.cells C 49 (0, 0)) ∧ CkM B z bl bf (n + 1) pv (c.labS (i : Int) S) w4 ∧ Below B w w4) := hide (⟨hr4, by rw [CS.labS, if_neg (by rw [he]; decide), CS.tellIf, if_neg (by unfold SV.labB; rw [hlo, hla]; decide)]; exact hM4, hB4⟩)
          clear hM4 hr4 hh2 hB4 hM2
          go_wp2_with fail
          go_region
          go_wp2_with fail
          go_meet
          case rel => exact unhide HZ
        · simp only [hlo] at HLO
          simp only [hla] at HIL
          have c2 := (unhide HM1).c2
          have c0 : w1.cell? ⟨w.heap.size, 0, none⟩ = some (.string S.lab) := by rw [cell_of_row _ _ _ _ _ _ (unhide HR1)]; exact e0
          go_wp2_with fail
          go_quiet (first
            | (go_at_call 33; exact Calls.quiet_of_same (unhide HLO _))
            | (go_at_call 34; exact Calls.quiet_of_same (unhide HIL _ ((unhide HM1).same (World.heap_drewN _ _)))))
          have hh2 : (w1.drewN nq).heap = w1.heap := World.heap_drewN _ _
          have HB2 := hide (below_drewN (unhide HB1) nq)
          generalize w1.drewN nq = w2 at *
          have hM2 := (unhide HM1).same hh2
          clear c2 c0
          have HT := hide (tell_M hM2 7 (i : Int))
          go_wp2_with fail
          refine (unhide HT).mono ?_
          rintro e w3 ⟨rfl, hb3, hM3⟩
          have hr3 : w3.heap[w.heap.size]? = some (.cells C 49 (0, 0)) := (hb3.block _ (by rw [hh2]; exact hx1) (Ne.symm hzw)).trans (by rw [hh2]; exact unhide HR1)
          have hB3 := (unhide HB2).trans (hb3.belowB hM2.oz hM2.le)
          obtain ⟨w4, hrun, hr4, hM4, hB4⟩ := unhide HEND w3 _ hM3 hr3 hB3
          have d2 := hM3.c2
          have d0 : w3.cell? ⟨w.heap.size, 0, none⟩ = some (.string S.lab) := by rw [cell_of_row _ _ _ _ _ _ hr3]; exact e0
          have HZ : Hid (w4.heap[w.heap.size]? = some (.cells C 49 (0, 0)) ∧ CkM B z bl bf (n + 1) pv (c.labS (i : Int) S) w4 ∧ Below B w w4) := hide (⟨hr4, by rw [CS.labS, if_neg (by rw [he]; decide), CS.tellIf, if_pos (by unfold SV.labB; rw [hlo, hla]; rfl)]; exact hM4, hB4⟩)
          clear hM3 hr3 hM4 hr4 hh2 hB3 hB4 hb3 HT hM2
          go_wp2_with fail
          go_region
          go_wp2_with fail
          go_meet
          case rel => exact unhide HZ
      · simp only [hlo] at HLO
        have c2 := (unhide HM1).c2
        have c0 : w1.cell? ⟨w.heap.size, 0, none⟩ = some (.string S.lab) := by rw [cell_of_row _ _ _ _ _ _ (unhide HR1)]; exact e0
        go_wp2_with fail
        go_quiet (first
          | (go_at_call 33; exact Calls.quiet_of_same (unhide HLO _))
          | (go_at_call 34; exact Calls.quiet_of_same (unhide HIL _ ((unhide HM1).same (World.heap_drewN _ _)))))
        have hh2 : (w1.drewN nq).heap = w1.heap := World.heap_drewN _ _
        have HB2 := hide (below_drewN (unhide HB1) nq)
        generalize w1.drewN nq = w2 at *
        have hM2 := (unhide HM1).same hh2
        clear c2 c0
        have HT := hide (tell_M hM2 7 (i : Int))
        go_wp2_with fail
        refine (unhide HT).mono ?_
        rintro e w3 ⟨rfl, hb3, hM3⟩
        have hr3 : w3.heap[w.heap.size]? = some (.cells C 49 (0, 0)) := (hb3.block _ (by rw [hh2]; exact hx1) (Ne.symm hzw)).trans (by rw [hh2]; exact unhide HR1)
        have hB3 := (unhide HB2).trans (hb3.belowB hM2.oz hM2.le)
        obtain ⟨w4, hrun, hr4, hM4, hB4⟩ := unhide HEND w3 _ hM3 hr3 hB3
        have d2 := hM3.c2
        have d0 : w3.cell? ⟨w.heap.size, 0, none⟩ = some (.string S.lab) := by rw [cell_of_row _ _ _ _ _ _ hr3]; exact e0
        have HZ : Hid (w4.heap[w.heap.size]? = some (.cells C 49 (0, 0)) ∧ CkM B z bl bf (n + 1) pv (c.labS (i : Int) S) w4 ∧ Below B w w4) := hide (⟨hr4, by rw [CS.labS, if_neg (by rw [he]; decide), CS.tellIf, if_pos (by unfold SV.labB; rw [hlo]; rfl)]; exact hM4, hB4⟩)
        clear hM3 hr3 hM4 hr4 hh2 hB3 hB4 hb3 HT hM2
        go_wp2_with fail
        go_region
        go_wp2_with fail
        go_meet
        case rel => exact unhide HZ
    · have HZ : Hid (w1.heap[w.heap.size]? = some (.cells C 49 (0, 0)) ∧ CkM B z bl bf (n + 1) pv (c.labS (i : Int) S) w1 ∧ Below B w w1) := hide (⟨unhide HR1, by rw [CS.labS, if_pos he]; exact (unhide HM1).more, unhide HB1⟩)
      go_wp2_with fail
      go_meet
      case rel => exact unhide HZ
  case rest =>
    obtain ⟨hr, hMc, hBc⟩ := unhide hcut
    have HLE : Hid (c.learn (i : Int) S = (c.labS (i : Int) S).defS (i : Int) S) := hide (rfl)
    generalize c.labS (i : Int) S = c' at *
    have HEND : Hid (∀ (w3 : World) (c' : CS), CkM B z bl bf (n + 1) pv c' w3 → Below B w w3 → ∃ w4, (Instr.mapUpdate 34 (.map (some bf)) (.string S.nm) (.int .i64 (i : Int))).run Tryd.prog w3.drew = .ok () w4 ∧ CkM B z bl bf (n + 1 + 1) pv (c'.withF S.nm (i : Int)) w4 ∧ Below B w w4) := hide (fun w3 c' hM3 hB3 => by
      obtain ⟨w4, hrun, hM4, hg⟩ := hM3.updF S.nm i htn (by omega) (by omega)
      exact ⟨w4, hrun, hM4, hB3.trans (grown_belowB hg hM3.of hM3.le)⟩)
    have HIF := hide (fun W (h : CkM B z bl bf (n + 1) pv c' W) => isFunction_any (o := 2) h.c3 h.fns htn)
    have d1 : wc.cell? ⟨w.heap.size, 1, none⟩ = some (.int .i64 S.k) := by rw [cell_of_row _ _ _ _ _ _ hr]; exact e1
    have d17 : wc.cell? ⟨w.heap.size, 17, none⟩ = some (.string S.nm) := by rw [cell_of_row _ _ _ _ _ _ hr]; exact e17
    have d3 := hMc.c3
    clear hcut HR1 HM1 HB1 HLO hts
    by_cases hk : S.k = 7
    · have q7 : (S.k == 7) = true := bt hk
      have HK := hide hk
      clear hk
      by_cases hq : blt S.nm = -1
      · have qb : (blt S.nm == -1) = true := bt hq
        have qn : (blt S.nm != -1) = false := by rw [bne, qb]; rfl
        have HQ := hide hq
        clear hq
        cases hf : (c'.ff S.nm).isSome
        · simp only [hf] at HIF
          cases hcl : S.clE
          · as_aux_lemma =>
              simp only [hcl] at HCLS
              have HBQ := hide (fun d os => Calls.regrown_of (w := wc) (d := d) (os := os) ((unhide HBU _).mono fun e w' q => ⟨q.1, by rw [q.2]; exact Below.refl _ _⟩))
              have HFQ := hide (fun d os => Calls.regrown_of (w := wc) (d := d) (os := os) ((unhide HIF _ (hMc.later (below_regrown wc d os))).mono fun e w' q => ⟨q.1, by rw [q.2]; exact Below.refl _ _⟩))
              have HCQ := hide (fun d os => Calls.regrown_of (w := wc) (d := d) (os := os) (unhide HCLS _ (unhide HI1 _ (hBc.trans ((below_regrown wc d os).mono hMc.le))) (unhide HK)))
              have g3 := fun d os => cell_regrown d3 d os
              have r17 := fun d os => cell_regrown d17 d os
              go_wp2_with fail
              refine wp_region_quiet_below (by kernel_rfl) (by kernel_rfl) ?_
              repeat (first | (refine wpq_stmt (by first | rfl | simp [Region.wanted, yielded]) _ rfl w.heap.size rfl C hC24 (fun W q => (by obtain ⟨p, rfl⟩ := q; exact row_below hr (below_regrown wc p.d p.os))) ?_) | quiet_step (first
                | (go_at_call 6; exact unhide HBQ _ _)
                | (go_at_call 35; exact unhide HFQ _ _)
                | (go_at_call 36; exact unhide HCQ _ _)))
              refine wpQuiet_nil ?_
              intro _ hw'
              obtain ⟨⟨dq, osq⟩, hw''⟩ := hw'
              subst hw''
              have hM2 := hMc.later (below_regrown wc dq osq)
              have hr2 := row_below hr (below_regrown wc dq osq)
              have hB2 := hBc.trans ((below_regrown wc dq osq).mono hMc.le)
              generalize Go.Sort.grow (redrawn wc dq) osq = w2 at *
              clear r17 g3 HBQ HFQ HCQ d17 d3 hMc hBc hr
              have hr3 := hr2
              have hM3 := hM2
              have hB3 := hB2
              clear hM2 hr2 hB2
              obtain ⟨w4, hrun, hM4, hB4⟩ := unhide HEND w2 _ hM3 hB3
              have d2 := hM3.c3
              have d0 : w2.cell? ⟨w.heap.size, 17, none⟩ = some (.string S.nm) := by rw [cell_of_row _ _ _ _ _ _ hr3]; exact e17
              have HZ : Hid (CkM B z bl bf (n + 1 + 1) pv (c'.defS (i : Int) S) w4 ∧ Below B w w4) := hide (⟨by rw [CS.defS, if_pos (unhide HK), CS.tellIf, if_neg (by unfold SV.defB; rw [hf, hcl, decide_eq_true (unhide HQ)]; decide)]; exact hM4, hB4⟩)
              clear hM3 hr3 hM4 hB3 hB4
              go_wp2_with fail
              go_region
              go_wp2_with fail
              go_end0
              rw [unhide HLE]
              exact ⟨rfl, unhide HZ⟩
          · as_aux_lemma =>
              simp only [hcl] at HCLS
              have HBQ := hide (fun d os => Calls.regrown_of (w := wc) (d := d) (os := os) ((unhide HBU _).mono fun e w' q => ⟨q.1, by rw [q.2]; exact Below.refl _ _⟩))
              have HFQ := hide (fun d os => Calls.regrown_of (w := wc) (d := d) (os := os) ((unhide HIF _ (hMc.later (below_regrown wc d os))).mono fun e w' q => ⟨q.1, by rw [q.2]; exact Below.refl _ _⟩))
              have HCQ := hide (fun d os => Calls.regrown_of (w := wc) (d := d) (os := os) (unhide HCLS _ (unhide HI1 _ (hBc.trans ((below_regrown wc d os).mono hMc.le))) (unhide HK)))
              have g3 := fun d os => cell_regrown d3 d os
              have r17 := fun d os => cell_regrown d17 d os
              go_wp2_with fail
              refine wp_region_quiet_below (by kernel_rfl) (by kernel_rfl) ?_
              repeat (first | (refine wpq_stmt (by first | rfl | simp [Region.wanted, yielded]) _ rfl w.heap.size rfl C hC24 (fun W q => (by obtain ⟨p, rfl⟩ := q; exact row_below hr (below_regrown wc p.d p.os))) ?_) | quiet_step (first
                | (go_at_call 6; exact unhide HBQ _ _)
                | (go_at_call 35; exact unhide HFQ _ _)
                | (go_at_call 36; exact unhide HCQ _ _)))
              refine wpQuiet_nil ?_
              intro _ hw'
              obtain ⟨⟨dq, osq⟩, hw''⟩ := hw'
              subst hw''
              have hM2 := hMc.later (below_regrown wc dq osq)
              have hr2 := row_below hr (below_regrown wc dq osq)
              have hB2 := hBc.trans ((below_regrown wc dq osq).mono hMc.le)
              generalize Go.Sort.grow (redrawn wc dq) osq = w2 at *
              clear r17 g3 HBQ HFQ HCQ d17 d3 hMc hBc hr
              have HT := hide (tell_M hM2 7 (i : Int))
              go_wp2_with fail
              refine (unhide HT).mono ?_
              rintro e w3 ⟨rfl, hb3, hM3⟩
              have hr3 : w3.heap[w.heap.size]? = some (.cells C 49 (0, 0)) := (hb3.block _ (Array.getElem?_eq_some_iff.1 hr2).1 (Ne.symm hzw)).trans hr2
              have hB3 := hB2.trans (hb3.belowB hM2.oz hM2.le)
              clear HT hM2 hr2 hB2 hb3
              obtain ⟨w4, hrun, hM4, hB4⟩ := unhide HEND w3 _ hM3 hB3
              have d2 := hM3.c3
              have d0 : w3.cell? ⟨w.heap.size, 17, none⟩ = some (.string S.nm) := by rw [cell_of_row _ _ _ _ _ _ hr3]; exact e17
              have HZ : Hid (CkM B z bl bf (n + 1 + 1) pv (c'.defS (i : Int) S) w4 ∧ Below B w w4) := hide (⟨by rw [CS.defS, if_pos (unhide HK), CS.tellIf, if_pos (by unfold SV.defB; rw [hf, hcl]; simp)]; exact hM4, hB4⟩)
              clear hM3 hr3 hM4 hB3 hB4
              go_wp2_with fail
              go_region
              go_wp2_with fail
              go_end0
              rw [unhide HLE]
              exact ⟨rfl, unhide HZ⟩
        · as_aux_lemma =>
            simp only [hf] at HIF
            go_wp2_with fail
            go_quiet (first
              | (go_at_call 6; exact Calls.quiet_of_same (unhide HBU _))
              | (go_at_call 35; exact Calls.quiet_of_same (unhide HIF _ (hMc.same (World.heap_drewN _ _)))))
            have hh2 : (wc.drewN nq).heap = wc.heap := World.heap_drewN _ _
            have hB2 := below_drewN hBc nq
            have hr2 : (wc.drewN nq).heap[w.heap.size]? = some (.cells C 49 (0, 0)) := by rw [hh2]; exact hr
            have hM2 := hMc.same hh2
            generalize wc.drewN nq = w2 at *
            clear hh2 d17 d3 hMc hBc hr
            have HT := hide (tell_M hM2 7 (i : Int))
            go_wp2_with fail
            refine (unhide HT).mono ?_
            rintro e w3 ⟨rfl, hb3, hM3⟩
            have hr3 : w3.heap[w.heap.size]? = some (.cells C 49 (0, 0)) := (hb3.block _ (Array.getElem?_eq_some_iff.1 hr2).1 (Ne.symm hzw)).trans hr2
            have hB3 := hB2.trans (hb3.belowB hM2.oz hM2.le)
            clear HT hM2 hr2 hB2 hb3
            obtain ⟨w4, hrun, hM4, hB4⟩ := unhide HEND w3 _ hM3 hB3
            have d2 := hM3.c3
            have d0 : w3.cell? ⟨w.heap.size, 17, none⟩ = some (.string S.nm) := by rw [cell_of_row _ _ _ _ _ _ hr3]; exact e17
            have HZ : Hid (CkM B z bl bf (n + 1 + 1) pv (c'.defS (i : Int) S) w4 ∧ Below B w w4) := hide (⟨by rw [CS.defS, if_pos (unhide HK), CS.tellIf, if_pos (by unfold SV.defB; rw [hf]; simp)]; exact hM4, hB4⟩)
            clear hM3 hr3 hM4 hB3 hB4
            go_wp2_with fail
            go_region
            go_wp2_with fail
            go_end0
            rw [unhide HLE]
            exact ⟨rfl, unhide HZ⟩
      · have qb : (blt S.nm == -1) = false := bn hq
        have qn : (blt S.nm != -1) = true := by rw [bne, qb]; rfl
        have HQ := hide hq
        clear hq
        go_wp2_with fail
        go_quiet (first
          | (go_at_call 6; exact Calls.quiet_of_same (unhide HBU _))
          | (go_at_call 35; exact Calls.quiet_of_same (unhide HIF _ (hMc.same (World.heap_drewN _ _)))))
        have hh2 : (wc.drewN nq).heap = wc.heap := World.heap_drewN _ _
        have hB2 := below_drewN hBc nq
        have hr2 : (wc.drewN nq).heap[w.heap.size]? = some (.cells C 49 (0, 0)) := by rw [hh2]; exact hr
        have hM2 := hMc.same hh2
        generalize wc.drewN nq = w2 at *
        clear hh2 d17 d3 hMc hBc hr
        have HT := hide (tell_M hM2 7 (i : Int))
        go_wp2_with fail
        refine (unhide HT).mono ?_
        rintro e w3 ⟨rfl, hb3, hM3⟩
        have hr3 : w3.heap[w.heap.size]? = some (.cells C 49 (0, 0)) := (hb3.block _ (Array.getElem?_eq_some_iff.1 hr2).1 (Ne.symm hzw)).trans hr2
        have hB3 := hB2.trans (hb3.belowB hM2.oz hM2.le)
        clear HT hM2 hr2 hB2 hb3
        obtain ⟨w4, hrun, hM4, hB4⟩ := unhide HEND w3 _ hM3 hB3
        have d2 := hM3.c3
        have d0 : w3.cell? ⟨w.heap.size, 17, none⟩ = some (.string S.nm) := by rw [cell_of_row _ _ _ _ _ _ hr3]; exact e17
        have HZ : Hid (CkM B z bl bf (n + 1 + 1) pv (c'.defS (i : Int) S) w4 ∧ Below B w w4) := hide (⟨by rw [CS.defS, if_pos (unhide HK), CS.tellIf, if_pos (by unfold SV.defB; rw [decide_eq_false (unhide HQ)]; rfl)]; exact hM4, hB4⟩)
        clear hM3 hr3 hM4 hB3 hB4
        go_wp2_with fail
        go_region
        go_wp2_with fail
        go_end0
        rw [unhide HLE]
        exact ⟨rfl, unhide HZ⟩
    · have q7 : (S.k == 7) = false := bn hk
      have HZ : Hid (CkM B z bl bf (n + 1 + 1) pv (c'.defS (i : Int) S) wc ∧ Below B w wc) := hide (⟨by rw [CS.defS, if_neg hk]; exact hMc.more, hBc⟩)
      clear hk hMc hBc hr
      go_wp2_with fail
      go_end0
      rw [unhide HLE]
      exact ⟨rfl, unhide HZ⟩
end Go.Proofs.YtpphjddljngkmaaDoor
