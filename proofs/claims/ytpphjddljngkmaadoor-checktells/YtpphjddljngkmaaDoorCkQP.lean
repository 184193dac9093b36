/- The checker: a program in memory; statements by themselves; what is wrong with a call. -/
import Derived.Test.YtpphjddljngkmaaDoorCkLP
import Derived.Test.YtpphjddljngkmaaDoorRegionSinkM
import Derived.Deep.MidRow
namespace Go.Proofs.YtpphjddljngkmaaDoor
open Go.RowKit

/-- What stays as long as what is old stays. -/
structure Env (B : Nat) (w : World) (V : PV) (P : List SV) : Prop where
  prog : ∀ W, Below B w W → PIn W V P
  shx : ∀ W, Below B w W → ShapesX W
  shp : ∀ W, Below B w W → Shapes W
theorem Env.next {B : Nat} {w w' : World} {V : PV} {P : List SV} (h : Env B w V P) (hb : Below B w w') : Env B w' V P := ⟨fun W q => h.prog W (hb.trans q), fun W q => h.shx W (hb.trans q), fun W q => h.shp W (hb.trans q)⟩
theorem Env.stmt {B : Nat} {w : World} {V : PV} {P : List SV} (h : Env B w V P) {i : Nat} {S : SV} (hS : P[i]? = some S) : ∀ W, Below B w W → S.In W := fun W q => ((h.prog W q).row i S hS).2
section
variable {ops : Array Oper} {S : World → Prop} {o : Oper} {a : Act}
set_option maxRecDepth 100000 in
/-- A whole statement is loaded. -/
theorem ys_stmt (hw : Region.wanted o (yielded ops a.tmps) = true) (x : Operand) (ho : o.op = .load 49 x) (g : Nat) (hx : a.eval x = .pointer (some ⟨g, 0, none⟩)) (C : Array Value) (hC : C.size = 24) (hS : ∀ w, S w → w.heap[g]? = some (.cells C 49 (0, 0))) : YieldsIf Tryd.prog ops S o (.agg C) a :=
  .inl ⟨hw, fun w q => by
    unfold execOp
    simp only [ho, hx, Instr.loadAt, Instr.sureAddr, Sem.run_bind, Sem.run_pure, Result.andThen_ok, run_loadVar_row w g _ _ C _ _ (hS w q) Tryd.underlying49 rfl (size_stmt.trans (by rw [hC]))]⟩
set_option maxRecDepth 100000 in
theorem ys_mid (hw : Region.wanted o (yielded ops a.tmps) = true) (x : Operand) (ho : o.op = .load 49 x) (g k : Nat) (hx : a.eval x = .pointer (some ⟨g, k, none⟩)) (L : List Value) (hC : L.length = 24) (hS : ∀ w, S w → w.rangeAt g k L) : YieldsIf Tryd.prog ops S o (.agg L.toArray) a :=
  yieldsIf_load_mid hw _ x ho g k hx L _ hS Tryd.underlying49 rfl (size_stmt.trans (by rw [hC]))
theorem ys_to {v v' : Value} (h : YieldsIf Tryd.prog ops S o v a) (e : v = v') : YieldsIf Tryd.prog ops S o v' a := e ▸ h
set_option maxRecDepth 100000 in
theorem ys_look (hw : Region.wanted o (yielded ops a.tmps) = true) (m x : Operand) (hop : o.op = Op.lookup 34 m x false) {b n : Nat} {f : ByteArray → Option Int} (hm : a.eval m = .map (some b)) (s : ByteArray) (hx : a.eval x = .string s) (hs : s.size ≤ maxLen) (hS : ∀ w, S w → MI w b n f) : YieldsIf Tryd.prog ops S o (.int .i64 ((f s).getD 0)) a :=
  .inl ⟨hw, fun w q => by
    obtain ⟨D, hown, h5⟩ := hS w q
    obtain ⟨c, hrun, hat, -⟩ := hown.lookup_int (Maps.string_keyed Tryd.underlying9) Tryd.underlying34 Tryd.underlying3 (zero_int _) (keyS_key hs)
    have e : c = (f s).getD 0 := by
      cases hf : f s with
      | none =>
        have h := (h5 s).1
        rw [hf] at h
        rw [Maps.atKey_of_not_has h] at hat
        injection hat with hat; injection hat with _ hat
        exact hat.symm
      | some x =>
        rw [(h5 s).2 x hf] at hat
        injection hat with hat; injection hat with _ hat
        exact hat.symm
    rw [← e]
    simp [execOp, hop, hm, hx, hrun, Result.andThen]⟩
end
set_option maxRecDepth 100000 in
set_option maxHeartbeats 4000000 in
theorem alone_any (S : SV) (w : World) (B z bl bf n i : Nat) (pv : Value) (c : CS) (hS : S.In w) (hX : ShapesX w) (hP : Shapes w) (hM : CkM B z bl bf n pv c w) :
    Calls Tryd.prog 22 #[.pointer (some ⟨z, 0, none⟩), .int .i64 (i : Int), S.v] w fun e w' => e = .returned (.tuple #[]) ∧ CkM B z bl bf n pv (c.alone (i : Int) S) w' ∧ Below B w w' := by
  have hBw := hM.le
  have hzw : z < w.heap.size := hM.zlt
  have HW := hide (fun W (q : Below w.heap.size w W) => stmt_any S W (hS.later q) (hX.later q) (hP.later q))
  have HM := hide hM
  have HE : Hid (c.alone (i : Int) S = c.tell S.wrong (i : Int)) := hide (rfl)
  unfold SV.v at HW ⊢
  have hC24 := sv_size S
  generalize S.wrong = er at *
  generalize S.cells = C at *
  obtain ⟨w1, hw1⟩ : ∃ w1, w1 = w.alloc (.cells C 49) := ⟨_, rfl⟩
  have hb1 : Below w.heap.size w w1 := by rw [hw1]; exact ba _
  have hr1 : w1.heap[w.heap.size]? = some (.cells C 49 (0, 0)) := by rw [hw1]; exact at_new rfl
  have HB1 := hide hb1
  have HR1 := hide hr1
  have HRW := hide hw1
  clear hS hX hP hM hb1 hr1 hw1
  go_enter Tryd.func22, Tryd.ntmps22
  go_wp2_with fail
  rw [show w.alloc (.cells C 49) = w1 from (unhide HRW).symm]
  have hS : Below w1.heap.size w1 w1.drew := (Below.refl _ _).drew
  refine startQ 6 (fun W => Below w1.heap.size w1 W) ?_
  intro F
  refine takeE F (i := 0) (oi := _) (v := ?v0a) rfl (by kernel_rfl) (by kernel_rfl) (by rfl) (fun _ _ _ h => h) hS (Or.inl ⟨by rfl, ?y0a⟩) ?r0a
  case y0a => (intro w9 hSw; (go_simp <;> (try with_reducible rfl)))
  (try simp only [List.getElem_toArray, List.getElem_cons_zero])
  (try go_frame)
  refine takeE F (i := 1) (oi := _) (v := ?v1a) rfl (by kernel_rfl) (by kernel_rfl) (by rfl) (fun _ _ _ h => h) hS (Or.inl ⟨by rfl, ?y1a⟩) ?r1a
  case y1a => (intro w9 hSw; (go_simp <;> (try with_reducible rfl)))
  (try simp only [List.getElem_toArray, List.getElem_cons_succ, List.getElem_cons_zero])
  (try go_frame)
  refine takeE F (i := 2) (oi := _) (v := ?v2a) rfl (by kernel_rfl) (by kernel_rfl) (by rfl) (fun _ _ _ h => h) hS (Or.inl ⟨by rfl, ?y2a⟩) ?r2a
  case y2a => (intro w9 hSw; (go_simp <;> (try with_reducible rfl)))
  (try simp only [List.getElem_toArray, List.getElem_cons_succ, List.getElem_cons_zero])
  (try go_frame)
  refine takeE F (i := 3) (oi := _) (v := _) rfl (by kernel_rfl) (by kernel_rfl) (by rfl) (fun _ _ _ h => h) hS (ys_stmt (by rfl) _ rfl w.heap.size rfl C hC24 fun W q => row_below (unhide HR1) q) ?r3a
  (try simp only [List.getElem_toArray, List.getElem_cons_succ, List.getElem_cons_zero])
  (try go_frame)
  refine takeE F (i := 5) (oi := _) (v := ?v5a) rfl (by kernel_rfl) (by kernel_rfl) (by rfl) (fun _ _ _ h => h) hS (Or.inl ⟨by rfl, ?y5a⟩) ?r5a
  case y5a => (intro w9 hSw; (go_simp <;> (try with_reducible rfl)))
  (try simp only [List.getElem_toArray, List.getElem_cons_succ, List.getElem_cons_zero])
  (try go_frame)
  refine stepQ 4 (fun K3 hK3 => ?_)
  go_simp
  refine (unhide HW _ (bnext (unhide HB1) hS)).mono ?_
  rintro e w5 ⟨rfl, hb5⟩
  have hS5 := bnext hS hb5
  refine hK3 _ _ hS5 ?_
  refine lastE (by kernel_rfl) rfl (by kernel_rfl) (fun K4 hK4 => ?_)
  go_simp
  refine (tell_M ((unhide HM).later (bnext (unhide HB1) hS5)) er (i : Int)).mono ?_
  rintro e w6 ⟨rfl, hb6, hM6⟩
  refine hK4 _ _ ?_
  (try go_frame)
  have HZ : Hid (CkM B z bl bf n pv (c.alone (i : Int) S) w6 ∧ Below B w w6) := hide (⟨by rw [unhide HE]; exact hM6, ((bnext (unhide HB1) hS5).mono hBw).trans (hb6.belowB (unhide HM).oz (by have := (bnext (unhide HB1) hS5).size; omega))⟩)
  clear hb6 hM6 hS5 hb5 hK3 hK4 hS F
  go_wp2_with fail
  go_end0
  exact ⟨rfl, unhide HZ⟩
theorem setRow_other1 (w : World) (g i : Nat) (cs : Array Value) (h : i ≠ g) : (w.setRow g cs).heap[i]? = w.heap[i]? := by
  simp only [World.setRow]
  rw [Array.getElem?_modify]
  simp [Ne.symm h]
theorem row_setRow {w : World} {g : Nat} {c c' : Array Value} {t : TypeId} (h : w.heap[g]? = some (.cells c t (0, 0))) : (w.setRow g c').heap[g]? = some (.cells c' t (0, 0)) := by
  simp only [World.setRow]
  rw [Array.getElem?_modify, h]
  simp
theorem below_row1 {B g : Nat} {a w : World} {cs : Array Value} (h : Below B a w) (hg : B ≤ g) : Below B a (w.setRow g cs) :=
  ⟨h.os, h.tape, h.output, by simpa [World.setRow] using h.size, fun k hk => (setRow_other1 w g k cs (by omega)).trans (h.block k hk)⟩
theorem ps_cell (D : SV) : D.cells.toList[19]? = some (.slice D.ps.xa D.ps.l.length D.ps.cap) := rfl
theorem sv_one (D : SV) : D.cells.all (·.oneCell') = true := by simp [SV.cells, NL.v, Value.oneCell']
set_option maxRecDepth 100000 in
set_option maxHeartbeats 4000000 in
theorem wrongCall_any (T : PT) (w : World) (B z bl bf n : Nat) (V : PV) (P : List SV) (c : CS) (hT : T.In w) (hE : Env B w V P) (hM : CkM B z bl bf n (V.v P.length) c w) (hG : Good P P.length c) :
    Calls Tryd.prog 40 #[.pointer (some ⟨z, 0, none⟩), pv T] w fun e w' => e = .returned (.int .i64 (wCall P c.ff T)) ∧ Below w.heap.size w w' := by
  have hBw := hM.le
  have hzw : z < w.heap.size := hM.zlt
  have htn := hT.name
  have hmx := hT.max
  unfold maxLen at hmx
  have HM := hide hM
  have HE := hide hE
  have HG := hide hG
  have HBU := hide (fun W => builtin_any T.nm W)
  have HIF := hide (fun W (h : CkM B z bl bf n (V.v P.length) c W) => isFunction_any (o := 2) h.c3 h.fns htn)
  have HWC : Hid (wCall P c.ff T = if blt T.nm ≠ -1 then (if (T.len : Int) = blt T.nm then 0 else 5) else match c.ff T.nm with | none => 7 | some x => if parN P x < T.len then 5 else 0) := hide (rfl)
  generalize wCall P c.ff T = R at *
  unfold pv
  obtain ⟨w1, hw1⟩ : ∃ w1, w1 = w.alloc (.cells #[.int .i64 T.k, .string T.t, .int .i64 T.n, .string T.nm, .slice T.xa T.len T.cap] 43) := ⟨_, rfl⟩
  have hb1 : Below w.heap.size w w1 := by rw [hw1]; exact ba _
  have hr1 : w1.heap[w.heap.size]? = some (.cells #[.int .i64 T.k, .string T.t, .int .i64 T.n, .string T.nm, .slice T.xa T.len T.cap] 43 (0, 0)) := by rw [hw1]; exact at_new rfl
  have HB1 := hide hb1
  have HR1 := hide hr1
  have HRW := hide hw1
  have d3 : w1.cell? ⟨w.heap.size, 3, none⟩ = some (.string T.nm) := cr hr1
  have d4 : w1.cell? ⟨w.heap.size, 4, none⟩ = some (.slice T.xa T.len T.cap) := cr hr1
  have HM1 := hide (hM.later hb1)
  have z3 := (hM.later hb1).c3
  clear hT hE hM hG hb1 hr1 hw1
  go_enter Tryd.func40, Tryd.ntmps40
  go_wp2_with fail
  rw [show w.alloc (.cells #[.int .i64 T.k, .string T.t, .int .i64 T.n, .string T.nm, .slice T.xa T.len T.cap] 43) = w1 from (unhide HRW).symm]
  refine (unhide HBU _).mono ?_
  rintro e w1 ⟨rfl, rfl⟩
  by_cases hq : blt T.nm = -1
  · have qn : (blt T.nm != -1) = false := by rw [bne, beq_iff_eq.2 hq]; rfl
    have HQ := hide hq
    clear hq
    generalize blt T.nm = bb at *
    cases hf : c.ff T.nm with
    | none =>
      have HR : Hid (R = 7) := hide (by rw [unhide HWC, if_neg (fun q => q (unhide HQ)), hf])
      simp only [hf] at HIF
      clear hf
      go_wp2_with fail
      go_quiet (first | (go_at_call 35; exact Calls.quiet_of_same (unhide HIF _ ((unhide HM1).same (World.heap_drewN _ _)))))
      have HB2 := hide (below_drewN (unhide HB1) nq)
      generalize w1.drewN nq = w2 at *
      go_wp2_with fail
      go_ret
      exact ⟨by rw [unhide HR]; rfl, unhide HB2⟩
    | some x =>
      obtain ⟨m, D, rfl, hm, hD, hD7⟩ := (unhide HG).fun_ _ _ hf
      have HR : Hid (R = if D.ps.l.length < T.len then 5 else 0) := hide (by rw [unhide HWC, if_neg (fun q => q (unhide HQ)), hf]; simp only [parN, Int.toNat_natCast, hD])
      have hgd : (c.ff T.nm).getD 0 = (m : Int) := by rw [hf]; rfl
      simp only [hf] at HIF
      clear hf hD7
      go_wp2_with fail
      go_quiet (first | (go_at_call 35; exact Calls.quiet_of_same (unhide HIF _ ((unhide HM1).same (World.heap_drewN _ _)))))
      have hh2 : (w1.drewN nq).heap = w1.heap := World.heap_drewN _ _
      have HB2 := hide (below_drewN (unhide HB1) nq)
      generalize w1.drewN nq = w2 at *
      have HM2 := hide ((unhide HM1).same hh2)
      have HR2 : Hid (w2.heap[w.heap.size]? = some (.cells #[.int .i64 T.k, .string T.t, .int .i64 T.n, .string T.nm, .slice T.xa T.len T.cap] 43 (0, 0))) := hide (by rw [hh2]; exact unhide HR1)
      have hpm := ((unhide HE).prog w2 ((unhide HB2).mono hBw))
      have hat := hpm.at_ (by omega)
      have hV := hpm.max
      unfold maxLen at hV
      have hcap := hpm.cap
      have HROW := hide (fun W (q : Below w2.heap.size w2 W) => (((unhide HE).prog W (((unhide HB2).mono hBw).trans (q.mono (by have := (unhide HB2).size; omega)))).row m D hD).1)
      have HPS := hide (ps_cell D)
      have HON := hide (sv_one D)
      have hD24 : D.cells.toList.length = 24 := sv_size D
      obtain ⟨L, hL⟩ : ∃ L, L = D.cells.toList := ⟨_, rfl⟩
      have HC : Hid (L.toArray = D.cells) := hide (by rw [hL])
      rw [← hL] at HROW HPS hD24
      rw [← unhide HC] at HON
      have hix : ∀ w, (Instr.indexAt 22 (V.v P.length) (.int .i64 (m : Int))).run Tryd.prog w = .ok (.pointer (some ⟨V.gb, V.ob + m * 24, none⟩)) w := fun w => by unfold PV.v; rw [hat]; exact idx24 hm w
      have HCZ := hide (fun W (q : Below w2.heap.size w2 W) => (unhide HM2).later q)
      have HCB := hide (fun W (q : Below w2.heap.size w2 W) => row_below (unhide HR2) q)
      clear hh2 hpm hL d3 d4 z3 HR1 HM1
      go_wp2_with fail
      have hS : Below w2.heap.size w2 w2.drew := (Below.refl _ _).drew
      refine startQ 15 (fun W => Below w2.heap.size w2 W) ?_
      intro F
      refine takeE F (i := 0) (oi := _) (v := ?v0b) rfl (by kernel_rfl) (by kernel_rfl) (by rfl) (fun _ _ _ h => h) hS (Or.inl ⟨by rfl, ?y0b⟩) ?r0b
      case y0b => (intro w9 hSw; (go_simp <;> (try with_reducible rfl)))
      (try simp only [List.getElem_toArray, List.getElem_cons_zero])
      (try go_frame)
      refine takeE F (i := 1) (oi := _) (v := ?v1b) rfl (by kernel_rfl) (by kernel_rfl) (by rfl) (fun _ _ _ h => h) hS (Or.inl ⟨by rfl, ?y1b⟩) ?r1b
      case y1b => (intro w9 hSw; (go_simp <;> (try with_reducible rfl)))
      (try simp only [List.getElem_toArray, List.getElem_cons_succ, List.getElem_cons_zero])
      (try go_frame)
      refine takeE F (i := 2) (oi := _) (v := ?v2b) rfl (by kernel_rfl) (by kernel_rfl) (by rfl) (fun _ _ _ h => h) hS (Or.inl ⟨by rfl, ?y2b⟩) ?r2b
      case y2b => (intro w9 hSw; (go_simp <;> (try with_reducible rfl)))
      (try simp only [List.getElem_toArray, List.getElem_cons_succ, List.getElem_cons_zero])
      (try go_frame)
      refine takeE F (i := 3) (oi := _) (v := ?v3b) rfl (by kernel_rfl) (by kernel_rfl) (by rfl) (fun _ _ _ h => h) hS (Or.inl ⟨by rfl, ?y3b⟩) ?r3b
      case y3b => (intro w9 hSw; have h4 := (unhide HCZ w9 hSw).c4; (go_simp <;> (try with_reducible rfl)))
      (try simp only [List.getElem_toArray, List.getElem_cons_succ, List.getElem_cons_zero])
      (try go_frame)
      refine takeE F (i := 4) (oi := _) (v := ?v4b) rfl (by kernel_rfl) (by kernel_rfl) (by rfl) (fun _ _ _ h => h) hS (Or.inl ⟨by rfl, ?y4b⟩) ?r4b
      case y4b => (intro w9 hSw; (go_simp <;> (try with_reducible rfl)))
      (try simp only [List.getElem_toArray, List.getElem_cons_succ, List.getElem_cons_zero])
      (try go_frame)
      refine takeE F (i := 5) (oi := _) (v := ?v5b) rfl (by kernel_rfl) (by kernel_rfl) (by rfl) (fun _ _ _ h => h) hS (Or.inl ⟨by rfl, ?y5b⟩) ?r5b
      case y5b => (intro w9 hSw; (go_simp <;> (try with_reducible rfl)))
      (try simp only [List.getElem_toArray, List.getElem_cons_succ, List.getElem_cons_zero])
      (try go_frame)
      refine takeE F (i := 6) (oi := _) (v := ?v6b) rfl (by kernel_rfl) (by kernel_rfl) (by rfl) (fun _ _ _ h => h) hS (Or.inl ⟨by rfl, ?y6b⟩) ?r6b
      case y6b => (intro w9 hSw; (go_simp <;> (try with_reducible rfl)))
      (try simp only [List.getElem_toArray, List.getElem_cons_succ, List.getElem_cons_zero])
      (try go_frame)
      refine takeE F (i := 7) (oi := _) (v := ?v7b) rfl (by kernel_rfl) (by kernel_rfl) (by rfl) (fun _ _ _ h => h) hS (Or.inl ⟨by rfl, ?y7b⟩) ?r7b
      case y7b => (intro w9 hSw; (go_simp <;> (try with_reducible rfl)))
      (try simp only [List.getElem_toArray, List.getElem_cons_succ, List.getElem_cons_zero])
      (try go_frame)
      refine takeE F (i := 8) (oi := _) (v := ?v8b) rfl (by kernel_rfl) (by kernel_rfl) (by rfl) (fun _ _ _ h => h) hS (Or.inl ⟨by rfl, ?y8b⟩) ?r8b
      case y8b => (intro w9 hSw; have h3 := (unhide HCZ w9 hSw).c3; (go_simp <;> (try with_reducible rfl)))
      (try simp only [List.getElem_toArray, List.getElem_cons_succ, List.getElem_cons_zero])
      (try go_frame)
      refine takeE F (i := 9) (oi := _) (v := ?v9b) rfl (by kernel_rfl) (by kernel_rfl) (by rfl) (fun _ _ _ h => h) hS (Or.inl ⟨by rfl, ?y9b⟩) ?r9b
      case y9b => (intro w9 hSw; (go_simp <;> (try with_reducible rfl)))
      (try simp only [List.getElem_toArray, List.getElem_cons_succ, List.getElem_cons_zero])
      (try go_frame)
      refine takeE F (i := 10) (oi := _) (v := ?v10b) rfl (by kernel_rfl) (by kernel_rfl) (by rfl) (fun _ _ _ h => h) hS (Or.inl ⟨by rfl, ?y10b⟩) ?r10b
      case y10b => (intro w9 hSw; have h3 : w9.cell? ⟨w.heap.size, 3, none⟩ = some (.string T.nm) := (cell_of_row _ _ _ _ _ _ (unhide HCB w9 hSw)).trans rfl; (go_simp <;> (try with_reducible rfl)))
      (try simp only [List.getElem_toArray, List.getElem_cons_succ, List.getElem_cons_zero])
      (try go_frame)
      refine takeE F (i := 11) (oi := _) (v := ?v11b) rfl (by kernel_rfl) (by kernel_rfl) (by rfl) (fun _ _ _ h => h) hS ?y11b ?r11b
      case y11b =>
        (try simp only [List.getElem_toArray, List.getElem_cons_succ, List.getElem_cons_zero])
        refine ys_to (ys_look (by rfl) _ _ rfl rfl T.nm rfl htn (fun W q => (unhide HCZ W q).fns)) ?_
        with_reducible rfl
      (try simp only [List.getElem_toArray, List.getElem_cons_succ, List.getElem_cons_zero])
      (try go_frame)
      rw [hgd]
      refine takeE F (i := 12) (oi := _) (v := ?v12b) rfl (by kernel_rfl) (by kernel_rfl) (by rfl) (fun _ _ _ h => h) hS (Or.inl ⟨by rfl, ?y12b⟩) ?r12b
      case y12b => (intro w9 hSw; (go_simp <;> (try with_reducible rfl)))
      (try simp only [List.getElem_toArray, List.getElem_cons_succ, List.getElem_cons_zero])
      (try go_frame)
      refine takeE F (i := 13) (oi := _) (v := ?v13b) rfl (by kernel_rfl) (by kernel_rfl) (by rfl) (fun _ _ _ h => h) hS ?y13b ?r13b
      case y13b =>
        (try simp only [List.getElem_toArray, List.getElem_cons_succ, List.getElem_cons_zero])
        refine ys_to (ys_mid (by rfl) _ rfl V.gb (V.ob + m * 24) rfl L hD24 (fun W q => unhide HROW W q)) ?_
        with_reducible rfl
      (try simp only [List.getElem_toArray, List.getElem_cons_succ, List.getElem_cons_zero])
      (try go_frame)
      refine stepQ 14 (fun K3 hK3 => ?_)
      go_simp
      refine hK3 _ _ (hS.alloc (Nat.le_refl _) _) ?_
      refine lastE (by kernel_rfl) rfl (by kernel_rfl) (fun K4 hK4 => ?_)
      refine wanted_op2 rfl (wp_store_row 49 _ _ rfl _ L.toArray rfl rfl 49 _ (at_new rfl) (size_stmt.trans (by rw [List.size_toArray, hD24])) (by rw [show L.toArray.size = 24 from List.size_toArray.trans hD24]; rfl) (unhide HON) ?_)
      refine hK4 _ _ ?_
      (try simp only [List.getElem_toArray, List.getElem_cons_succ, List.getElem_cons_zero])
      (try go_frame)
      clear hK4 hK3 hix F hS
      generalize hw3 : World.setRow _ _ _ = w3
      have hb3 : Below w2.heap.size w2 w3 := by rw [← hw3]; exact below_row1 (ba _).drew (Nat.le_refl _)
      have hr3 : w3.heap[w2.heap.size]? = some (.cells L.toArray 49 (0, 0)) := by rw [← hw3]; exact row_setRow (at_new rfl)
      have d4 : w3.cell? ⟨w.heap.size, 4, none⟩ = some (.slice T.xa T.len T.cap) := (cell_of_row _ _ _ _ _ _ (unhide HCB w3 hb3)).trans rfl
      have d19 : w3.cell? ⟨w2.heap.size, 19, none⟩ = some (.slice D.ps.xa D.ps.l.length D.ps.cap) := by rw [cell_of_row _ _ _ _ _ _ hr3, List.getElem?_toArray]; exact unhide HPS
      have HZ := hide (bnext (unhide HB2) hb3)
      clear hw3 hb3 hr3
      generalize D.ps.l.length = np at *
      by_cases hl : np < T.len
      · have HR5 : Hid (R = 5) := hide (by rw [unhide HR, if_pos hl])
        have ql : (np : Int) < (T.len : Int) := by omega
        clear hl HR
        go_wp2_with fail
        go_ret
        exact ⟨by rw [unhide HR5]; rfl, unhide HZ⟩
      · have HR0 : Hid (R = 0) := hide (by rw [unhide HR, if_neg hl])
        have ql : ¬ (np : Int) < (T.len : Int) := by omega
        clear hl HR
        go_wp2_with fail
        go_ret
        exact ⟨by rw [unhide HR0]; rfl, unhide HZ⟩
  · have qn : (blt T.nm != -1) = true := by rw [bne, beq_eq_false_iff_ne.2 hq]; rfl
    by_cases hl : (T.len : Int) = blt T.nm
    · have HR : Hid (R = 0) := hide (by rw [unhide HWC, if_pos hq, if_pos hl])
      have ql : ((T.len : Int) != blt T.nm) = false := by rw [bne, beq_iff_eq.2 hl]; rfl
      clear hq hl HWC
      generalize blt T.nm = bb at *
      go_wp2_with fail
      go_ret
      exact ⟨by rw [unhide HR]; rfl, unhide HB1⟩
    · have HR : Hid (R = 5) := hide (by rw [unhide HWC, if_pos hq, if_neg hl])
      have ql : ((T.len : Int) != blt T.nm) = true := by rw [bne, beq_eq_false_iff_ne.2 hl]; rfl
      clear hq hl HWC
      generalize blt T.nm = bb at *
      go_wp2_with fail
      go_ret
      exact ⟨by rw [unhide HR]; rfl, unhide HB1⟩
set_option maxRecDepth 100000 in
set_option maxHeartbeats 4000000 in
theorem folC_any (T : PT) (w : World) (B z bl bf n x y i : Nat) (V : PV) (P : List SV) (c : CS) (hT : T.In w) (hE : Env B w V P) (hM : CkM B z bl bf n (V.v P.length) c w) (hG : Good P P.length c) (cx : w.cell? ⟨x, 0, none⟩ = some (.pointer (some ⟨z, 0, none⟩))) (cy : w.cell? ⟨y, 0, none⟩ = some (.int .i64 (i : Int))) :
    Calls Tryd.prog 39 #[pv T, .pointer (some ⟨x, 0, none⟩), .pointer (some ⟨y, 0, none⟩)] w fun e w' => e = .returned (.tuple #[]) ∧ CkM B z bl bf n (V.v P.length) (CS.folC P (i : Int) c T) w' ∧ But z w w' := by
  have hBw := hM.le
  have hzw : z < w.heap.size := hM.zlt
  have HM := hide hM
  have HW := hide (fun W (q : Below w.heap.size w W) => wrongCall_any T W B z bl bf n V P c (PT.In.later q hT) (hE.next (q.mono hBw)) (hM.later q) hG)
  have HE : Hid (CS.folC P (i : Int) c T = c.tell (wCall P c.ff T) (i : Int)) := hide (rfl)
  generalize wCall P c.ff T = er at *
  generalize V.v P.length = pvv at *
  unfold pv at HW ⊢
  obtain ⟨w1, hw1⟩ : ∃ w1, w1 = w.alloc (.cells #[.int .i64 T.k, .string T.t, .int .i64 T.n, .string T.nm, .slice T.xa T.len T.cap] 43) := ⟨_, rfl⟩
  have hb1 : Below w.heap.size w w1 := by rw [hw1]; exact ba _
  have hr1 : w1.heap[w.heap.size]? = some (.cells #[.int .i64 T.k, .string T.t, .int .i64 T.n, .string T.nm, .slice T.xa T.len T.cap] 43 (0, 0)) := by rw [hw1]; exact at_new rfl
  have HB1 := hide hb1
  have HRW := hide hw1
  have HCX := hide (fun W (q : Below w1.heap.size w1 W) => cell_later (bnext hb1 q) cx)
  have HCY := hide (fun W (q : Below w1.heap.size w1 W) => cell_later (bnext hb1 q) cy)
  have HR1 := hide hr1
  clear hT hE hM hG hb1 hr1 hw1 cx cy
  go_enter Tryd.func39, Tryd.ntmps39
  go_wp2_with fail
  rw [show w.alloc (.cells #[.int .i64 T.k, .string T.t, .int .i64 T.n, .string T.nm, .slice T.xa T.len T.cap] 43) = w1 from (unhide HRW).symm]
  have hS : Below w1.heap.size w1 w1.drew := (Below.refl _ _).drew
  refine startQ 7 (fun W => Below w1.heap.size w1 W) ?_
  intro F
  refine takeE F (i := 0) (oi := _) (v := ?v0c) rfl (by kernel_rfl) (by kernel_rfl) (by rfl) (fun _ _ _ h => h) hS (Or.inl ⟨by rfl, ?y0c⟩) ?r0c
  case y0c => (intro w9 hSw; have g := unhide HCX w9 hSw; (go_simp <;> (try with_reducible rfl)))
  (try simp only [List.getElem_toArray, List.getElem_cons_zero])
  (try go_frame)
  refine takeE F (i := 1) (oi := _) (v := ?v1c) rfl (by kernel_rfl) (by kernel_rfl) (by rfl) (fun _ _ _ h => h) hS (Or.inl ⟨by rfl, ?y1c⟩) ?r1c
  case y1c => (intro w9 hSw; (go_simp <;> (try with_reducible rfl)))
  (try simp only [List.getElem_toArray, List.getElem_cons_succ, List.getElem_cons_zero])
  (try go_frame)
  refine takeE F (i := 2) (oi := _) (v := ?v2c) rfl (by kernel_rfl) (by kernel_rfl) (by rfl) (fun _ _ _ h => h) hS (Or.inl ⟨by rfl, ?y2c⟩) ?r2c
  case y2c => (intro w9 hSw; (go_simp <;> (try with_reducible rfl)))
  (try simp only [List.getElem_toArray, List.getElem_cons_succ, List.getElem_cons_zero])
  (try go_frame)
  refine takeE F (i := 3) (oi := _) (v := ?v3c) rfl (by kernel_rfl) (by kernel_rfl) (by rfl) (fun _ _ _ h => h) hS (Or.inl ⟨by rfl, ?y3c⟩) ?r3c
  case y3c => (intro w9 hSw; have g := unhide HCX w9 hSw; (go_simp <;> (try with_reducible rfl)))
  (try simp only [List.getElem_toArray, List.getElem_cons_succ, List.getElem_cons_zero])
  (try go_frame)
  refine takeE F (i := 4) (oi := _) (v := ?v4c) rfl (by kernel_rfl) (by kernel_rfl) (by rfl) (fun _ _ _ h => h) hS (Or.inl ⟨by rfl, ?y4c⟩) ?r4c
  case y4c => (intro w9 hSw; have g0 : w9.cell? ⟨w.heap.size, 0, none⟩ = some (.int .i64 T.k) := (cell_of_row _ _ _ _ _ _ (row_below (unhide HR1) hSw)).trans rfl; have g1 : w9.cell? ⟨w.heap.size, 1, none⟩ = some (.string T.t) := (cell_of_row _ _ _ _ _ _ (row_below (unhide HR1) hSw)).trans rfl; have g2 : w9.cell? ⟨w.heap.size, 2, none⟩ = some (.int .i64 T.n) := (cell_of_row _ _ _ _ _ _ (row_below (unhide HR1) hSw)).trans rfl; have g3 : w9.cell? ⟨w.heap.size, 3, none⟩ = some (.string T.nm) := (cell_of_row _ _ _ _ _ _ (row_below (unhide HR1) hSw)).trans rfl; have g4 : w9.cell? ⟨w.heap.size, 4, none⟩ = some (.slice T.xa T.len T.cap) := (cell_of_row _ _ _ _ _ _ (row_below (unhide HR1) hSw)).trans rfl; (go_simp <;> (try with_reducible rfl)))
  (try simp only [List.getElem_toArray, List.getElem_cons_succ, List.getElem_cons_zero])
  (try go_frame)
  refine takeE F (i := 6) (oi := _) (v := ?v6c) rfl (by kernel_rfl) (by kernel_rfl) (by rfl) (fun _ _ _ h => h) hS (Or.inl ⟨by rfl, ?y6c⟩) ?r6c
  case y6c => (intro w9 hSw; have g := unhide HCY w9 hSw; (go_simp <;> (try with_reducible rfl)))
  (try simp only [List.getElem_toArray, List.getElem_cons_succ, List.getElem_cons_zero])
  (try go_frame)
  refine stepQ 5 (fun K3 hK3 => ?_)
  go_simp
  refine (unhide HW _ (bnext (unhide HB1) hS)).mono ?_
  rintro e w5 ⟨rfl, hb5⟩
  have hS5 := bnext hS hb5
  refine hK3 _ _ hS5 ?_
  refine lastE (by kernel_rfl) rfl (by kernel_rfl) (fun K4 hK4 => ?_)
  go_simp
  refine (tell_M ((unhide HM).later (bnext (unhide HB1) hS5)) er (i : Int)).mono ?_
  rintro e w6 ⟨rfl, hb6, hM6⟩
  refine hK4 _ _ ?_
  (try go_frame)
  have HZ : Hid (CkM B z bl bf n pvv (CS.folC P (i : Int) c T) w6 ∧ But z w w6) := hide (⟨by rw [unhide HE]; exact hM6, (But.of_below (bnext (unhide HB1) hS5)).trans hb6⟩)
  clear hb6 hM6 hS5 hb5 hK3 hK4 hS F
  go_wp2_with fail
  go_end0
  exact ⟨rfl, unhide HZ⟩
end Go.Proofs.YtpphjddljngkmaaDoor
