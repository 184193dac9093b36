/- Who lays instructions, in memory; one more is laid. -/
import Derived.Test.YtpclpjcemeckgaaDoorCkU0
import Derived.Test.YtpclpjcemeckgaaDoorCdP
import Derived.Test.YtpclpjcemeckgaaDoorClone4
namespace Go.Proofs.YtpclpjcemeckgaaDoor
open Go.RowKit

/-- Who lays instructions: the program, its labels; what is laid, and where statements begin. -/
structure MkM (B z bl n : Nat) (pv : Value) (fl : ByteArray → Option Int) (out : List IN) (sts : List Nat) (w : World) : Prop where
  blk : ∃ ov sv, w.heap[z]? = some (.cells #[pv, .map (some bl), ov, sv] 51 (0, 0)) ∧ Row w B 33 4 iC ov out ∧ Row w B 3 1 nI sv sts
  lab : MI w bl n fl
  oz : B ≤ z
  ol : B ≤ bl
def MkPost (B z bl n : Nat) (pv : Value) (fl : ByteArray → Option Int) (out : List IN) (sts : List Nat) (w : World) (e : Ending) (w' : World) : Prop := e = .returned (.tuple #[]) ∧ MkM B z bl n pv fl out sts w' ∧ Below B w w'
theorem step_rowL {α : Type} {f : α → List Value} {sz bytes : Nat} {z : Value} {t e : TypeId} (hu : Tryd.prog.underlying t = some (.slice e)) (hinf : (Tryd.prog.info? e).map (fun i => (i.zero, i.size, i.bytes)) = some (some z, sz, bytes)) (hz : z.cells.size = sz) (hsz : 0 < sz) (hby : bytes ≤ 1000) (hf : ∀ x, (f x).length = sz) (h1 : ∀ x, ∀ u ∈ f x, u.oneCell' = true)
    {w : World} {ops : Array Oper} {o : Oper} {a : Act} {K : Act → World → Prop} {Q : Exit → Act → World → Prop} {E : Prop} (hgd : o.guard = none) (s x : Operand)
    (ho : o.op = .call { callee := .builtin .append, args := #[s, x], argTypes := #[t, t] }) {B : Nat} {v : Value} {l : List α} (h : Row w B e sz f v l) (hB : B ≤ w.heap.size) (y : α) (g c : Nat) (hs : a.eval s = v) (hx : a.eval x = .slice (some ⟨g, 0, none⟩) 1 c) (hc : ∀ k u, (f y)[k]? = some u → w.cell? ⟨g, k, none⟩ = some u) (hl : l.length ≤ 100000000000)
    (hK : ∀ v' w', Row w' B e sz f v' (l ++ [y]) → w.grownBy w' v.ownBlock → (v'.ownBlock = v.ownBlock ∨ v'.ownBlock = some w.heap.size) → K (a.put o.dst v') w') :
    if Region.wanted o (yielded ops a.tmps) = true then Oper.wp Tryd.prog o a w K Q else E := by
  have hw : Region.wanted o (yielded ops a.tmps) = true := by simp [Region.wanted, hgd]
  rw [if_pos hw]
  obtain ⟨v', w', hr, h2, h3, h4⟩ := append_row hu hinf hz hsz hby hf h1 h hB y g c hc hl o.type
  unfold Oper.wp execOp
  simp only [ho, resolve, invoke, builtin, Sem.run_bind, Sem.run_pure, Result.andThen_ok, List.map_toArray, List.map_cons, List.map_nil, hs, hx, hr]
  exact hK v' w' h2 h3 h4
theorem iC_len : ∀ x, (iC x).length = 4 := fun _ => rfl
theorem iC_one : ∀ (x : IN), ∀ u ∈ iC x, u.oneCell' = true := fun x u hu => by
  unfold iC at hu
  simp only [List.mem_cons, List.not_mem_nil, or_false] at hu
  rcases hu with rfl | rfl | rfl | rfl <;> rfl
theorem instrRow : (Tryd.prog.info? 33).map (fun i => (i.zero, i.size, i.bytes)) = some (some (.agg #[.int .i64 0, .string ⟨#[]⟩, .int .i64 0, .int .i64 0]), 4, 40) := by kernel_rfl
theorem size_instr : (Tryd.prog.info? 33).map (·.size) = some 4 := by kernel_rfl
def iA (x : IN) : Array Value := #[.int .i64 x.op, .string x.t, .int .i64 x.n, .int .i64 x.tg]
def iV (x : IN) : Value := .agg (iA x)
theorem iC_cell {w : World} {g : Nat} {x : IN} (h : w.heap[g]? = some (.cells (iA x) 33 (0, 0))) : ∀ k u, (iC x)[k]? = some u → w.cell? ⟨g, k, none⟩ = some u := fun k u hu => by
  rw [cell_of_row _ _ _ _ _ _ h, ← hu, show iA x = (iC x).toArray from rfl, List.getElem?_toArray]
section
variable {B z bl n : Nat} {pv : Value} {fl : ByteArray → Option Int} {out : List IN} {sts : List Nat} {w w' : World}
theorem MkM.zlt (h : MkM B z bl n pv fl out sts w) : z < w.heap.size := by obtain ⟨ov, sv, h1, -⟩ := h.blk; exact (Array.getElem?_eq_some_iff.1 h1).1
theorem MkM.le (h : MkM B z bl n pv fl out sts w) : B ≤ w.heap.size := by have := h.zlt; have := h.oz; omega
theorem MkM.later (h : MkM B z bl n pv fl out sts w) (hb : Below w.heap.size w w') : MkM B z bl n pv fl out sts w' := by
  obtain ⟨ov, sv, h1, h2, h3⟩ := h.blk
  exact ⟨⟨ov, sv, row_below h1 hb, h2.later hb, h3.later hb⟩, h.lab.below (hb.block _ h.lab.lt), h.oz, h.ol⟩
theorem MkM.same (h : MkM B z bl n pv fl out sts w) (hb : w'.heap = w.heap) : MkM B z bl n pv fl out sts w' := by
  obtain ⟨ov, sv, h1, h2, h3⟩ := h.blk
  exact ⟨⟨ov, sv, by rw [hb]; exact h1, h2.same (fun k _ => by rw [hb]), h3.same (fun k _ => by rw [hb])⟩, h.lab.below (by rw [hb]), h.oz, h.ol⟩
theorem MkM.c0 (h : MkM B z bl n pv fl out sts w) : w.cell? ⟨z, 0, none⟩ = some pv := by obtain ⟨ov, sv, h1, -⟩ := h.blk; rw [cell_of_row _ _ _ _ _ _ h1]; rfl
theorem MkM.c1 (h : MkM B z bl n pv fl out sts w) : w.cell? ⟨z, 1, none⟩ = some (.map (some bl)) := by obtain ⟨ov, sv, h1, -⟩ := h.blk; rw [cell_of_row _ _ _ _ _ _ h1]; rfl
/-- One more instruction lies there. -/
theorem MkM.put (h : MkM B z bl n pv fl out sts w) {w1 w6 : World} {ov sv v' : Value} {x : IN} (hov : w.heap[z]? = some (.cells #[pv, .map (some bl), ov, sv] 51 (0, 0))) (hro : Row w B 33 4 iC ov out) (hsv : Row w B 3 1 nI sv sts)
    (hb1 : Below w.heap.size w w1) (hrow : Row w6 B 33 4 iC v' (out ++ [x])) (hg : w1.grownBy w6 ov.ownBlock) : MkM B z bl n pv fl (out ++ [x]) sts (w6.setCell ⟨z, 2, none⟩ v') ∧ Below B w (w6.setCell ⟨z, 2, none⟩ v') := by
  have hzl := h.zlt
  have hmid : ∀ k, k < w.heap.size → some k ≠ ov.ownBlock → w6.heap[k]? = w.heap[k]? := fun k h1 h2 => (hg.block k (by have := hb1.size; omega) h2).trans (hb1.block k h1)
  have hz6 : w6.heap[z]? = some (.cells #[pv, .map (some bl), ov, sv] 51 (0, 0)) := (hmid z hzl (hro.neBlk hov (by decide))).trans hov
  have hall : ∀ k, k < w.heap.size → k ≠ z → some k ≠ ov.ownBlock → (w6.setCell ⟨z, 2, none⟩ v').heap[k]? = w.heap[k]? := fun k h1 h2 h3 => (heap_setCell_other w6 ⟨z, 2, none⟩ k v' h2).trans (hmid k h1 h3)
  have hnb : ∀ {b m f}, MI w b m f → some b ≠ ov.ownBlock := fun {b m f} hm e => by
    obtain ⟨cur, hc⟩ := hro.type e.symm
    exact map_ne hm hc rfl
  refine ⟨⟨⟨v', sv, heap_setCell_same w6 z 2 _ _ v' hz6, hrow.same fun k hk => heap_setCell_other w6 ⟨z, 2, none⟩ k v' (by
    obtain ⟨cur, hc⟩ := hrow.type hk
    exact row_ne hc hz6 (by decide)), hsv.same fun k hk => ?_⟩, h.lab.below (hall bl h.lab.lt (map_ne h.lab hov) (hnb h.lab)), h.oz, h.ol⟩, ⟨?_, ?_, ?_, ?_, ?_⟩⟩
  · obtain ⟨cur, hc⟩ := hsv.type hk
    exact hall k (hsv.low hk).2 (row_ne hc hov (by decide)) (hro.neBlk hc (by decide))
  · exact hg.os.trans hb1.os
  · exact hg.tape.trans hb1.tape
  · exact hg.output.trans hb1.output
  · have h1 := hg.size
    have h2 := hb1.size
    simp only [World.size_setCell]; omega
  · exact fun k hk => hall k (by have := h.le; omega) (by have := h.oz; omega) (fun e => by have := (hro.low e.symm).1; omega)
/-- One more beginning lies there. -/
theorem MkM.putS (h : MkM B z bl n pv fl out sts w) {w1 w6 : World} {ov sv v' : Value} {x : Nat} (hov : w.heap[z]? = some (.cells #[pv, .map (some bl), ov, sv] 51 (0, 0))) (hro : Row w B 33 4 iC ov out) (hsv : Row w B 3 1 nI sv sts)
    (hb1 : Below w.heap.size w w1) (hrow : Row w6 B 3 1 nI v' (sts ++ [x])) (hg : w1.grownBy w6 sv.ownBlock) : MkM B z bl n pv fl out (sts ++ [x]) (w6.setCell ⟨z, 3, none⟩ v') ∧ Below B w (w6.setCell ⟨z, 3, none⟩ v') := by
  have hzl := h.zlt
  have hmid : ∀ k, k < w.heap.size → some k ≠ sv.ownBlock → w6.heap[k]? = w.heap[k]? := fun k h1 h2 => (hg.block k (by have := hb1.size; omega) h2).trans (hb1.block k h1)
  have hz6 : w6.heap[z]? = some (.cells #[pv, .map (some bl), ov, sv] 51 (0, 0)) := (hmid z hzl (hsv.neBlk hov (by decide))).trans hov
  have hall : ∀ k, k < w.heap.size → k ≠ z → some k ≠ sv.ownBlock → (w6.setCell ⟨z, 3, none⟩ v').heap[k]? = w.heap[k]? := fun k h1 h2 h3 => (heap_setCell_other w6 ⟨z, 3, none⟩ k v' h2).trans (hmid k h1 h3)
  have hnb : ∀ {b m f}, MI w b m f → some b ≠ sv.ownBlock := fun {b m f} hm e => by
    obtain ⟨cur, hc⟩ := hsv.type e.symm
    exact map_ne hm hc rfl
  refine ⟨⟨⟨ov, v', heap_setCell_same w6 z 3 _ _ v' hz6, hro.same fun k hk => ?_, hrow.same fun k hk => heap_setCell_other w6 ⟨z, 3, none⟩ k v' (by
    obtain ⟨cur, hc⟩ := hrow.type hk
    exact row_ne hc hz6 (by decide))⟩, h.lab.below (hall bl h.lab.lt (map_ne h.lab hov) (hnb h.lab)), h.oz, h.ol⟩, ⟨?_, ?_, ?_, ?_, ?_⟩⟩
  · obtain ⟨cur, hc⟩ := hro.type hk
    exact hall k (hro.low hk).2 (row_ne hc hov (by decide)) (hsv.neBlk hc (by decide))
  · exact hg.os.trans hb1.os
  · exact hg.tape.trans hb1.tape
  · exact hg.output.trans hb1.output
  · have h1 := hg.size
    have h2 := hb1.size
    simp only [World.size_setCell]; omega
  · exact fun k hk => hall k (by have := h.le; omega) (by have := h.oz; omega) (fun e => by have := (hsv.low e.symm).1; omega)
/-- Where one leads is told. -/
theorem MkM.aim (h : MkM B z bl n pv fl out sts w) {g cap i : Nat} {sv : Value} {x : IN} {u : Int} (hov : w.heap[z]? = some (.cells #[pv, .map (some bl), .slice (some ⟨g, 0, none⟩) out.length cap, sv] 51 (0, 0))) (hro : Row w B 33 4 iC (.slice (some ⟨g, 0, none⟩) out.length cap) out) (hsv : Row w B 3 1 nI sv sts) (hx : out[i]? = some x) :
    MkM B z bl n pv fl (out.set i ⟨x.op, x.t, x.n, u⟩) sts (w.setCell ⟨g, i * 4 + 3, none⟩ (.int .i64 u)) ∧ Below B w (w.setCell ⟨g, i * 4 + 3, none⟩ (.int .i64 u)) := by
  obtain ⟨cur, hc⟩ := hro.type rfl
  have hlow := hro.low rfl
  have hall : ∀ k, k ≠ g → (w.setCell ⟨g, i * 4 + 3, none⟩ (.int .i64 u)).heap[k]? = w.heap[k]? := fun k h2 => heap_setCell_other w ⟨g, i * 4 + 3, none⟩ k _ h2
  refine ⟨⟨⟨_, sv, (hall z (row_ne hov hc (by decide))).trans hov, hro.set iC_len rfl hx (by decide) rfl, hsv.same fun k hk => ?_⟩, h.lab.below (hall bl (map_ne h.lab hc)), h.oz, h.ol⟩, below_cell (Below.refl _ _) hlow.1 _ _⟩
  obtain ⟨cur2, hc2⟩ := hsv.type hk
  exact hall k (row_ne hc2 hc (by decide))
end
set_option maxRecDepth 100000 in
set_option maxHeartbeats 4000000 in
theorem adI_any {B z bl n : Nat} {pv : Value} {fl : ByteArray → Option Int} {out : List IN} {sts : List Nat} (w : World) (x : IN) (h : MkM B z bl n pv fl out sts w) (hl : out.length ≤ 100000000) :
    Calls Tryd.prog 10 #[.pointer (some ⟨z, 0, none⟩), .agg #[.int .i64 x.op, .string x.t, .int .i64 x.n, .int .i64 x.tg]] w (MkPost B z bl n pv fl (out ++ [x]) sts w) := by
  obtain ⟨ov, sv, hov, hro, hsv⟩ := h.blk
  have hzl := h.zlt
  have hBw := h.le
  have HM := hide h
  have HOV := hide hov
  have HRO := hide hro
  have HSV := hide hsv
  obtain ⟨w1, hw1⟩ : ∃ w1, w1 = w.alloc (.cells #[.int .i64 x.op, .string x.t, .int .i64 x.n, .int .i64 x.tg] 33) := ⟨_, rfl⟩
  have hb1 : Below w.heap.size w w1 := by rw [hw1]; exact (Below.refl _ _).alloc (Nat.le_refl _) _
  have hx1 : w1.heap[w.heap.size]? = some (.cells #[.int .i64 x.op, .string x.t, .int .i64 x.n, .int .i64 x.tg] 33 (0, 0)) := by rw [hw1]; exact at_new rfl
  have hz1 : w1.heap.size = w.heap.size + 1 := by rw [hw1, World.size_alloc]
  have HB1 := hide hb1
  have HX1 := hide hx1
  have HZ1 := hide hz1
  have HW1 := hide hw1
  clear h hov hro hsv hb1 hx1 hz1 hw1
  go_enter Tryd.func10, Tryd.ntmps10
  go_wp2_with fail
  rw [show w.alloc (.cells #[.int .i64 x.op, .string x.t, .int .i64 x.n, .int .i64 x.tg] 33) = w1 from (unhide HW1).symm]
  have hS : w1.drew.heap[z]? = some (.cells #[pv, .map (some bl), ov, sv] 51 (0, 0)) ∧ w1.drew.heap[w.heap.size]? = some (.cells #[.int .i64 x.op, .string x.t, .int .i64 x.n, .int .i64 x.tg] 33 (0, 0)) := ⟨row_below (unhide HOV) (unhide HB1).drew, unhide HX1⟩
  refine startE (by kernel_rfl) 10 (fun W => W.heap[z]? = some (.cells #[pv, .map (some bl), ov, sv] 51 (0, 0)) ∧ W.heap[w.heap.size]? = some (.cells #[.int .i64 x.op, .string x.t, .int .i64 x.n, .int .i64 x.tg] 33 (0, 0))) ⟨by kernel_rfl, by kernel_rfl, by kernel_rfl, rfl⟩ ?_
  intro F
  refine takeE F (i := 0) (oi := _) (v := ?v0a) rfl (by kernel_rfl) (by kernel_rfl) (by rfl) (fun _ _ _ h => h) hS (Or.inl ⟨by rfl, ?y0a⟩) ?r0a
  case y0a => (intro w9 hSw; (go_simp <;> (try with_reducible rfl)))
  (try simp only [List.getElem_toArray, List.getElem_cons_zero])
  (try go_frame)
  refine takeE F (i := 1) (oi := _) (v := ?v1a) rfl (by kernel_rfl) (by kernel_rfl) (by rfl) (fun _ _ _ h => h) hS (Or.inl ⟨by rfl, ?y1a⟩) ?r1a
  case y1a => (intro w9 hSw; (go_simp <;> (try with_reducible rfl)))
  (try simp only [List.getElem_toArray, List.getElem_cons_succ, List.getElem_cons_zero])
  (try go_frame)
  refine takeE F (i := 2) (oi := _) (v := ?v2a) rfl (by kernel_rfl) (by kernel_rfl) (by rfl) (fun _ _ _ h => h) hS (Or.inl ⟨by rfl, ?y2a⟩) ?r2a
  case y2a => (intro w9 hSw; (go_simp <;> (try with_reducible rfl)))
  (try simp only [List.getElem_toArray, List.getElem_cons_succ, List.getElem_cons_zero])
  (try go_frame)
  refine takeE F (i := 3) (oi := _) (v := ?v3a) rfl (by kernel_rfl) (by kernel_rfl) (by rfl) (fun _ _ _ h => h) hS (Or.inl ⟨by rfl, ?y3a⟩) ?r3a
  case y3a => (intro w9 hSw; (go_simp <;> (try with_reducible rfl)))
  (try simp only [List.getElem_toArray, List.getElem_cons_succ, List.getElem_cons_zero])
  (try go_frame)
  refine takeE F (i := 4) (oi := _) (v := ?v4a) rfl (by kernel_rfl) (by kernel_rfl) (by rfl) (fun _ _ _ h => h) hS (Or.inl ⟨by rfl, ?y4a⟩) ?r4a
  case y4a => (intro w9 hSw; have g : w9.cell? ⟨z, 2, none⟩ = some ov := (cell_of_row _ _ _ _ _ _ hSw.1).trans rfl; (go_simp <;> (try with_reducible rfl)))
  (try simp only [List.getElem_toArray, List.getElem_cons_succ, List.getElem_cons_zero])
  (try go_frame)
  refine takeE F (i := 5) (oi := _) (v := ?v5a) rfl (by kernel_rfl) (by kernel_rfl) (by rfl) (fun _ _ _ h => h) hS (Or.inl ⟨by rfl, ?y5a⟩) ?r5a
  case y5a => (intro w9 hSw; have g0 : w9.cell? ⟨w.heap.size, 0, none⟩ = some (.int .i64 x.op) := (cell_of_row _ _ _ _ _ _ hSw.2).trans rfl; have g1 : w9.cell? ⟨w.heap.size, 1, none⟩ = some (.string x.t) := (cell_of_row _ _ _ _ _ _ hSw.2).trans rfl; have g2 : w9.cell? ⟨w.heap.size, 2, none⟩ = some (.int .i64 x.n) := (cell_of_row _ _ _ _ _ _ hSw.2).trans rfl; have g3 : w9.cell? ⟨w.heap.size, 3, none⟩ = some (.int .i64 x.tg) := (cell_of_row _ _ _ _ _ _ hSw.2).trans rfl; (go_simp <;> (try with_reducible rfl)))
  (try simp only [List.getElem_toArray, List.getElem_cons_succ, List.getElem_cons_zero])
  (try go_frame)
  refine stepE (i := 6) (by kernel_rfl) rfl (by rfl) (fun K3 hK3 => ?_)
  go_simp
  have HB2 := hide (show Below w1.heap.size w1 (w1.alloc (.cells #[.int .i64 x.op, .string x.t, .int .i64 x.n, .int .i64 x.tg] 33)).drew from ((Below.refl _ _).alloc (Nat.le_refl _) _).drew)
  have HR2 := hide (show (w1.alloc (.cells #[.int .i64 x.op, .string x.t, .int .i64 x.n, .int .i64 x.tg] 33)).drew.heap[w1.heap.size]? = some (.cells (iA x) 33 (0, 0)) from at_new rfl)
  refine hK3 _ _ ⟨row_below (row_below (unhide HOV) (unhide HB1)) (unhide HB2), row_below (unhide HX1) (unhide HB2)⟩ ?_
  (try simp only [List.getElem_toArray, List.getElem_cons_succ, List.getElem_cons_zero])
  (try go_frame)
  have HB3 := hide (bnext (unhide HB1) (unhide HB2))
  generalize (w1.alloc (.cells #[.int .i64 x.op, .string x.t, .int .i64 x.n, .int .i64 x.tg] 33)).drew = w2 at *
  refine stepE (i := 7) (by kernel_rfl) rfl (by rfl) (fun K4 hK4 => ?_)
  refine step_rowL Tryd.underlying24 instrRow rfl (by decide) (by decide) iC_len iC_one rfl _ _ rfl ((unhide HRO).later (unhide HB3)) (by have := (unhide HB3).size; omega) x w1.heap.size 1 rfl rfl (iC_cell (unhide HR2)) (by omega) ?_
  intro v' w6 hrow hgrow _
  have hz6 : w6.heap[z]? = some (.cells #[pv, .map (some bl), ov, sv] 51 (0, 0)) := (hgrow.block z (by have := (unhide HB3).size; omega) ((unhide HRO).neBlk (unhide HOV) (by decide))).trans (row_below (unhide HOV) (unhide HB3))
  have hx6 : w6.heap[w.heap.size]? = some (.cells #[.int .i64 x.op, .string x.t, .int .i64 x.n, .int .i64 x.tg] 33 (0, 0)) := (hgrow.block w.heap.size (by have h1 := (unhide HB2).size; have h2 := unhide HZ1; omega) (fun e => by have := ((unhide HRO).low e.symm).2; omega)).trans (row_below (unhide HX1) (unhide HB2))
  refine hK4 _ _ ⟨hz6, hx6⟩ ?_
  have hS6 := And.intro hz6 hx6
  have HP := hide ((unhide HM).put (unhide HOV) (unhide HRO) (unhide HSV) (unhide HB3) hrow hgrow)
  have c26 : w6.cell? ⟨z, 2, none⟩ = some ov := (cell_of_row _ _ _ _ _ _ hz6).trans rfl
  have fr6 := frozen_of_row w6 z 2 _ _ hz6
  obtain ⟨a', cap', hv', -, -⟩ := hrow.len
  clear hrow hgrow hz6 hx6 HB2 HR2 HB3
  rw [show (out ++ [x]).length = out.length + 1 by simp] at hv'
  subst hv'
  (try simp only [List.getElem_toArray, List.getElem_cons_succ, List.getElem_cons_zero])
  (try go_frame)
  refine takeE F (i := 8) (oi := _) (v := ?v8a) rfl (by kernel_rfl) (by kernel_rfl) (by rfl) (fun _ _ _ h => h) hS6 (Or.inl ⟨by rfl, ?y8a⟩) ?r8a
  case y8a => (intro w9 hSw; (go_simp <;> (try with_reducible rfl)))
  (try simp only [List.getElem_toArray, List.getElem_cons_succ, List.getElem_cons_zero])
  (try go_frame)
  refine takeE F (i := 9) (oi := _) (v := ?v9a) rfl (by kernel_rfl) (by kernel_rfl) (by rfl) (fun _ _ _ h => h) hS6 (Or.inl ⟨by rfl, ?y9a⟩) ?r9a
  case y9a => (intro w9 hSw; (go_simp <;> (try with_reducible rfl)))
  (try simp only [List.getElem_toArray, List.getElem_cons_succ, List.getElem_cons_zero])
  (try go_frame)
  refine lastE (by kernel_rfl) rfl (by kernel_rfl) (fun K5 hK5 => ?_)
  go_simp
  refine hK5 _ _ ?_
  (try simp only [List.getElem_toArray, List.getElem_cons_succ, List.getElem_cons_zero])
  (try go_frame)
  clear hK5 hK4 hK3 F hS hS6
  go_wp2_with fail
  go_end0
  exact ⟨rfl, unhide HP⟩
end Go.Proofs.YtpclpjcemeckgaaDoor
