/- A statement that leaves its order open, by what holds whichever of its operations have come up: one step for each operation, not one for each order. Rows of bytes made and appended in any order: a sign, a call's bytes, a sign. What has come up, but for the last; what stays behind one operation. Brackets around a kid: a sign, the kid's bytes, a sign, in whatever order the signs' rows are made. -/
import Derived.Orders
import Derived.Great.BuildSlice
import Derived.Laws.Rows
import Derived.WalkKit
import Derived.Test.YtpphjddljngkmaaGreatDoorPrintExt4M
import Derived.Test.YtpphjddljngkmaaGreatDoorQuote4M
import Derived.Test.YtpphjddljngkmaaGreatDoorPatRightM
namespace Go.Proofs.YtpphjddljngkmaaGreatDoor
open Go

theorem cnt_set : ∀ {l : List Bool} {j : Nat}, l[j]? = some false → (l.set j true).count false + 1 = l.count false
  | [], j, h => by simp at h
  | b :: l, 0, h => by
    have : b = false := by simpa using h
    subst this
    simp
  | b :: l, j + 1, h => by
    have ih := cnt_set (l := l) (j := j) (by simpa using h)
    rw [List.set_cons_succ, List.count_cons, List.count_cons]
    omega
theorem getD_false {l : Array Bool} {j : Nat} (h : l.getD j true = false) : l.toList[j]? = some false := by
  rw [Array.getElem?_toList]
  rw [Array.getD_eq_getD_getElem?] at h
  cases hj : l[j]? with
  | none => rw [hj] at h; cases h
  | some b => rw [hj] at h; simpa using h
section
variable {P : Program} {md : Region.Mode} {ops : Array Oper} {Q : Exit → Act → World → Prop} {I : Array Bool → Act → World → Prop}
theorem wpAny_inv (step : ∀ listed a w i, I listed a w → i ∈ Region.ready md ops listed → wpOp P ops Q i (fun a' w' => I (listed.setIfInBounds i true) a' w') a w) (done : ∀ listed a w, I listed a w → Region.ready md ops listed = [] → Q .normal a w) :
    ∀ n listed a w, listed.toList.count false ≤ n → I listed a w → wpAny P md ops Q n listed a w
  | 0, listed, a, w, hn, hI => by
    have h0 : Region.ready md ops listed = [] := by
      rcases List.eq_nil_or_concat (Region.ready md ops listed) with h | ⟨l, x, h⟩
      · exact h
      · have hx : x ∈ Region.ready md ops listed := by rw [h]; simp
        have hm := List.mem_of_getElem? (getD_false (mem_ready.1 hx).1)
        have hp := List.count_pos_iff.2 hm
        omega
    exact ⟨h0, done _ _ _ hI h0⟩
  | n + 1, listed, a, w, hn, hI => ⟨fun h => done _ _ _ hI h, fun i hi => wpOp_mono (fun a' w' h' => wpAny_inv step done n _ a' w' (by
      have := cnt_set (getD_false (mem_ready.1 hi).1)
      rw [Array.toList_setIfInBounds]
      omega) h') (step listed a w i hI hi)⟩
theorem region_inv {id : Nat} {a : Act} {w : World} (hm : P.follows .mixedOrders = true) (start : I (Array.replicate ops.size false) a w.drew)
    (step : ∀ listed a w i, I listed a w → i ∈ Region.ready .any ops listed → wpOp P ops Q i (fun a' w' => I (listed.setIfInBounds i true) a' w') a w) (done : ∀ listed a w, I listed a w → Region.ready .any ops listed = [] → Q .normal a w) : (Code.region id ops true).wp P Q a w :=
  wp_region_any hm (wpAny_inv step done _ _ _ _ (by simp) start)
theorem wpOp_at {i : Nat} {o : Oper} {a : Act} {w : World} {K : Act → World → Prop} (hi : ops[i]? = some o) (hg : o.guard = none) (h : o.wp P a w K Q) : wpOp P ops Q i K a w := by
  unfold wpOp
  rw [hi]
  have hw : Region.wanted o (yielded ops a.tmps) = true := by simp [Region.wanted, hg]
  show if Region.wanted o (yielded ops a.tmps) = true then _ else _
  rw [if_pos hw]
  exact .inl h
theorem wp_mv {o : Oper} {a : Act} {w : World} {K : Act → World → Prop} {x : Operand} (ho : o.op = .move x) (h : K (a.put o.dst (a.eval x)) w) : o.wp P a w K Q := by
  unfold Oper.wp execOp
  simp only [ho, Sem.run_pure]
  exact h
theorem wp_as {o : Oper} {a : Act} {w : World} {K : Act → World → Prop} {x : Operand} (ho : o.op = .assign x) (h : K (a.put o.dst (a.eval x)) w) : o.wp P a w K Q := by
  unfold Oper.wp execOp
  simp only [ho, Sem.run_pure]
  exact h
theorem wp_go {o : Oper} {a : Act} {w : World} {K : Act → World → Prop} {f : FuncId} {fn : Func} {args : Array Operand} {ts : Array TypeId} (ho : o.op = .call { callee := .value (.func f), args := args, argTypes := ts }) (hf : P.funcs[f]? = some fn) (hname : (fn.name == "runtime.NumGoroutine") = false) (hb : fn.body.isNone = false)
    (vs : Array Value) (hv : args.map a.eval = vs) (h : Calls P f vs w fun e w' => ∃ v, e = .returned v ∧ K (a.put o.dst v) w') : o.wp P a w K Q := by
  obtain ⟨dst, op, ty, pos, after, guard⟩ := o
  subst ho
  have hr : (callFunc f (#[] ++ args.map a.eval ++ #[])).run P w = .ok (.enter f vs) w := by
    have h1 : ¬ fn.name = "runtime.NumGoroutine" := by simpa using hname
    have h2 : ¬ fn.body = none := fun q => by rw [q] at hb; cases hb
    simp [callFunc, hf, h1, h2, hv]
  show Oper.upon P _ a K Q ((callFunc f (#[] ++ args.map a.eval ++ #[])).run P w)
  rw [hr, Oper.upon_enter]
  refine h.mono ?_
  rintro e w' ⟨v, rfl, hk⟩
  exact hk
end

/-- Slots of a frame, filled one by one. -/
def fl (a : Act) : List Nat → (Nat → Value) → Act
  | [], _ => a
  | d :: D, x => fl (a.put (some d) (x d)) D x
def upd (x : Nat → Value) (d : Nat) (v : Value) : Nat → Value := fun e => if e = d then v else x e
theorem upd_same (x : Nat → Value) (d : Nat) (v : Value) : upd x d v d = v := if_pos rfl
theorem upd_other {x : Nat → Value} {d e : Nat} {v : Value} (h : e ≠ d) : upd x d v e = x e := if_neg h
theorem put_same (a : Act) (d : Nat) (u v : Value) : (a.put (some d) u).put (some d) v = a.put (some d) v := by
  unfold Act.put
  simp [Array.setIfInBounds_setIfInBounds]
theorem put_comm {a : Act} {d e : Nat} (h : d ≠ e) (u v : Value) : (a.put (some d) u).put (some e) v = (a.put (some e) v).put (some d) u := by
  unfold Act.put
  simp [Array.setIfInBounds_comm _ _ h]
theorem put_self (a : Act) (d : Nat) : a.put (some d) (a.eval (.tmp d)) = a := by
  unfold Act.put Act.eval
  rcases Nat.lt_or_ge d a.tmps.size with h | h
  · obtain ⟨t, df⟩ := a
    have h' : d < t.size := h
    simp [h', Array.setIfInBounds]
  · simp [Array.setIfInBounds_eq_of_size_le h]
theorem fl_out : ∀ (D : List Nat) (a : Act) (x : Nat → Value) (d : Nat) (v : Value), d ∉ D → (fl a D x).put (some d) v = fl (a.put (some d) v) D x
  | [], _, _, _, _, _ => rfl
  | e :: D, a, x, d, v, h => by
    rw [fl, fl, fl_out D _ x d v (fun q => h (List.mem_cons_of_mem _ q)), put_comm (fun q => h (by rw [q]; exact List.mem_cons_self ..))]
theorem fl_congr : ∀ (D : List Nat) (a : Act) {x y : Nat → Value}, (∀ d ∈ D, x d = y d) → fl a D x = fl a D y
  | [], _, _, _, _ => rfl
  | e :: D, a, x, y, h => by rw [fl, fl, h e (List.mem_cons_self ..), fl_congr D _ fun d hd => h d (List.mem_cons_of_mem _ hd)]
theorem fl_put : ∀ (D : List Nat) (a : Act) (x : Nat → Value) (d : Nat) (v : Value), d ∈ D → D.Nodup → (fl a D x).put (some d) v = fl a D (upd x d v)
  | e :: D, a, x, d, v, hd, hn => by
    obtain ⟨h1, h2⟩ := List.nodup_cons.1 hn
    rw [fl, fl]
    by_cases q : d = e
    · subst q
      rw [fl_out D _ x d v h1, put_same, upd_same]
      exact fl_congr D _ fun e he => (upd_other (fun q => h1 (by rw [← q]; exact he))).symm
    · rw [fl_put D _ x d v ((List.mem_cons.1 hd).resolve_left q) h2, upd_other (fun z => q z.symm)]
theorem fl_self : ∀ (D : List Nat) (a : Act), fl a D (fun d => a.eval (.tmp d)) = a
  | [], _ => rfl
  | e :: D, a => by rw [fl, put_self]; exact fl_self D a
theorem eval_put_same {a : Act} {d : Nat} (h : d < a.tmps.size) (v : Value) : (a.put (some d) v).eval (.tmp d) = v := by
  unfold Act.put Act.eval
  simp [h]
theorem eval_put_other {a : Act} {d e : Nat} (h : e ≠ d) (v : Value) : (a.put (some d) v).eval (.tmp e) = a.eval (.tmp e) := by
  unfold Act.put Act.eval
  simp [Ne.symm h]
theorem put_size (a : Act) (d : Nat) (v : Value) : (a.put (some d) v).tmps.size = a.tmps.size := by
  unfold Act.put
  simp
theorem fl_eval_out : ∀ (D : List Nat) (a : Act) (x : Nat → Value) {t : Nat}, t ∉ D → (fl a D x).eval (.tmp t) = a.eval (.tmp t)
  | [], _, _, _, _ => rfl
  | e :: D, a, x, t, h => by
    rw [fl, fl_eval_out D _ x (fun q => h (List.mem_cons_of_mem _ q)), eval_put_other (fun q => h (by rw [q]; exact List.mem_cons_self ..))]
theorem fl_eval : ∀ (D : List Nat) (a : Act) (x : Nat → Value) {d : Nat}, d ∈ D → D.Nodup → d < a.tmps.size → (fl a D x).eval (.tmp d) = x d
  | e :: D, a, x, d, hd, hn, hs => by
    obtain ⟨h1, h2⟩ := List.nodup_cons.1 hn
    rw [fl]
    by_cases q : d = e
    · subst q
      rw [fl_eval_out D _ x h1, eval_put_same hs]
    · exact fl_eval D _ x ((List.mem_cons.1 hd).resolve_left q) h2 (by rw [put_size]; exact hs)
/-- What operation number i is: what it does, where its value goes, behind which others it comes. -/
def OpIs (ops : Array Oper) (i : Nat) (op : Op) (dst : Nat) (deps : List Nat) : Prop := ∃ o, ops[i]? = some o ∧ o.op = op ∧ o.dst = some dst ∧ o.guard = none ∧ (∀ e ∈ o.after, e.on ∈ deps) ∧ ∀ d ∈ deps, ∃ e ∈ o.after, Region.binds .any e = true ∧ e.on = d
theorem opIs_of {ops : Array Oper} {i : Nat} {o : Oper} {op : Op} {dst : Nat} {deps : List Nat} (h : ops[i]? = some o := by rfl) (h1 : o.op = op := by rfl) (h2 : o.dst = some dst := by rfl) (h3 : o.guard = none := by rfl) (hb : (o.after.toList.all (fun e => deps.contains e.on) && deps.all fun d => o.after.toList.any fun e => Region.binds .any e && e.on == d) = true := by rfl) : OpIs ops i op dst deps := by
  rw [Bool.and_eq_true, List.all_eq_true, List.all_eq_true] at hb
  refine ⟨o, h, h1, h2, h3, fun e he => ?_, fun d hd => ?_⟩
  · simpa using hb.1 e (by simpa using he)
  · obtain ⟨e, he, hq⟩ := List.any_eq_true.1 (hb.2 d hd)
    rw [Bool.and_eq_true, beq_iff_eq] at hq
    exact ⟨e, by simpa using he, hq.1, hq.2⟩
/-- It has come up. -/
def Up (listed : Array Bool) (j : Nat) : Prop := listed.getD j false = true
theorem up_set {listed : Array Bool} {i j : Nat} (hi : i < listed.size) : Up (listed.setIfInBounds i true) j ↔ j = i ∨ Up listed j := by
  unfold Up
  by_cases h : j = i
  · subst h
    simp [hi]
  · simp [h, Ne.symm h]
theorem up_new {n j : Nat} : ¬ Up (Array.replicate n false) j := by
  unfold Up
  simp only [Array.getD_eq_getD_getElem?, Array.getElem?_replicate]
  split <;> simp
theorem op_ready {ops : Array Oper} {listed : Array Bool} {i : Nat} {op : Op} {dst : Nat} {deps : List Nat} (h : OpIs ops i op dst deps) (hi : i ∈ Region.ready .any ops listed) : ¬ Up listed i ∧ ∀ d ∈ deps, Up listed d := by
  obtain ⟨h1, o', ho', h2⟩ := mem_ready.1 hi
  obtain ⟨o, ho, -, -, -, -, h3⟩ := h
  obtain rfl : o = o' := Option.some.inj (ho.symm.trans ho')
  refine ⟨fun q => ?_, fun d hd => ?_⟩
  · have := getD_false h1
    unfold Up at q
    rw [Array.getElem?_toList] at this
    rw [Array.getD_eq_getD_getElem?, this] at q
    cases q
  · obtain ⟨e, he, hb, rfl⟩ := h3 d hd
    exact h2 e he hb
theorem op_up {ops : Array Oper} {listed : Array Bool} {i : Nat} {op : Op} {dst : Nat} {deps : List Nat} (h : OpIs ops i op dst deps) (hn : Region.ready .any ops listed = []) (hs : i < listed.size) (hd : ∀ d ∈ deps, Up listed d) : Up listed i := by
  obtain ⟨o, ho, -, -, -, h2, -⟩ := h
  cases hq : listed.getD i true with
  | true =>
    unfold Up
    rw [Array.getD_eq_getD_getElem?, Array.getElem?_eq_getElem hs] at hq ⊢
    exact hq
  | false =>
    have : i ∈ Region.ready .any ops listed := mem_ready.2 ⟨hq, o, ho, fun e he _ => hd _ (h2 e he)⟩
    rw [hn] at this
    cases this
theorem op_at {P : Program} {ops : Array Oper} {Q : Exit → Act → World → Prop} {i : Nat} {op : Op} {dst : Nat} {deps : List Nat} {a : Act} {w : World} {K : Act → World → Prop} (h : OpIs ops i op dst deps) (hw : ∀ o : Oper, o.op = op → o.dst = some dst → o.wp P a w K Q) : wpOp P ops Q i K a w := by
  obtain ⟨o, ho, h1, h2, h3, -, -⟩ := h
  exact wpOp_at ho h3 (hw o h1 h2)
/-- What has come up has those behind which it comes. -/
def Shut (ops : Array Oper) (listed : Array Bool) : Prop := ∀ i o, ops[i]? = some o → Up listed i → ∀ e ∈ o.after, Region.binds .any e = true → Up listed e.on
theorem shut_up {ops : Array Oper} {listed : Array Bool} {i : Nat} {op : Op} {dst : Nat} {deps : List Nat} (h : OpIs ops i op dst deps) (hs : Shut ops listed) (hu : Up listed i) : ∀ d ∈ deps, Up listed d := fun d hd => by
  obtain ⟨o, ho, -, -, -, -, h3⟩ := h
  obtain ⟨e, he, hb, rfl⟩ := h3 d hd
  exact hs i o ho hu e he hb
theorem region_inv2 {P : Program} {ops : Array Oper} {Q : Exit → Act → World → Prop} {id : Nat} {a : Act} {w : World} {I : Array Bool → Act → World → Prop} (hm : P.follows .mixedOrders = true) (start : I (Array.replicate ops.size false) a w.drew)
    (step : ∀ listed a w i, I listed a w → Shut ops listed → i ∈ Region.ready .any ops listed → wpOp P ops Q i (fun a' w' => I (listed.setIfInBounds i true) a' w') a w) (done : ∀ listed a w, I listed a w → Region.ready .any ops listed = [] → Q .normal a w) : (Code.region id ops true).wp P Q a w := by
  refine region_inv (I := fun listed a w => I listed a w ∧ Shut ops listed) hm ⟨start, fun i o _ hu => absurd hu up_new⟩ (fun listed a w i h hi => ?_) fun listed a w h hr => done listed a w h.1 hr
  refine wpOp_mono (fun a' w' h' => ⟨h', ?_⟩) (step listed a w i h.1 h.2 hi)
  obtain ⟨h1, o', ho', h2⟩ := mem_ready.1 hi
  have hil : i < listed.size := by
    have := getD_false h1
    have := (List.getElem?_eq_some_iff.1 this).1
    simpa using this
  intro j o ho hu e he hb
  rw [up_set hil] at hu ⊢
  rcases hu with rfl | hu
  · obtain rfl : o = o' := Option.some.inj (ho.symm.trans ho')
    exact .inr (h2 e he hb)
  · exact .inr (h.2 j o ho hu e he hb)
end Go.Proofs.YtpphjddljngkmaaGreatDoor

namespace Go.Proofs.YtpphjddljngkmaaGreatDoor
open Go.RowKit

/-- A row of one byte. -/
def Row1 (w : World) (g : Nat) (b : UInt8) : Prop := w.heap[g]? = some (.cells #[.int .u8 (b.toNat : Int)] 5 (0, 0))
theorem Row1.cell {w : World} {g : Nat} {b : UInt8} (h : Row1 w g b) : w.cell? ⟨g, 0, none⟩ = some (bc b) := by
  rw [cell_of_row _ _ _ _ _ _ h]; rfl
theorem Ext.far {w w' : World} {v v' : Value} (h : Ext w w' v v') {n : Nat} (h1 : some n ≠ v.ownBlock) (h2 : n < w.heap.size) : some n ≠ v'.ownBlock := fun e => by
  rcases h.lies with x | x
  · exact h1 (e.trans x)
  · have := x n e.symm
    omega
section
variable {Q : Exit → Act → World → Prop}
theorem wp_row1 {o : Oper} {a : Act} {w : World} {K : Act → World → Prop} (b : UInt8) (ho : o.op = .buildSlice 50 1 #[(0, .const (.int .u8 (b.toNat : Int)))])
    (h : K (a.put o.dst (.slice (some ⟨w.heap.size, 0, none⟩) 1 1)) (w.alloc (.cells #[.int .u8 (b.toNat : Int)] 5))) : o.wp Tryz.prog a w K Q := by
  have hinf := info_u8
  cases hi : Tryz.prog.info? 5 with
  | none => simp [hi] at hinf
  | some i0 =>
    simp only [hi, Option.map_some, Option.some.injEq, Prod.mk.injEq] at hinf
    obtain ⟨hz0, hz1, hz2⟩ := hinf
    refine wp_buildSlice (P := Tryz.prog) 50 5 1 _ ho #[.int .u8 (b.toNat : Int)] i0 (.int .u8 0) Tryz.underlying50 hi hz0 (by rw [hz1]; decide) (by rw [hz1]; decide) ?_ h
    rw [hz1]
    have e0 : ((Array.range (1 * 1)).map fun x => (Value.int IntKind.u8 0).cells[x % (Value.int IntKind.u8 0).cells.size]!) = #[.int .u8 0] := by kernel_rfl
    rw [e0]
    simp [Instr.fill, Act.eval, Value.cells]
theorem wp_byte {o : Oper} {a : Act} {w : World} {K : Act → World → Prop} {B : Nat} {v : Value} {l : List UInt8} {b : UInt8} {g : Nat} (sl x : Operand)
    (ho : o.op = .call { callee := .builtin .append, args := #[sl, x], argTypes := #[50, 50] }) (hs : a.eval sl = v) (hx : a.eval x = .slice (some ⟨g, 0, none⟩) 1 1) (h : Bytes w B v l) (hc : Row1 w g b) (hB : B ≤ w.heap.size) (hl : l.length + 1 ≤ 100000000)
    (hK : ∀ v' w', Bytes w' B v' (l ++ [b]) → Ext w w' v v' → K (a.put o.dst v') w') : o.wp Tryz.prog a w K Q := by
  obtain ⟨v', w', hr, h1, h2⟩ := byte_ext h hB b ⟨g, 0, none⟩ 1 (by rw [Addr.add_lit]; exact hc.cell) hl o.type
  unfold Oper.wp execOp
  simp only [ho, resolve, invoke, builtin, Sem.run_bind, Sem.run_pure, Result.andThen_ok, List.map_toArray, List.map_cons, List.map_nil, hs, hx, hr]
  exact hK v' w' h1 h2
theorem wp_text {o : Oper} {a : Act} {w : World} {K : Act → World → Prop} {B : Nat} {v : Value} {l : List UInt8} {s : ByteArray} (sl x : Operand)
    (ho : o.op = .call { callee := .builtin .append, args := #[sl, x], argTypes := #[50, 9] }) (hs : a.eval sl = v) (hx : a.eval x = .string s) (h : Bytes w B v l) (hB : B ≤ w.heap.size) (hl : l.length + s.size ≤ 100000000)
    (hK : ∀ v' w', Bytes w' B v' (l ++ s.data.toList) → Ext w w' v v' → K (a.put o.dst v') w') : o.wp Tryz.prog a w K Q := by
  obtain ⟨v', w', hr, h1, h2⟩ := str_ext h hB s hl o.type
  unfold Oper.wp execOp
  simp only [ho, resolve, invoke, builtin, Sem.run_bind, Sem.run_pure, Result.andThen_ok, List.map_toArray, List.map_cons, List.map_nil, hs, hx, hr]
  exact hK v' w' h1 h2
end
/-- The bytes so far, since the beginning of the statement. -/
structure Chn (B : Nat) (w0 : World) (v0 : Value) (w : World) (v : Value) (l : List UInt8) : Prop where
  row : Bytes w B v l
  ext : Ext w0 w v0 v
theorem Chn.below {B : Nat} {w0 w w' : World} {v0 v : Value} {l : List UInt8} (h : Chn B w0 v0 w v l) (hb : Below w.heap.size w w') : Chn B w0 v0 w' v l := ⟨h.row.later hb, h.ext.trans (Ext.below v hb)⟩
theorem Chn.next {B : Nat} {w0 w w' : World} {v0 v v' : Value} {l l' : List UInt8} (h : Chn B w0 v0 w v l) (hr : Bytes w' B v' l') (he : Ext w w' v v') : Chn B w0 v0 w' v' l' := ⟨hr, h.ext.trans he⟩
/-- A row of one byte in a slot, apart from the bytes so far. -/
def Sign (w : World) (v : Value) (b : UInt8) (x : Value) : Prop := ∃ g, x = .slice (some ⟨g, 0, none⟩) 1 1 ∧ Row1 w g b ∧ some g ≠ v.ownBlock
theorem Sign.below {w w' : World} {v x : Value} {b : UInt8} (h : Sign w v b x) (hb : Below w.heap.size w w') : Sign w' v b x := by
  obtain ⟨g, e, hr, hf⟩ := h
  exact ⟨g, e, row_below hr hb, hf⟩
theorem Sign.next {w w' : World} {v v' x : Value} {b : UInt8} (h : Sign w v b x) (he : Ext w w' v v') : Sign w' v' b x := by
  obtain ⟨g, e, hr, hf⟩ := h
  exact ⟨g, e, he.row hf hr, he.far hf (Array.getElem?_eq_some_iff.1 hr).1⟩
theorem Sign.new {B : Nat} {w : World} {v : Value} {l : List UInt8} (h : Bytes w B v l) (b : UInt8) : Sign (w.alloc (.cells #[.int .u8 (b.toNat : Int)] 5)) v b (.slice (some ⟨w.heap.size, 0, none⟩) 1 1) :=
  ⟨w.heap.size, rfl, at_new rfl, h.apart (Nat.le_refl _)⟩
end Go.Proofs.YtpphjddljngkmaaGreatDoor

namespace Go.Proofs.YtpphjddljngkmaaGreatDoor
open Go.RowKit

theorem upn {listed : Array Bool} {i j : Nat} (hi : i < listed.size) (h : Up (listed.setIfInBounds i true) j) (hn : ¬ j = i := by decide) : Up listed j := ((up_set hi).1 h).resolve_left hn
theorem uo (x : Nat → Value) (e d : Nat) {v : Value} (h : ¬ e = d := by decide) : upd x d v e = x e := upd_other h
theorem uk {listed : Array Bool} {i j e d : Nat} {x : Nat → Value} {v u : Value} (hi : i < listed.size) (H : Up listed j → x e = u) (hn : ¬ j = i := by decide) (h : ¬ e = d := by decide) : Up (listed.setIfInBounds i true) j → upd x d v e = u := fun q => (uo x e d h).trans (H (upn hi q hn))
theorem uz {listed : Array Bool} {i j e f d : Nat} {x : Nat → Value} {v : Value} (hi : i < listed.size) (H : Up listed j → x e = x f) (hn : ¬ j = i := by decide) (h : ¬ e = d := by decide) (k : ¬ f = d := by decide) : Up (listed.setIfInBounds i true) j → upd x d v e = upd x d v f := fun q => (uo x e d h).trans ((H (upn hi q hn)).trans (uo x f d k).symm)
theorem us {listed : Array Bool} {i j e d : Nat} {x : Nat → Value} {v c : Value} {w : World} {b : UInt8} (hi : i < listed.size) (H : Up listed j → Sign w c b (x e)) (hn : ¬ j = i := by decide) (h : ¬ e = d := by decide) : Up (listed.setIfInBounds i true) j → Sign w c b (upd x d v e) := fun q => by rw [uo x e d h]; exact H (upn hi q hn)
theorem ut {listed : Array Bool} {i j e d : Nat} {x : Nat → Value} {v c : Value} {w : World} {b : UInt8} (hi : i < listed.size) (H : Up listed j → Sign w c b (x e)) (q : Up (listed.setIfInBounds i true) j) (hn : ¬ j = i := by decide) (h : ¬ e = d := by decide) : Sign w c b (upd x d v e) := us hi H hn h q
theorem nd {a b : Nat} (h : ¬ a = b := by decide) : ¬ a = b := h
theorem fp {D : List Nat} {a : Act} {x : Nat → Value} {d : Nat} {v : Value} {o : Option Nat} (h : o = some d) (h1 : d ∈ D := by decide) (h2 : D.Nodup := by decide) : (fl a D x).put o v = fl a D (upd x d v) := by rw [h, fl_put _ _ _ _ _ h1 h2]
theorem fe {D : List Nat} {a : Act} {x : Nat → Value} {d n : Nat} {v : Value} (hs : a.tmps.size = n) (e : x d = v) (h1 : d ∈ D := by decide) (h2 : D.Nodup := by decide) (h3 : d < n := by decide) : (fl a D x).eval (.tmp d) = v := (fl_eval D a x h1 h2 (by rw [hs]; exact h3)).trans e
theorem mc {p : Nat → Prop} {a : Nat} {l : List Nat} (h : p a) (k : ∀ d ∈ l, p d) : ∀ d ∈ a :: l, p d := List.forall_mem_cons.2 ⟨h, k⟩
theorem mn {p : Nat → Prop} : ∀ d ∈ ([] : List Nat), p d := fun _ h => absurd h List.not_mem_nil
end Go.Proofs.YtpphjddljngkmaaGreatDoor

namespace Go.Proofs.YtpphjddljngkmaaGreatDoor
open Go.RowKit

theorem size_pat4 : (Tryz.prog.info? 30).map (·.size) = some 5 := by kernel_rfl
/-- What holds whichever operations have come up. -/
structure KidF (B : Nat) (w0 : World) (v : Value) (r : List UInt8) (kid : Value) (M : List UInt8 → Prop) (L : Array Bool) (x : Nat → Value) (w : World) (cur : Value) (l : List UInt8) : Prop where
  size : L.size = 8
  m : Up L 0 → x 27 = v
  o : Up L 1 → Sign w cur 40 (x 28)
  k : Up L 3 → x 30 = kid
  c : Up L 5 → Sign w cur 41 (x 32)
  st : (¬ Up L 2 ∧ ¬ Up L 4 ∧ ¬ Up L 6 ∧ cur = v ∧ l = r) ∨ (Up L 2 ∧ ¬ Up L 4 ∧ ¬ Up L 6 ∧ x 29 = cur ∧ l = r ++ [40]) ∨ (Up L 4 ∧ ¬ Up L 6 ∧ x 31 = cur ∧ M l) ∨ (Up L 6 ∧ x 33 = cur ∧ ∃ l0, M l0 ∧ l = l0 ++ [41])
  f : Up L 7 → x 0 = x 33
  s : ¬ Up L 7 → x 0 = v
  chn : Chn B w0 v w cur l
set_option maxHeartbeats 1000000 in
theorem kid_region {ops : Array Oper} {id : Nat} {Q : Exit → Act → World → Prop} {a : Act} {w : World} {v : Value} {r : List UInt8} {B bx : Nat} {cs : Array Value} {M : List UInt8 → Prop}
    (p0 : OpIs ops 0 (.move (.tmp 0)) 27 []) (p1 : OpIs ops 1 (.buildSlice 50 1 #[(0, .const (.int .u8 40))]) 28 []) (p2 : OpIs ops 2 (.call { callee := .builtin .append, args := #[.tmp 27, .tmp 28], argTypes := #[50, 50] }) 29 [0, 1])
    (p3 : OpIs ops 3 (.load 30 (.tmp 8)) 30 []) (p4 : OpIs ops 4 (.call { callee := .value (.func 41), args := #[.tmp 29, .tmp 30], argTypes := #[50, 30] }) 31 [2, 3])
    (p5 : OpIs ops 5 (.buildSlice 50 1 #[(0, .const (.int .u8 41))]) 32 []) (p6 : OpIs ops 6 (.call { callee := .builtin .append, args := #[.tmp 31, .tmp 32], argTypes := #[50, 50] }) 33 [4, 5]) (p7 : OpIs ops 7 (.assign (.tmp 33)) 0 [0, 1, 2, 3, 4, 5, 6]) (hn : ops.size = 8)
    (hsz : a.tmps.size = 39) (h0 : a.eval (.tmp 0) = v) (h8 : a.eval (.tmp 8) = .pointer (some ⟨bx, 0, none⟩)) (hv : Bytes w B v r) (hB : B ≤ w.heap.size) (hr : r.length + 2 ≤ 100000000) (hbx : w.heap[bx]? = some (.cells cs 30 (0, 0))) (hcs : cs.size = 5) (hfar : some bx ≠ v.ownBlock)
    (hM : ∀ l, M l → l.length + 1 ≤ 100000000)
    (hC : ∀ w1 v1, Bytes w1 B v1 (r ++ [40]) → Ext w w1 v v1 → Calls Tryz.prog 41 #[v1, .agg cs] w1 fun e w2 => ∃ v2, e = .returned v2 ∧ ∃ r2, Bytes w2 B v2 r2 ∧ Ext w1 w2 v1 v2 ∧ M r2)
    (hQ : ∀ x w2 v2 l2, Bytes w2 B v2 (l2 ++ [41]) → M l2 → Ext w w2 v v2 → x 0 = v2 → Q .normal (fl a [27, 28, 29, 30, 31, 32, 33, 0] x) w2) : (Code.region id ops true).wp Tryz.prog Q a w := by
  refine region_inv2 (I := fun L a' w' => ∃ x cur l, a' = fl a [27, 28, 29, 30, 31, 32, 33, 0] x ∧ KidF B w v r (.agg cs) M L x w' cur l) rfl ?_ ?_ ?_
  · have hd : Below w.heap.size w w.drew := (Below.refl _ _).drew
    exact ⟨fun d => a.eval (.tmp d), v, r, (fl_self _ a).symm, by rw [hn]; rfl, fun h => absurd h up_new, fun h => absurd h up_new, fun h => absurd h up_new, fun h => absurd h up_new, .inl ⟨up_new, up_new, up_new, rfl, rfl⟩, fun h => absurd h up_new, fun _ => h0, hv.later hd, Ext.below v hd⟩
  · rintro L a' w' i ⟨x, cur, l, rfl, H⟩ hsh hi
    have hs := H.size
    have hlt : i < 8 := by
      obtain ⟨-, o, ho, -⟩ := mem_ready.1 hi
      have := (Array.getElem?_eq_some_iff.1 ho).1
      omega
    have hiL : i < L.size := by rw [hs]; exact hlt
    have hS : (L.setIfInBounds i true).size = 8 := by simp [hs]
    have hbw : B ≤ w'.heap.size := Nat.le_trans hB H.chn.ext.grown.size
    rcases (show i = 0 ∨ i = 1 ∨ i = 2 ∨ i = 3 ∨ i = 4 ∨ i = 5 ∨ i = 6 ∨ i = 7 by omega) with rfl | rfl | rfl | rfl | rfl | rfl | rfl | rfl
    · obtain ⟨hu, hd⟩ := op_ready p0 hi
      refine op_at p0 fun o ho hdst => wp_mv ho ?_
      refine ⟨upd x 27 v, cur, l, by rw [hdst, (fl_eval [27, 28, 29, 30, 31, 32, 33, 0] a x (d := 0) (by decide) (by decide) (by rw [hsz]; decide)), H.s (fun q => hu (shut_up p7 hsh q 0 (by decide))), fl_put _ _ _ _ _ (by decide) (by decide)], hS, fun _ => upd_same _ _ _, us hiL H.o, uk hiL H.k, us hiL H.c, ?_, uz hiL H.f, fun h => ?_, H.chn⟩
      · simpa only [up_set hiL, (nd : ¬ 2 = 0), (nd : ¬ 4 = 0), (nd : ¬ 6 = 0), false_or, upd_other (x := x) (v := v) (show 29 ≠ 27 by decide), upd_other (x := x) (v := v) (show 31 ≠ 27 by decide), upd_other (x := x) (v := v) (show 33 ≠ 27 by decide)] using H.st
      · rw [upd_other (by decide)]; exact H.s fun q => h ((up_set hiL).2 (.inr q))
    · obtain ⟨hu, hd⟩ := op_ready p1 hi
      refine op_at p1 fun o ho hdst => wp_row1 40 ho ?_
      have hb : Below w'.heap.size w' (w'.alloc (.cells #[.int .u8 (((40 : UInt8).toNat : Nat) : Int)] 5)) := ba _
      refine ⟨upd x 28 (.slice (some ⟨w'.heap.size, 0, none⟩) 1 1), cur, l, fp hdst, hS, uk hiL H.m, fun _ => ?_, uk hiL H.k, fun h => (ut hiL H.c h).below hb, ?_, uz hiL H.f, fun h => ?_, H.chn.below hb⟩
      · rw [upd_same]; exact Sign.new H.chn.row 40
      · simpa only [up_set hiL, (nd : ¬ 2 = 1), (nd : ¬ 4 = 1), (nd : ¬ 6 = 1), false_or, uo x 29 28, uo x 31 28, uo x 33 28] using H.st
      · rw [upd_other (by decide)]; exact H.s fun q => h ((up_set hiL).2 (.inr q))
    · obtain ⟨hu, hd⟩ := op_ready p2 hi
      rcases H.st with ⟨s2, s4, s6, rfl, rfl⟩ | ⟨s2, -⟩ | ⟨s4, s6, -⟩ | ⟨s6, -⟩
      · obtain ⟨g, hg, hrow, hgf⟩ := H.o (hd 1 (by decide))
        refine op_at p2 fun o ho hdst => wp_byte (.tmp 27) (.tmp 28) ho (fe hsz (H.m (hd 0 (by decide)))) (fe hsz (hg)) H.chn.row hrow hbw (by omega) ?_
        intro v' w2 hb2 he2
        refine ⟨upd x 29 v', v', _, fp hdst, hS, uk hiL H.m, fun h => (ut hiL H.o h).next he2, uk hiL H.k, fun h => (ut hiL H.c h).next he2, .inr (.inl ⟨(up_set hiL).2 (.inl rfl), fun h => s4 (upn hiL h), fun h => s6 (upn hiL h), upd_same _ _ _, rfl⟩), uz hiL H.f, fun h => ?_, H.chn.next hb2 he2⟩
        · rw [upd_other (by decide)]; exact H.s fun q => h ((up_set hiL).2 (.inr q))
      · exact absurd s2 hu
      · exact absurd (shut_up p4 hsh s4 2 (by decide)) hu
      · exact absurd (shut_up p4 hsh (shut_up p6 hsh s6 4 (by decide)) 2 (by decide)) hu
    · obtain ⟨hu, hd⟩ := op_ready p3 hi
      refine op_at p3 fun o ho hdst => wp_load_row 30 (.tmp 8) ho bx (by rw [(fl_eval_out [27, 28, 29, 30, 31, 32, 33, 0] a x (t := 8) (by decide))]; exact h8) 30 cs (0, 0) _ (H.chn.ext.row hfar hbx) Tryz.underlying30 rfl (by rw [hcs]; exact size_pat4) ?_
      refine ⟨upd x 30 (.agg cs), cur, l, fp hdst, hS, uk hiL H.m, us hiL H.o, fun _ => upd_same _ _ _, us hiL H.c, ?_, uz hiL H.f, fun h => ?_, H.chn⟩
      · simpa only [up_set hiL, (nd : ¬ 2 = 3), (nd : ¬ 4 = 3), (nd : ¬ 6 = 3), false_or, uo x 29 30, uo x 31 30, uo x 33 30] using H.st
      · rw [upd_other (by decide)]; exact H.s fun q => h ((up_set hiL).2 (.inr q))
    · obtain ⟨hu, hd⟩ := op_ready p4 hi
      rcases H.st with ⟨s2, -⟩ | ⟨s2, s4, s6, hx, rfl⟩ | ⟨s4, -⟩ | ⟨s6, -⟩
      · exact absurd (hd 2 (by decide)) s2
      · refine op_at p4 fun o ho hdst => wp_go ho Tryz.func41 rfl rfl #[cur, .agg cs] (by simp only [List.map_toArray, List.map_cons, List.map_nil]; rw [(fl_eval [27, 28, 29, 30, 31, 32, 33, 0] a x (d := 29) (by decide) (by decide) (by rw [hsz]; decide)), (fl_eval [27, 28, 29, 30, 31, 32, 33, 0] a x (d := 30) (by decide) (by decide) (by rw [hsz]; decide)), hx, H.k (hd 3 (by decide))]) ?_
        refine (hC w' cur H.chn.row H.chn.ext).mono ?_
        rintro e w2 ⟨v2, rfl, r2, hb2, he2, hm2⟩
        refine ⟨v2, rfl, upd x 31 v2, v2, r2, fp hdst, hS, uk hiL H.m, fun h => (ut hiL H.o h).next he2, uk hiL H.k, fun h => (ut hiL H.c h).next he2, .inr (.inr (.inl ⟨(up_set hiL).2 (.inl rfl), fun h => s6 (upn hiL h), upd_same _ _ _, hm2⟩)), uz hiL H.f, fun h => ?_, H.chn.next hb2 he2⟩
        · rw [upd_other (by decide)]; exact H.s fun q => h ((up_set hiL).2 (.inr q))
      · exact absurd s4 hu
      · exact absurd (shut_up p6 hsh s6 4 (by decide)) hu
    · obtain ⟨hu, hd⟩ := op_ready p5 hi
      refine op_at p5 fun o ho hdst => wp_row1 41 ho ?_
      have hb : Below w'.heap.size w' (w'.alloc (.cells #[.int .u8 (((41 : UInt8).toNat : Nat) : Int)] 5)) := ba _
      refine ⟨upd x 32 (.slice (some ⟨w'.heap.size, 0, none⟩) 1 1), cur, l, fp hdst, hS, uk hiL H.m, fun h => (ut hiL H.o h).below hb, uk hiL H.k, fun _ => ?_, ?_, uz hiL H.f, fun h => ?_, H.chn.below hb⟩
      · rw [upd_same]; exact Sign.new H.chn.row 41
      · simpa only [up_set hiL, (nd : ¬ 2 = 5), (nd : ¬ 4 = 5), (nd : ¬ 6 = 5), false_or, uo x 29 32, uo x 31 32, uo x 33 32] using H.st
      · rw [upd_other (by decide)]; exact H.s fun q => h ((up_set hiL).2 (.inr q))
    · obtain ⟨hu, hd⟩ := op_ready p6 hi
      rcases H.st with ⟨-, s4, -⟩ | ⟨-, s4, -⟩ | ⟨s4, s6, hx, hm⟩ | ⟨s6, -⟩
      · exact absurd (hd 4 (by decide)) s4
      · exact absurd (hd 4 (by decide)) s4
      · obtain ⟨g, hg, hrow, hgf⟩ := H.c (hd 5 (by decide))
        refine op_at p6 fun o ho hdst => wp_byte (.tmp 31) (.tmp 32) ho (fe hsz (hx)) (fe hsz (hg)) H.chn.row hrow hbw (hM l hm) ?_
        intro v' w2 hb2 he2
        refine ⟨upd x 33 v', v', _, fp hdst, hS, uk hiL H.m, fun h => (ut hiL H.o h).next he2, uk hiL H.k, fun h => (ut hiL H.c h).next he2, .inr (.inr (.inr ⟨(up_set hiL).2 (.inl rfl), upd_same _ _ _, l, hm, rfl⟩)), fun h => absurd (shut_up p7 hsh (upn hiL h) 6 (by decide)) hu, fun h => ?_, H.chn.next hb2 he2⟩
        · rw [upd_other (by decide)]; exact H.s fun q => h ((up_set hiL).2 (.inr q))
      · exact absurd s6 hu
    · obtain ⟨hu, hd⟩ := op_ready p7 hi
      refine op_at p7 fun o ho hdst => wp_as ho ?_
      refine ⟨upd x 0 (x 33), cur, l, by rw [hdst, (fl_eval [27, 28, 29, 30, 31, 32, 33, 0] a x (d := 33) (by decide) (by decide) (by rw [hsz]; decide)), fl_put _ _ _ _ _ (by decide) (by decide)], hS, uk hiL H.m, us hiL H.o, uk hiL H.k, us hiL H.c, ?_, fun _ => by rw [upd_same, upd_other (by decide)], fun h => absurd ((up_set hiL).2 (.inl rfl)) h, H.chn⟩
      · simpa only [up_set hiL, (nd : ¬ 2 = 7), (nd : ¬ 4 = 7), (nd : ¬ 6 = 7), false_or, uo x 29 0, uo x 31 0, uo x 33 0] using H.st
  · rintro L a' w' ⟨x, cur, l, rfl, H⟩ hr0
    have hs := H.size
    have u0 := op_up p0 hr0 (by omega) (by simp)
    have u1 := op_up p1 hr0 (by omega) (by simp)
    have u2 := op_up p2 hr0 (by omega) (by intro d hd; rcases List.mem_cons.1 hd with rfl | hd; exact u0; rw [List.mem_singleton.1 hd]; exact u1)
    have u3 := op_up p3 hr0 (by omega) (by simp)
    have u4 := op_up p4 hr0 (by omega) (by intro d hd; rcases List.mem_cons.1 hd with rfl | hd; exact u2; rw [List.mem_singleton.1 hd]; exact u3)
    have u5 := op_up p5 hr0 (by omega) (by simp)
    have u6 := op_up p6 hr0 (by omega) (by intro d hd; rcases List.mem_cons.1 hd with rfl | hd; exact u4; rw [List.mem_singleton.1 hd]; exact u5)
    have u7 := op_up p7 hr0 (by omega) (mc u0 (mc u1 (mc u2 (mc u3 (mc u4 (mc u5 (mc u6 mn)))))))
    rcases H.st with ⟨-, -, s6, -⟩ | ⟨-, -, s6, -⟩ | ⟨-, s6, -⟩ | ⟨-, hx, l0, hm, rfl⟩
    · exact absurd u6 s6
    · exact absurd u6 s6
    · exact absurd u6 s6
    · exact hQ x w' cur l0 H.chn.row hm H.chn.ext ((H.f u7).trans hx)
end Go.Proofs.YtpphjddljngkmaaGreatDoor
