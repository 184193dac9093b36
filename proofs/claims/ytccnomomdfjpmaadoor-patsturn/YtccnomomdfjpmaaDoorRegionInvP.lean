/- A statement that leaves its order open, by what holds whichever of its operations have come up: one step for each operation, not one for each order. -/
import Derived.Orders
import Derived.Great.BuildSlice
import Derived.Laws.Rows
import Derived.WalkKit
namespace Go.Proofs.YtccnomomdfjpmaaDoor
open Go

theorem cnt_set : ∀ {l : List Bool} {j : Nat}, l[j]? = some false → (l.set j true).count false + 1 = l.count false
  | [], j, h => by simp at h
  | b :: l, 0, h => by
    have : b = false := by simpa using h
    subst this
    simp
  | b :: l, j + 1, h => by
    have ih := cnt_set (l := l) (j := j) (by simpa using h)
    rw [List.set_cons_succ, List.count_cons, List.count_cons]
    omega
theorem getD_false {l : Array Bool} {j : Nat} (h : l.getD j true = false) : l.toList[j]? = some false := by
  rw [Array.getElem?_toList]
  rw [Array.getD_eq_getD_getElem?] at h
  cases hj : l[j]? with
  | none => rw [hj] at h; cases h
  | some b => rw [hj] at h; simpa using h
section
variable {P : Program} {md : Region.Mode} {ops : Array Oper} {Q : Exit → Act → World → Prop} {I : Array Bool → Act → World → Prop}
theorem wpAny_inv (step : ∀ listed a w i, I listed a w → i ∈ Region.ready md ops listed → wpOp P ops Q i (fun a' w' => I (listed.setIfInBounds i true) a' w') a w) (done : ∀ listed a w, I listed a w → Region.ready md ops listed = [] → Q .normal a w) :
    ∀ n listed a w, listed.toList.count false ≤ n → I listed a w → wpAny P md ops Q n listed a w
  | 0, listed, a, w, hn, hI => by
    have h0 : Region.ready md ops listed = [] := by
      rcases List.eq_nil_or_concat (Region.ready md ops listed) with h | ⟨l, x, h⟩
      · exact h
      · have hx : x ∈ Region.ready md ops listed := by rw [h]; simp
        have hm := List.mem_of_getElem? (getD_false (mem_ready.1 hx).1)
        have hp := List.count_pos_iff.2 hm
        omega
    exact ⟨h0, done _ _ _ hI h0⟩
  | n + 1, listed, a, w, hn, hI => ⟨fun h => done _ _ _ hI h, fun i hi => wpOp_mono (fun a' w' h' => wpAny_inv step done n _ a' w' (by
      have := cnt_set (getD_false (mem_ready.1 hi).1)
      rw [Array.toList_setIfInBounds]
      omega) h') (step listed a w i hI hi)⟩
theorem region_inv {id : Nat} {a : Act} {w : World} (hm : P.follows .mixedOrders = true) (start : I (Array.replicate ops.size false) a w.drew)
    (step : ∀ listed a w i, I listed a w → i ∈ Region.ready .any ops listed → wpOp P ops Q i (fun a' w' => I (listed.setIfInBounds i true) a' w') a w) (done : ∀ listed a w, I listed a w → Region.ready .any ops listed = [] → Q .normal a w) : (Code.region id ops true).wp P Q a w :=
  wp_region_any hm (wpAny_inv step done _ _ _ _ (by simp) start)
theorem wpOp_at {i : Nat} {o : Oper} {a : Act} {w : World} {K : Act → World → Prop} (hi : ops[i]? = some o) (hg : o.guard = none) (h : o.wp P a w K Q) : wpOp P ops Q i K a w := by
  unfold wpOp
  rw [hi]
  have hw : Region.wanted o (yielded ops a.tmps) = true := by simp [Region.wanted, hg]
  show if Region.wanted o (yielded ops a.tmps) = true then _ else _
  rw [if_pos hw]
  exact .inl h
theorem wp_mv {o : Oper} {a : Act} {w : World} {K : Act → World → Prop} {x : Operand} (ho : o.op = .move x) (h : K (a.put o.dst (a.eval x)) w) : o.wp P a w K Q := by
  unfold Oper.wp execOp
  simp only [ho, Sem.run_pure]
  exact h
theorem wp_as {o : Oper} {a : Act} {w : World} {K : Act → World → Prop} {x : Operand} (ho : o.op = .assign x) (h : K (a.put o.dst (a.eval x)) w) : o.wp P a w K Q := by
  unfold Oper.wp execOp
  simp only [ho, Sem.run_pure]
  exact h
theorem wp_go {o : Oper} {a : Act} {w : World} {K : Act → World → Prop} {f : FuncId} {fn : Func} {args : Array Operand} {ts : Array TypeId} (ho : o.op = .call { callee := .value (.func f), args := args, argTypes := ts }) (hf : P.funcs[f]? = some fn) (hname : (fn.name == "runtime.NumGoroutine") = false) (hb : fn.body.isNone = false)
    (vs : Array Value) (hv : args.map a.eval = vs) (h : Calls P f vs w fun e w' => ∃ v, e = .returned v ∧ K (a.put o.dst v) w') : o.wp P a w K Q := by
  obtain ⟨dst, op, ty, pos, after, guard⟩ := o
  subst ho
  have hr : (callFunc f (#[] ++ args.map a.eval ++ #[])).run P w = .ok (.enter f vs) w := by
    have h1 : ¬ fn.name = "runtime.NumGoroutine" := by simpa using hname
    have h2 : ¬ fn.body = none := fun q => by rw [q] at hb; cases hb
    simp [callFunc, hf, h1, h2, hv]
  show Oper.upon P _ a K Q ((callFunc f (#[] ++ args.map a.eval ++ #[])).run P w)
  rw [hr, Oper.upon_enter]
  refine h.mono ?_
  rintro e w' ⟨v, rfl, hk⟩
  exact hk
end

/-- Slots of a frame, filled one by one. -/
def fl (a : Act) : List Nat → (Nat → Value) → Act
  | [], _ => a
  | d :: D, x => fl (a.put (some d) (x d)) D x
def upd (x : Nat → Value) (d : Nat) (v : Value) : Nat → Value := fun e => if e = d then v else x e
theorem upd_same (x : Nat → Value) (d : Nat) (v : Value) : upd x d v d = v := if_pos rfl
theorem upd_other {x : Nat → Value} {d e : Nat} {v : Value} (h : e ≠ d) : upd x d v e = x e := if_neg h
theorem put_same (a : Act) (d : Nat) (u v : Value) : (a.put (some d) u).put (some d) v = a.put (some d) v := by
  unfold Act.put
  simp [Array.setIfInBounds_setIfInBounds]
theorem put_comm {a : Act} {d e : Nat} (h : d ≠ e) (u v : Value) : (a.put (some d) u).put (some e) v = (a.put (some e) v).put (some d) u := by
  unfold Act.put
  simp [Array.setIfInBounds_comm _ _ h]
theorem put_self (a : Act) (d : Nat) : a.put (some d) (a.eval (.tmp d)) = a := by
  unfold Act.put Act.eval
  rcases Nat.lt_or_ge d a.tmps.size with h | h
  · obtain ⟨t, df⟩ := a
    have h' : d < t.size := h
    simp [h', Array.setIfInBounds]
  · simp [Array.setIfInBounds_eq_of_size_le h]
theorem fl_out : ∀ (D : List Nat) (a : Act) (x : Nat → Value) (d : Nat) (v : Value), d ∉ D → (fl a D x).put (some d) v = fl (a.put (some d) v) D x
  | [], _, _, _, _, _ => rfl
  | e :: D, a, x, d, v, h => by
    rw [fl, fl, fl_out D _ x d v (fun q => h (List.mem_cons_of_mem _ q)), put_comm (fun q => h (by rw [q]; exact List.mem_cons_self ..))]
theorem fl_congr : ∀ (D : List Nat) (a : Act) {x y : Nat → Value}, (∀ d ∈ D, x d = y d) → fl a D x = fl a D y
  | [], _, _, _, _ => rfl
  | e :: D, a, x, y, h => by rw [fl, fl, h e (List.mem_cons_self ..), fl_congr D _ fun d hd => h d (List.mem_cons_of_mem _ hd)]
theorem fl_put : ∀ (D : List Nat) (a : Act) (x : Nat → Value) (d : Nat) (v : Value), d ∈ D → D.Nodup → (fl a D x).put (some d) v = fl a D (upd x d v)
  | e :: D, a, x, d, v, hd, hn => by
    obtain ⟨h1, h2⟩ := List.nodup_cons.1 hn
    rw [fl, fl]
    by_cases q : d = e
    · subst q
      rw [fl_out D _ x d v h1, put_same, upd_same]
      exact fl_congr D _ fun e he => (upd_other (fun q => h1 (by rw [← q]; exact he))).symm
    · rw [fl_put D _ x d v ((List.mem_cons.1 hd).resolve_left q) h2, upd_other (fun z => q z.symm)]
theorem fl_self : ∀ (D : List Nat) (a : Act), fl a D (fun d => a.eval (.tmp d)) = a
  | [], _ => rfl
  | e :: D, a => by rw [fl, put_self]; exact fl_self D a
theorem eval_put_same {a : Act} {d : Nat} (h : d < a.tmps.size) (v : Value) : (a.put (some d) v).eval (.tmp d) = v := by
  unfold Act.put Act.eval
  simp [h]
theorem eval_put_other {a : Act} {d e : Nat} (h : e ≠ d) (v : Value) : (a.put (some d) v).eval (.tmp e) = a.eval (.tmp e) := by
  unfold Act.put Act.eval
  simp [Ne.symm h]
theorem put_size (a : Act) (d : Nat) (v : Value) : (a.put (some d) v).tmps.size = a.tmps.size := by
  unfold Act.put
  simp
theorem fl_eval_out : ∀ (D : List Nat) (a : Act) (x : Nat → Value) {t : Nat}, t ∉ D → (fl a D x).eval (.tmp t) = a.eval (.tmp t)
  | [], _, _, _, _ => rfl
  | e :: D, a, x, t, h => by
    rw [fl, fl_eval_out D _ x (fun q => h (List.mem_cons_of_mem _ q)), eval_put_other (fun q => h (by rw [q]; exact List.mem_cons_self ..))]
theorem fl_eval : ∀ (D : List Nat) (a : Act) (x : Nat → Value) {d : Nat}, d ∈ D → D.Nodup → d < a.tmps.size → (fl a D x).eval (.tmp d) = x d
  | e :: D, a, x, d, hd, hn, hs => by
    obtain ⟨h1, h2⟩ := List.nodup_cons.1 hn
    rw [fl]
    by_cases q : d = e
    · subst q
      rw [fl_eval_out D _ x h1, eval_put_same hs]
    · exact fl_eval D _ x ((List.mem_cons.1 hd).resolve_left q) h2 (by rw [put_size]; exact hs)
/-- What operation number i is: what it does, where its value goes, behind which others it comes. -/
def OpIs (ops : Array Oper) (i : Nat) (op : Op) (dst : Nat) (deps : List Nat) : Prop := ∃ o, ops[i]? = some o ∧ o.op = op ∧ o.dst = some dst ∧ o.guard = none ∧ (∀ e ∈ o.after, e.on ∈ deps) ∧ ∀ d ∈ deps, ∃ e ∈ o.after, Region.binds .any e = true ∧ e.on = d
theorem opIs_of {ops : Array Oper} {i : Nat} {o : Oper} {op : Op} {dst : Nat} {deps : List Nat} (h : ops[i]? = some o) (h1 : o.op = op) (h2 : o.dst = some dst) (h3 : o.guard = none) (hb : (o.after.toList.all (fun e => deps.contains e.on) && deps.all fun d => o.after.toList.any fun e => Region.binds .any e && e.on == d) = true) : OpIs ops i op dst deps := by
  rw [Bool.and_eq_true, List.all_eq_true, List.all_eq_true] at hb
  refine ⟨o, h, h1, h2, h3, fun e he => ?_, fun d hd => ?_⟩
  · simpa using hb.1 e (by simpa using he)
  · obtain ⟨e, he, hq⟩ := List.any_eq_true.1 (hb.2 d hd)
    rw [Bool.and_eq_true, beq_iff_eq] at hq
    exact ⟨e, by simpa using he, hq.1, hq.2⟩
/-- It has come up. -/
def Up (listed : Array Bool) (j : Nat) : Prop := listed.getD j false = true
theorem up_set {listed : Array Bool} {i j : Nat} (hi : i < listed.size) : Up (listed.setIfInBounds i true) j ↔ j = i ∨ Up listed j := by
  unfold Up
  by_cases h : j = i
  · subst h
    simp [hi]
  · simp [h, Ne.symm h]
theorem up_new {n j : Nat} : ¬ Up (Array.replicate n false) j := by
  unfold Up
  simp only [Array.getD_eq_getD_getElem?, Array.getElem?_replicate]
  split <;> simp
theorem op_ready {ops : Array Oper} {listed : Array Bool} {i : Nat} {op : Op} {dst : Nat} {deps : List Nat} (h : OpIs ops i op dst deps) (hi : i ∈ Region.ready .any ops listed) : ¬ Up listed i ∧ ∀ d ∈ deps, Up listed d := by
  obtain ⟨h1, o', ho', h2⟩ := mem_ready.1 hi
  obtain ⟨o, ho, -, -, -, -, h3⟩ := h
  obtain rfl : o = o' := Option.some.inj (ho.symm.trans ho')
  refine ⟨fun q => ?_, fun d hd => ?_⟩
  · have := getD_false h1
    unfold Up at q
    rw [Array.getElem?_toList] at this
    rw [Array.getD_eq_getD_getElem?, this] at q
    cases q
  · obtain ⟨e, he, hb, rfl⟩ := h3 d hd
    exact h2 e he hb
theorem op_up {ops : Array Oper} {listed : Array Bool} {i : Nat} {op : Op} {dst : Nat} {deps : List Nat} (h : OpIs ops i op dst deps) (hn : Region.ready .any ops listed = []) (hs : i < listed.size) (hd : ∀ d ∈ deps, Up listed d) : Up listed i := by
  obtain ⟨o, ho, -, -, -, h2, -⟩ := h
  cases hq : listed.getD i true with
  | true =>
    unfold Up
    rw [Array.getD_eq_getD_getElem?, Array.getElem?_eq_getElem hs] at hq ⊢
    exact hq
  | false =>
    have : i ∈ Region.ready .any ops listed := mem_ready.2 ⟨hq, o, ho, fun e he _ => hd _ (h2 e he)⟩
    rw [hn] at this
    cases this
theorem op_at {P : Program} {ops : Array Oper} {Q : Exit → Act → World → Prop} {i : Nat} {op : Op} {dst : Nat} {deps : List Nat} {a : Act} {w : World} {K : Act → World → Prop} (h : OpIs ops i op dst deps) (hw : ∀ o : Oper, o.op = op → o.dst = some dst → o.wp P a w K Q) : wpOp P ops Q i K a w := by
  obtain ⟨o, ho, h1, h2, h3, -, -⟩ := h
  exact wpOp_at ho h3 (hw o h1 h2)
/-- What has come up has those behind which it comes. -/
def Shut (ops : Array Oper) (listed : Array Bool) : Prop := ∀ i o, ops[i]? = some o → Up listed i → ∀ e ∈ o.after, Region.binds .any e = true → Up listed e.on
theorem shut_up {ops : Array Oper} {listed : Array Bool} {i : Nat} {op : Op} {dst : Nat} {deps : List Nat} (h : OpIs ops i op dst deps) (hs : Shut ops listed) (hu : Up listed i) : ∀ d ∈ deps, Up listed d := fun d hd => by
  obtain ⟨o, ho, -, -, -, -, h3⟩ := h
  obtain ⟨e, he, hb, rfl⟩ := h3 d hd
  exact hs i o ho hu e he hb
theorem region_inv2 {P : Program} {ops : Array Oper} {Q : Exit → Act → World → Prop} {id : Nat} {a : Act} {w : World} {I : Array Bool → Act → World → Prop} (hm : P.follows .mixedOrders = true) (start : I (Array.replicate ops.size false) a w.drew)
    (step : ∀ listed a w i, I listed a w → Shut ops listed → i ∈ Region.ready .any ops listed → wpOp P ops Q i (fun a' w' => I (listed.setIfInBounds i true) a' w') a w) (done : ∀ listed a w, I listed a w → Region.ready .any ops listed = [] → Q .normal a w) : (Code.region id ops true).wp P Q a w := by
  refine region_inv (I := fun listed a w => I listed a w ∧ Shut ops listed) hm ⟨start, fun i o _ hu => absurd hu up_new⟩ (fun listed a w i h hi => ?_) fun listed a w h hr => done listed a w h.1 hr
  refine wpOp_mono (fun a' w' h' => ⟨h', ?_⟩) (step listed a w i h.1 h.2 hi)
  obtain ⟨h1, o', ho', h2⟩ := mem_ready.1 hi
  have hil : i < listed.size := by
    have := getD_false h1
    have := (List.getElem?_eq_some_iff.1 this).1
    simpa using this
  intro j o ho hu e he hb
  rw [up_set hil] at hu ⊢
  rcases hu with rfl | hu
  · obtain rfl : o = o' := Option.some.inj (ho.symm.trans ho')
    exact .inr (h2 e he hb)
  · exact .inr (h.2 j o ho hu e he hb)
end Go.Proofs.YtccnomomdfjpmaaDoor
