/- A program in memory. A statement that leaves its order open and ends with one store that waits for all the rest: what the store changes need hold no longer. -/
import Derived.Test.YtpphjddljngkmaaDoorStCP
import Derived.Test.YtpphjddljngkmaaDoorRowBaseM
import Derived.Deep.MidRow
import Derived.OrdersHeld
import Derived.StillTail
import Derived.RegionTactic
import Derived.WalkKit
import Derived.Below
import Derived.KernelRfl
namespace Go.Proofs.YtpphjddljngkmaaDoor
open Go.RowKit

/-- Where a program lies. -/
structure PV where
  xa : Option Addr
  gb : Nat
  ob : Nat
  cap : Nat
def PV.v (V : PV) (n : Nat) : Value := .slice V.xa n V.cap
structure PIn (w : World) (V : PV) (P : List SV) : Prop where
  cap : P.length ≤ V.cap
  max : V.cap ≤ maxLen
  at_ : 0 < P.length → V.xa = some ⟨V.gb, V.ob, none⟩
  row : ∀ (i : Nat) S, P[i]? = some S → w.rangeAt V.gb (V.ob + i * 24) S.cells.toList ∧ S.In w
theorem idx24 {g o n cap i : Nat} (hi : i < n) (w : World) :
    (Instr.indexAt 22 (.slice (some ⟨g, o, none⟩) n cap) (.int .i64 (i : Int))).run Tryd.prog w = .ok (.pointer (some ⟨g, o + i * 24, none⟩)) w := by
  have h0 : (0 : Int) ≤ (i : Int) ∧ (i : Int) < (n : Int) := by omega
  cases hq : Tryd.prog.info? 49 with
  | none => have := size_stmt; simp [hq] at this
  | some x =>
    have hz : x.size = 24 := by have := size_stmt; simpa [hq] using this
    simp [Instr.indexAt, asIntOf, run_underlying Tryd.underlying22, h0, sizeOf, typeInfo, hq, hz, Addr.add_lit]
    intro h
    omega
theorem PIn.later {w w' : World} {V : PV} {P : List SV} (h : PIn w V P) (hb : Below w.heap.size w w') : PIn w' V P :=
  ⟨h.cap, h.max, h.at_, fun i S hS => ⟨fun j v hj => cell_later hb ((h.row i S hS).1 j v hj), (h.row i S hS).2.later hb⟩⟩
end Go.Proofs.YtpphjddljngkmaaDoor

namespace Go.Proofs.YtpphjddljngkmaaDoor
open Go

section
variable {P : Program} {ops : Array Oper} {Q : Exit → Act → World → Prop} {S : World → Prop} {n : Nat}

/-- Whatever order: S holds behind each operation but the last one, number n. -/
def AnyE (P : Program) (ops : Array Oper) (Q : Exit → Act → World → Prop) (S : World → Prop) (n : Nat) : Nat → Array Bool → Act → World → Prop
  | 0, listed, a, w => Region.ready .any ops listed = [] ∧ Q .normal a w
  | f + 1, listed, a, w => (Region.ready .any ops listed = [] → Q .normal a w) ∧
    ∀ i ∈ Region.ready .any ops listed, wpOp P ops Q i (fun a' w' => (i ≠ n → S w') ∧ AnyE P ops Q S n f (listed.setIfInBounds i true) a' w') a w
theorem AnyE.any : ∀ (f : Nat) (listed : Array Bool) (a : Act) (w : World), AnyE P ops Q S n f listed a w → wpAny P .any ops Q f listed a w
  | 0, _, _, _, h => h
  | f + 1, _, _, _, h => ⟨h.1, fun i hi => wpOp_mono (fun a' w' k => AnyE.any f _ a' w' k.2) (h.2 i hi)⟩
/-- The last operation waits for all the others. -/
structure Sink (ops : Array Oper) (n : Nat) : Prop where
  sel : Region.noSelect ops = true
  sink : Region.sinkB .any ops n = true
  chain : Region.chainB .any ops n = true
  size : ops.size = n + 1
abbrev Inv (ops : Array Oper) (n : Nat) (listed : Array Bool) : Prop := HeadInv .any ops n listed
theorem inv_start : Inv ops n (Array.replicate ops.size false) :=
  ⟨by simp, fun j oj _ h => (by rw [getD_replicate_false] at h; cases h), fun t _ ht => (by simp [ht])⟩
theorem firstE {i : Nat} {oi : Oper} {v : Value} (F : Sink ops n) (hi : ops[i]? = some oi) (hin : i < n) (hQ : ∀ c a w, Q (.panic c) (a.put oi.dst v) w → Q (.panic c) a w) :
    ∀ (f : Nat) (listed : Array Bool) (a : Act) (w : World), Inv ops n listed →
      (∀ j oj, ops[j]? = some oj → j ≠ i → listed.getD j true = false → (∀ e ∈ oj.after, Region.binds .any e = true → e.on ≠ i) → oi.apart ops oj = true) →
      i ∈ Region.ready .any ops listed → YieldsIf P ops S oi v a → S w →
      AnyE P ops Q S n f (listed.setIfInBounds i true) (a.put oi.dst v) w → AnyE P ops Q S n (f + 1) listed a w := by
  have hsel := Region.noSelect_spec F.sel
  intro f
  induction f with
  | zero =>
    intro listed a w _ _ hr hy hS H
    refine ⟨fun h => absurd hr (by rw [h]; exact List.not_mem_nil), fun j hj => ?_⟩
    by_cases e : j = i
    · subst e
      exact hy.wpOp hi hS ⟨fun _ => hS, H⟩
    · exact absurd (ready_mono hj e) (by rw [H.1]; exact List.not_mem_nil)
  | succ f ih =>
    intro listed a w inv hfree hr hy hS H
    refine ⟨fun h => absurd hr (by rw [h]; exact List.not_mem_nil), fun j hj => ?_⟩
    by_cases e : j = i
    · subst e
      exact hy.wpOp hi hS ⟨fun _ => hS, H⟩
    · obtain ⟨hju, oj, hoj, hall⟩ := mem_ready.1 hj
      have hiu := (mem_ready.1 hr).1
      have hjl : j < ops.size := (Array.getElem?_eq_some_iff.1 hoj).1
      have hjn : j ≠ n := fun x => tail_waits F.sink F.chain (by rw [F.size]; omega) inv (n - i) i rfl hin hiu j (by omega) hj
      have hjn' : j < n := by have := F.size; omega
      have hno : ∀ e ∈ oj.after, Region.binds .any e = true → e.on ≠ i := fun e he hb x => by
        have h1 := hall e he hb
        rw [x, getD_both hiu] at h1
        cases h1
      have h2 := wpOp_putIf hoj (hfree j oj hoj e hju hno) (fun cs b => hsel i oi cs b hi) (fun cs b => hsel j oj cs b hoj) hQ hy (H.2 j (ready_mono hj e))
      refine wpOp_mono (fun a' w' h3 => ?_) h2
      obtain ⟨hy', hS', h4⟩ := h3
      refine ⟨fun _ => hS' hjn, ih (listed.setIfInBounds j true) a' w' (inv.set hj hjn') (fun k ok hk hki hun hk2 => ?_) (ready_mono hr (Ne.symm e)) hy' (hS' hjn) ?_⟩
      · refine hfree k ok hk hki ?_ hk2
        by_cases x : j = k
        · rw [← x]; exact hju
        · rw [getD_set_ne true x] at hun; exact hun
      · rw [Array.setIfInBounds_comm _ _ e]; exact h4
/-- An operation is taken first. -/
theorem takeE {i : Nat} {oi : Oper} {v : Value} {f : Nat} {listed : Array Bool} {a : Act} {w : World} (F : Sink ops n) (hi : ops[i]? = some oi) (hf : Region.free .any ops listed i = true)
    (hr : (Region.ready .any ops listed).contains i = true) (hin : decide (i < n) = true) (hQ : ∀ c a w, Q (.panic c) (a.put oi.dst v) w → Q (.panic c) a w) (hS : S w) (hy : YieldsIf P ops S oi v a)
    (h : Inv ops n (listed.setIfInBounds i true) → AnyE P ops Q S n f (listed.setIfInBounds i true) (a.put oi.dst v) w) : Inv ops n listed → AnyE P ops Q S n (f + 1) listed a w := fun inv =>
  have hr' : i ∈ Region.ready .any ops listed := by simpa using hr
  firstE F hi (of_decide_eq_true hin) hQ f listed a w inv (Region.free_spec hi hf) hr' hy hS (h (inv.set hr' (of_decide_eq_true hin)))
/-- One operation alone may come up, and is carried out. -/
theorem stepE {i : Nat} {o : Oper} {f : Nat} {listed : Array Bool} {a : Act} {w : World} (hr : Region.ready .any ops listed = [i]) (hi : ops[i]? = some o) (hin : decide (i < n) = true)
    (h : ∀ K : Act → World → Prop, (∀ a' w', S w' → (Inv ops n (listed.setIfInBounds i true) → AnyE P ops Q S n f (listed.setIfInBounds i true) a' w') → K a' w') →
      if Region.wanted o (yielded ops a.tmps) = true then Oper.wp P o a w K Q else K (a.put o.dst undef) w) : Inv ops n listed → AnyE P ops Q S n (f + 1) listed a w := fun inv =>
  ⟨fun h0 => absurd (hr ▸ h0) (by simp), fun j hj => by
    have hj' : j = i := by rw [hr] at hj; simpa using hj
    subst hj'
    exact wpOp_step hi fun K hK => h K fun a' w' hS hA => hK a' w' ⟨fun _ => hS, hA (inv.set hj (of_decide_eq_true hin))⟩⟩
/-- The last operation. -/
theorem lastE {o : Oper} {f : Nat} {listed : Array Bool} {a : Act} {w : World} (hr : Region.ready .any ops listed = [n]) (hi : ops[n]? = some o) (hd : Region.ready .any ops (listed.setIfInBounds n true) = [])
    (h : ∀ K : Act → World → Prop, (∀ a' w', Q .normal a' w' → K a' w') →
      if Region.wanted o (yielded ops a.tmps) = true then Oper.wp P o a w K Q else K (a.put o.dst undef) w) : Inv ops n listed → AnyE P ops Q S n (f + 1) listed a w := fun _ =>
  ⟨fun h0 => absurd (hr ▸ h0) (by simp), fun j hj => by
    have hj' : j = n := by rw [hr] at hj; simpa using hj
    subst hj'
    refine wpOp_step hi fun K hK => h K fun a' w' hq => hK a' w' ⟨fun x => absurd rfl x, ?_⟩
    cases f with
    | zero => exact ⟨hd, hq⟩
    | succ f => exact ⟨fun _ => hq, by rw [hd]; exact fun _ h => absurd h List.not_mem_nil⟩⟩
theorem stepQ (i : Nat) {o : Oper} {f : Nat} {listed : Array Bool} {a : Act} {w : World}
    (h : ∀ K : Act → World → Prop, (∀ a' w', S w' → (Inv ops n (listed.setIfInBounds i true) → AnyE P ops Q S n f (listed.setIfInBounds i true) a' w') → K a' w') →
      if Region.wanted o (yielded ops a.tmps) = true then Oper.wp P o a w K Q else K (a.put o.dst undef) w)
    (hr : Region.ready .any ops listed = [i] := by kernel_rfl) (hi : ops[i]? = some o := by rfl) (hin : decide (i < n) = true := by rfl) : Inv ops n listed → AnyE P ops Q S n (f + 1) listed a w :=
  stepE hr hi hin h
theorem startE {id : Nat} {a : Act} {w : World} (hm : P.follows .mixedOrders = true) (n : Nat) (S : World → Prop) (F : Sink ops n) (h : Sink ops n → Inv ops n (Array.replicate ops.size false) → AnyE P ops Q S n ops.size (Array.replicate ops.size false) a w.drew) : (Code.region id ops true).wp P Q a w :=
  wp_region_any hm (AnyE.any _ _ _ _ (h F inv_start))
theorem startQ {id : Nat} {a : Act} {w : World} (n : Nat) (S : World → Prop) (h : Sink ops n → Inv ops n (Array.replicate ops.size false) → AnyE P ops Q S n ops.size (Array.replicate ops.size false) a w.drew)
    (hm : P.follows .mixedOrders = true := by kernel_rfl) (h1 : Region.noSelect ops = true := by kernel_rfl) (h2 : Region.sinkB .any ops n = true := by kernel_rfl) (h3 : Region.chainB .any ops n = true := by kernel_rfl) (h4 : ops.size = n + 1 := by rfl) : (Code.region id ops true).wp P Q a w :=
  startE hm n S ⟨h1, h2, h3, h4⟩ h
end
theorem wanted_op2 {P : Program} {ops : Array Oper} {o : Oper} {a : Act} {w : World} {K : Act → World → Prop} {Q : Exit → Act → World → Prop} {E : Prop} (hg : o.guard = none) (h : Oper.wp P o a w K Q) : if Region.wanted o (yielded ops a.tmps) = true then Oper.wp P o a w K Q else E := by
  rw [if_pos (by simp [Region.wanted, hg])]
  exact h
end Go.Proofs.YtpphjddljngkmaaDoor
