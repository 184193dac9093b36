/- Zeros appended to the machine's nodes. A statement that leaves its order open and ends with one store that waits for all the rest: what the store changes need hold no longer. What fill does with a pattern of kinds that bear no name: its nodes are laid among the machine's. What sets.Of does: the set of the bytes that stand in a text. -/
import Derived.Test.YtbmngbpillihaaaDoorScanSimM
import Derived.Lib.AppendZeros
import Derived.Lib.AppendZerosOnto
import Derived.OrdersHeld
import Derived.StillTail
import Derived.RegionTactic
import Derived.Maps.RangeWalk
import Derived.Deep.RegionHeld3
import Derived.BigRegion
import Derived.Deep.QuietTactic
import Derived.BigQuiet
import Derived.Deep.RegionWith
import Derived.Outline
namespace Go.Proofs.YtbmngbpillihaaaDoor
open Go.RowKit

def nd0 : Nd := ⟨0, ⟨#[]⟩, 0, ⟨#[]⟩, 0, 0, 0, none, 0, 0⟩
def nz : Value := .agg #[.int .i64 0, .string ⟨#[]⟩, .int .i64 0, .string ⟨#[]⟩, .int .i64 0, .int .i64 0, .int .i64 0, .pointer none, .int .i64 0, .int .i64 0]
theorem info_node : (Tryd.prog.info? 121).map (fun i => (i.zero, i.size, i.bytes)) = some (some nz, 10, 96) := by kernel_rfl
theorem nz_at : ∀ r, r < 10 → (ndV nd0)[r]? = some (nz.cells[r]!) := by
  intro r hr
  rcases (show r = 0 ∨ r = 1 ∨ r = 2 ∨ r = 3 ∨ r = 4 ∨ r = 5 ∨ r = 6 ∨ r = 7 ∨ r = 8 ∨ r = 9 by omega) with rfl | rfl | rfl | rfl | rfl | rfl | rfl | rfl | rfl | rfl <;> rfl
theorem zeros_list (k : Nat) : (Builtin.zeroCells nz.cells k).toList = flat ndV (List.replicate k nd0) := by
  have hs : nz.cells.size = 10 := rfl
  have hl : (flat ndV (List.replicate k nd0)).length = k * 10 := by rw [flat_len ndV_len, List.length_replicate]
  apply List.ext_getElem?
  intro j
  unfold Builtin.zeroCells
  rw [hs]
  by_cases hj : j < k * 10
  · have h1 := flat_get ndV_len (List.replicate k nd0) (j / 10) (j % 10) nd0 (by rw [List.getElem?_replicate, if_pos (by omega)]) (by omega)
    rw [show j / 10 * 10 + j % 10 = j by omega, nz_at _ (by omega)] at h1
    rw [h1]
    simp [hj]
  · rw [List.getElem?_eq_none (l := flat ndV (List.replicate k nd0)) (by rw [hl]; omega), List.getElem?_eq_none (by simp; omega)]
theorem zeros_one (k : Nat) : ∀ u ∈ flat ndV (List.replicate k nd0), u.oneCell' = true := by
  intro u hu
  obtain ⟨x, _, hx⟩ := List.mem_flatMap.1 hu
  exact ndV_one x u hx
theorem append_zeros {w : World} {B : Nat} {v : Value} {l : List Nd} (h : Row w B 121 10 ndV v l) (hB : B ≤ w.heap.size) (k : Nat) (hk : k ≤ 1000000) (hl : l.length ≤ 1000000) (ty : TypeId) :
    ∃ v' w', (Builtin.append_ #[66, 3] ty #[v, .int .i64 (k : Int)]).run Tryd.prog w = .ok v' w' ∧ Row w' B 121 10 ndV v' (l ++ List.replicate k nd0) ∧ w.grownBy w' v.ownBlock ∧ (v'.ownBlock = v.ownBlock ∨ v'.ownBlock = some w.heap.size) := by
  have hinf := info_node
  cases hi : Tryd.prog.info? 121 with
  | none => simp [hi] at hinf
  | some i =>
    simp only [hi, Option.map_some, Option.some.injEq, Prod.mk.injEq] at hinf
    obtain ⟨hz0, hz1, hz2⟩ := hinf
    have hlen : (l ++ List.replicate k nd0).length = l.length + k := by simp
    have hfl := flat_len ndV_len l
    have hzl : (Builtin.zeroCells nz.cells k).toList.length = k * 10 := by rw [zeros_list, flat_len ndV_len, List.length_replicate]
    have grown : ∀ old, old < l.length + k → ∀ row, Row (w.drew.alloc (.cells ((flat ndV l).toArray ++ Builtin.zeroCells nz.cells k ++ Builtin.zeroCells nz.cells (grownCap w (l.length + k) old 121 - (l.length + k))) 121)) B 121 10 ndV (.slice (some ⟨w.heap.size, 0, none⟩) (l.length + k) (grownCap w (l.length + k) old 121)) (l ++ List.replicate k nd0) ∧ w.grownBy (w.drew.alloc (.cells ((flat ndV l).toArray ++ Builtin.zeroCells nz.cells k ++ Builtin.zeroCells nz.cells (grownCap w (l.length + k) old 121 - (l.length + k))) 121)) row := by
      intro old ho row
      have hge := grownCap_ge w (l.length + k) old 121
      have hcm := grownCap_le_maxLen w (l.length + k) old 121 (by unfold maxLen; omega)
      refine ⟨⟨flat_len ndV_len _, .inr ⟨w.heap.size, _, _, by rw [hlen], hB, heap_alloc_new w.drew _, by rw [hlen]; exact hge, hcm, ?_, ?_⟩⟩, ⟨rfl, rfl, rfl, by simp, fun j hj _ => Below.heap_alloc w.drew _ j hj⟩⟩
      · have s1 := size_zeroCells nz.cells k
        have s2 := size_zeroCells nz.cells (grownCap w (l.length + k) old 121 - (l.length + k))
        have hs : nz.cells.size = 10 := rfl
        rw [hs] at s1 s2
        simp only [Array.size_append, List.size_toArray, s1, s2, hfl]
        omega
      · rw [hlen, flat_append, ← zeros_list k]
        simp only [Array.toList_append, List.append_assoc]
        rw [← List.append_assoc]
        have : (l.length + k) * 10 = (flat ndV l ++ (Builtin.zeroCells nz.cells k).toList).length := by rw [List.length_append, hfl, hzl]; omega
        rw [this]
        exact List.take_left
    rcases h.2 with ⟨hv, h0⟩ | ⟨g, cap, cur, hv, hbg, hg, hnc, hcm, hcs, htake⟩
    · have hl0 : l = [] := List.eq_nil_of_length_eq_zero h0
      subst hl0 hv
      by_cases hk0 : k = 0
      · subst hk0
        refine ⟨.slice none 0 0, w, ?_, ?_, ⟨rfl, rfl, rfl, Nat.le_refl _, fun _ _ _ => rfl⟩, .inl rfl⟩
        · simp [Builtin.append_, run_underlying Tryd.underlying66, run_underlying Tryd.underlying3, sizeOf, typeInfo, hi, asInt, asIntOf, IntKind.wrap_i64]
        · exact ⟨rfl, .inl ⟨rfl, rfl⟩⟩
      · have hr := Lib.run_append_nil_zeros (P := Tryd.prog) w 66 3 ty 121 i nz .i64 .i64 Tryd.underlying66 Tryd.underlying3 hi hz0 k (by omega) (by omega) (by omega) (by rw [hz2]; omega)
        have hgr := grown 0 (by simp; omega) (Value.ownBlock (.slice none 0 0))
        simp only [List.length_nil, Nat.zero_add] at hgr
        have he : (flat ndV ([] : List Nd)).toArray = #[] := rfl
        rw [he, Array.empty_append] at hgr
        exact ⟨_, _, hr, hgr.1, hgr.2, .inr rfl⟩
    · subst hv
      by_cases hroom : l.length + k ≤ cap
      · have hst := run_storeCells_at Tryd.prog g (l.length * 10) 121 (Builtin.zeroCells nz.cells k).toList 0 cur w hg (by rw [hzl, hcs]; omega) (by rw [zeros_list]; exact zeros_one k)
        simp only [Nat.add_zero] at hst
        have hw : IntKind.i64.wrap (k : Int) = k := by rw [IntKind.wrap_i64]; omega
        have h48 : ¬ (281474976710656 < (k : Int) * (96 : Int)) := by omega
        have hk0 : ¬ ((k : Int) < 0) := by omega
        refine ⟨.slice (some ⟨g, 0, none⟩) (l.length + k) cap, w.setRow g (cur.toList.take (l.length * 10) ++ (Builtin.zeroCells nz.cells k).toList ++ cur.toList.drop (l.length * 10 + (Builtin.zeroCells nz.cells k).toList.length)).toArray, ?_, ⟨flat_len ndV_len _, .inr ⟨g, cap, _, by rw [hlen], hbg, setRow_heap w g cur _ _ _ hg, by rw [hlen]; exact hroom, hcm, ?_, ?_⟩⟩, ⟨rfl, rfl, rfl, by simp, fun j _ hj => setRow_other w g j _ (fun e => hj (by simp [Value.ownBlock, e]))⟩, .inl rfl⟩
        · by_cases hkz : k = 0
          · subst hkz
            have hz00 : (Builtin.zeroCells nz.cells 0).toList = [] := by simp [Builtin.zeroCells]
            rw [hz00] at hst ⊢
            simp [Builtin.append_, run_underlying Tryd.underlying66, run_underlying Tryd.underlying3, sizeOf, typeInfo, hi, asInt, asIntOf, IntKind.wrap_i64, hz1, hz2, Addr.add_lit, hnc]
            have hst' : (storeCells ⟨g, l.length * 10, none⟩ []).run Tryd.prog w = .ok () (w.setRow g cur) := by simpa using hst
            rw [hst']
            rfl
          · simp [Builtin.append_, run_underlying Tryd.underlying66, run_underlying Tryd.underlying3, sizeOf, typeInfo, zeroValue, hi, hz0, asInt, asIntOf, hw, hk0, hz1, hz2, h48, hroom, Addr.add_lit, hst]
            intro h
            omega
        · simp only [List.size_toArray, List.length_append, List.length_take, List.length_drop, Array.length_toList]
          rw [hcs]
          have e1 := hzl
          rw [Array.length_toList] at e1
          rw [e1]
          omega
        · rw [hlen, flat_append, ← zeros_list k, ← htake]
          simp only [List.append_assoc]
          rw [← List.append_assoc]
          have e2 : (cur.toList.take (l.length * 10) ++ (Builtin.zeroCells nz.cells k).toList).length = (l.length + k) * 10 := by
            have e3 : cur.toList.length = cap * 10 := hcs
            rw [List.length_append, hzl, List.length_take, e3]
            have e4 : l.length ≤ cap := hnc
            omega
          rw [← e2]
          exact List.take_left
      · have hold : (Builtin.firstCells i.size l.length (.slice (some ⟨g, 0, none⟩) l.length cap)).run Tryd.prog w.drew = .ok (flat ndV l).toArray w.drew :=
          run_firstCells_some (P := Tryd.prog) w.drew i.size l.length ⟨g, 0, none⟩ l.length cap (flat ndV l) (by rw [hz1, hfl]) (by
            intro j u hj
            have := World.ownsRow.cells h (g := g) rfl j u hj
            simpa using this)
        have hr := Lib.run_append_grow_zeros (P := Tryd.prog) w 66 3 ty 121 i nz .i64 .i64 Tryd.underlying66 Tryd.underlying3 hi hz0 (some ⟨g, 0, none⟩) l.length cap (flat ndV l) hold k (by omega) (by omega) (by omega) (by omega) (by rw [hz2]; omega) (by rw [hz2]; exact growslice_fits (by omega) (by omega))
        have hgr := grown cap (by omega) (Value.ownBlock (.slice (some ⟨g, 0, none⟩) l.length cap))
        exact ⟨_, _, hr, hgr.1, hgr.2, .inr rfl⟩
theorem step_zeros {w : World} {ops : Array Oper} {o : Oper} {a : Act} {K : Act → World → Prop} {Q : Exit → Act → World → Prop} {E : Prop} (hgd : o.guard = none) (s x : Operand)
    (ho : o.op = .call { callee := .builtin .append, args := #[s, x], argTypes := #[66, 3] }) {B : Nat} {v : Value} {l : List Nd} (h : Row w B 121 10 ndV v l) (hB : B ≤ w.heap.size) (k : Nat) (hs : a.eval s = v) (hx : a.eval x = .int .i64 (k : Int)) (hk : k ≤ 1000000) (hl : l.length ≤ 1000000)
    (hK : ∀ v' w', Row w' B 121 10 ndV v' (l ++ List.replicate k nd0) → w.grownBy w' v.ownBlock → (v'.ownBlock = v.ownBlock ∨ v'.ownBlock = some w.heap.size) → K (a.put o.dst v') w') :
    if Region.wanted o (yielded ops a.tmps) = true then Oper.wp Tryd.prog o a w K Q else E := by
  have hw : Region.wanted o (yielded ops a.tmps) = true := by simp [Region.wanted, hgd]
  rw [if_pos hw]
  obtain ⟨v', w', hr, h2, h3, h4⟩ := append_zeros h hB k hk hl o.type
  unfold Oper.wp execOp
  simp only [ho, resolve, invoke, builtin, Sem.run_bind, Sem.run_pure, Result.andThen_ok, List.map_toArray, List.map_cons, List.map_nil, hs, hx, hr]
  exact hK v' w' h2 h3 h4
theorem Rep.grownN {w w' : World} {B g : Nat} {m : MS} {N : List Nd} {O : List Int} {W : List Wr} {C : List Cr} {G S : List Gft} {v : Value} {l : List Nd} (h : Rep w B g m N O W C G S) (hg : w.grownBy w' m.nv.ownBlock) (hr : Row w' B 121 10 ndV v l) : Rep (w'.setCell ⟨g, 2, none⟩ v) B g { m with nv := v } l O W C G S := by
  have hb : w'.heap[g]? = some (.cells m.row 71 (0, 0)) := grown_blk h.blk (fun j hj => h.nodes.type hj) (by decide) hg
  have hBut : But g w' (w'.setCell ⟨g, 2, none⟩ v) := (But.refl g w').setCell 2 v
  exact ⟨h.low, heap_setCell_same w' g 2 _ _ v hb, hr.keepBut hb (by decide) hBut, (h.roots.keep h.nodes (by decide) hg).keepBut hb (by decide) hBut, (h.works.keep h.nodes (by decide) hg).keepBut hb (by decide) hBut, (h.choices.keep h.nodes (by decide) hg).keepBut hb (by decide) hBut, (h.given.keep h.nodes (by decide) hg).keepBut hb (by decide) hBut, (h.said.keep h.nodes (by decide) hg).keepBut hb (by decide) hBut, h.apart, Nat.le_trans h.base (Nat.le_trans hg.size hBut.size)⟩
theorem Fr.growN {g : Nat} {m : MS} {w w' : World} {v : Value} (hg : w.grownBy w' m.nv.ownBlock) (hv : v.ownBlock = m.nv.ownBlock ∨ v.ownBlock = some w.heap.size) : Fr g m { m with nv := v } w (w'.setCell ⟨g, 2, none⟩ v) :=
  fr_grow 2 hg (fun i h => .inr (.inl h)) hv fun i h => by
    rcases h with x | x | x | x | x | x | x
    · exact .inl (.inl x)
    · exact .inr x
    · exact .inl (.inr (.inr (.inl x)))
    · exact .inl (.inr (.inr (.inr (.inl x))))
    · exact .inl (.inr (.inr (.inr (.inr (.inl x)))))
    · exact .inl (.inr (.inr (.inr (.inr (.inr (.inl x))))))
    · exact .inl (.inr (.inr (.inr (.inr (.inr (.inr x))))))
end Go.Proofs.YtbmngbpillihaaaDoor

namespace Go.Proofs.YtbmngbpillihaaaDoor
open Go

section
variable {P : Program} {ops : Array Oper} {Q : Exit → Act → World → Prop} {S : World → Prop} {n : Nat}

def AnyE (P : Program) (ops : Array Oper) (Q : Exit → Act → World → Prop) (S : World → Prop) (n : Nat) : Nat → Array Bool → Act → World → Prop
  | 0, listed, a, w => Region.ready .any ops listed = [] ∧ Q .normal a w
  | f + 1, listed, a, w => (Region.ready .any ops listed = [] → Q .normal a w) ∧
    ∀ i ∈ Region.ready .any ops listed, wpOp P ops Q i (fun a' w' => (i ≠ n → S w') ∧ AnyE P ops Q S n f (listed.setIfInBounds i true) a' w') a w
theorem AnyE.any : ∀ (f : Nat) (listed : Array Bool) (a : Act) (w : World), AnyE P ops Q S n f listed a w → wpAny P .any ops Q f listed a w
  | 0, _, _, _, h => h
  | f + 1, _, _, _, h => ⟨h.1, fun i hi => wpOp_mono (fun a' w' k => AnyE.any f _ a' w' k.2) (h.2 i hi)⟩
structure Sink (ops : Array Oper) (n : Nat) : Prop where
  sel : Region.noSelect ops = true
  sink : Region.sinkB .any ops n = true
  chain : Region.chainB .any ops n = true
  size : ops.size = n + 1
abbrev Inv (ops : Array Oper) (n : Nat) (listed : Array Bool) : Prop := HeadInv .any ops n listed
theorem inv_start : Inv ops n (Array.replicate ops.size false) :=
  ⟨by simp, fun j oj _ h => (by rw [getD_replicate_false] at h; cases h), fun t _ ht => (by simp [ht])⟩
theorem firstE {i : Nat} {oi : Oper} {v : Value} (F : Sink ops n) (hi : ops[i]? = some oi) (hin : i < n) (hQ : ∀ c a w, Q (.panic c) (a.put oi.dst v) w → Q (.panic c) a w) :
    ∀ (f : Nat) (listed : Array Bool) (a : Act) (w : World), Inv ops n listed →
      (∀ j oj, ops[j]? = some oj → j ≠ i → listed.getD j true = false → (∀ e ∈ oj.after, Region.binds .any e = true → e.on ≠ i) → oi.apart ops oj = true) →
      i ∈ Region.ready .any ops listed → YieldsIf P ops S oi v a → S w →
      AnyE P ops Q S n f (listed.setIfInBounds i true) (a.put oi.dst v) w → AnyE P ops Q S n (f + 1) listed a w := by
  have hsel := Region.noSelect_spec F.sel
  intro f
  induction f with
  | zero =>
    intro listed a w _ _ hr hy hS H
    refine ⟨fun h => absurd hr (by rw [h]; exact List.not_mem_nil), fun j hj => ?_⟩
    by_cases e : j = i
    · subst e
      exact hy.wpOp hi hS ⟨fun _ => hS, H⟩
    · exact absurd (ready_mono hj e) (by rw [H.1]; exact List.not_mem_nil)
  | succ f ih =>
    intro listed a w inv hfree hr hy hS H
    refine ⟨fun h => absurd hr (by rw [h]; exact List.not_mem_nil), fun j hj => ?_⟩
    by_cases e : j = i
    · subst e
      exact hy.wpOp hi hS ⟨fun _ => hS, H⟩
    · obtain ⟨hju, oj, hoj, hall⟩ := mem_ready.1 hj
      have hiu := (mem_ready.1 hr).1
      have hjl : j < ops.size := (Array.getElem?_eq_some_iff.1 hoj).1
      have hjn : j ≠ n := fun x => tail_waits F.sink F.chain (by rw [F.size]; omega) inv (n - i) i rfl hin hiu j (by omega) hj
      have hjn' : j < n := by have := F.size; omega
      have hno : ∀ e ∈ oj.after, Region.binds .any e = true → e.on ≠ i := fun e he hb x => by
        have h1 := hall e he hb
        rw [x, getD_both hiu] at h1
        cases h1
      have h2 := wpOp_putIf hoj (hfree j oj hoj e hju hno) (fun cs b => hsel i oi cs b hi) (fun cs b => hsel j oj cs b hoj) hQ hy (H.2 j (ready_mono hj e))
      refine wpOp_mono (fun a' w' h3 => ?_) h2
      obtain ⟨hy', hS', h4⟩ := h3
      refine ⟨fun _ => hS' hjn, ih (listed.setIfInBounds j true) a' w' (inv.set hj hjn') (fun k ok hk hki hun hk2 => ?_) (ready_mono hr (Ne.symm e)) hy' (hS' hjn) ?_⟩
      · refine hfree k ok hk hki ?_ hk2
        by_cases x : j = k
        · rw [← x]; exact hju
        · rw [getD_set_ne true x] at hun; exact hun
      · rw [Array.setIfInBounds_comm _ _ e]; exact h4
theorem takeE {i : Nat} {oi : Oper} {v : Value} {f : Nat} {listed : Array Bool} {a : Act} {w : World} (F : Sink ops n) (hi : ops[i]? = some oi) (hf : Region.free .any ops listed i = true)
    (hr : (Region.ready .any ops listed).contains i = true) (hin : decide (i < n) = true) (hQ : ∀ c a w, Q (.panic c) (a.put oi.dst v) w → Q (.panic c) a w) (hS : S w) (hy : YieldsIf P ops S oi v a)
    (h : Inv ops n (listed.setIfInBounds i true) → AnyE P ops Q S n f (listed.setIfInBounds i true) (a.put oi.dst v) w) : Inv ops n listed → AnyE P ops Q S n (f + 1) listed a w := fun inv =>
  have hr' : i ∈ Region.ready .any ops listed := by simpa using hr
  firstE F hi (of_decide_eq_true hin) hQ f listed a w inv (Region.free_spec hi hf) hr' hy hS (h (inv.set hr' (of_decide_eq_true hin)))
theorem stepE {i : Nat} {o : Oper} {f : Nat} {listed : Array Bool} {a : Act} {w : World} (hr : Region.ready .any ops listed = [i]) (hi : ops[i]? = some o) (hin : decide (i < n) = true)
    (h : ∀ K : Act → World → Prop, (∀ a' w', S w' → (Inv ops n (listed.setIfInBounds i true) → AnyE P ops Q S n f (listed.setIfInBounds i true) a' w') → K a' w') →
      if Region.wanted o (yielded ops a.tmps) = true then Oper.wp P o a w K Q else K (a.put o.dst undef) w) : Inv ops n listed → AnyE P ops Q S n (f + 1) listed a w := fun inv =>
  ⟨fun h0 => absurd (hr ▸ h0) (by simp), fun j hj => by
    have hj' : j = i := by rw [hr] at hj; simpa using hj
    subst hj'
    exact wpOp_step hi fun K hK => h K fun a' w' hS hA => hK a' w' ⟨fun _ => hS, hA (inv.set hj (of_decide_eq_true hin))⟩⟩
theorem lastE {o : Oper} {f : Nat} {listed : Array Bool} {a : Act} {w : World} (hr : Region.ready .any ops listed = [n]) (hi : ops[n]? = some o) (hd : Region.ready .any ops (listed.setIfInBounds n true) = [])
    (h : ∀ K : Act → World → Prop, (∀ a' w', Q .normal a' w' → K a' w') →
      if Region.wanted o (yielded ops a.tmps) = true then Oper.wp P o a w K Q else K (a.put o.dst undef) w) : Inv ops n listed → AnyE P ops Q S n (f + 1) listed a w := fun _ =>
  ⟨fun h0 => absurd (hr ▸ h0) (by simp), fun j hj => by
    have hj' : j = n := by rw [hr] at hj; simpa using hj
    subst hj'
    refine wpOp_step hi fun K hK => h K fun a' w' hq => hK a' w' ⟨fun x => absurd rfl x, ?_⟩
    cases f with
    | zero => exact ⟨hd, hq⟩
    | succ f => exact ⟨fun _ => hq, by rw [hd]; exact fun _ h => absurd h List.not_mem_nil⟩⟩
theorem startE {id : Nat} {a : Act} {w : World} (hm : P.follows .mixedOrders = true) (n : Nat) (S : World → Prop) (F : Sink ops n) (h : Sink ops n → Inv ops n (Array.replicate ops.size false) → AnyE P ops Q S n ops.size (Array.replicate ops.size false) a w.drew) : (Code.region id ops true).wp P Q a w :=
  wp_region_any hm (AnyE.any _ _ _ _ (h F inv_start))
end
end Go.Proofs.YtbmngbpillihaaaDoor

namespace Go.Proofs.YtbmngbpillihaaaDoor
open Go.RowKit

theorem RepNset {w : World} {B g : Nat} {m : MS} {N : List Nd} {O : List Int} {W : List Wr} {C : List Cr} {G S : List Gft} (h : Rep w B g m N O W C G S) {gn n cap a k : Nat} {x y : Nd} {v : Value} (hv : m.nv = .slice (some ⟨gn, 0, none⟩) n cap) (hx : N[a]? = some x) (hk : k < 10) (hy : ndV y = (ndV x).set k v) : Rep (w.setCell ⟨gn, a * 10 + k, none⟩ v) B g m (N.set a y) O W C G S := by
  have ho : m.nv.ownBlock = some gn := by rw [hv]; rfl
  obtain ⟨cur, hcur⟩ := h.nodes.type ho
  have hb : But gn w (w.setCell ⟨gn, a * 10 + k, none⟩ v) := (But.refl gn w).setCell _ v
  have hne : g ≠ gn := fun e => h.nodes.neBlk h.blk (by decide) (by rw [ho, e])
  exact ⟨h.low, hb.row hne h.blk, h.nodes.set ndV_len hv hx hk hy, h.roots.keepBut hcur (by decide) hb, h.works.keepBut hcur (by decide) hb, h.choices.keepBut hcur (by decide) hb, h.given.keepBut hcur (by decide) hb, h.said.keepBut hcur (by decide) hb, h.apart, Nat.le_trans h.base hb.size⟩
theorem FrNset {w : World} {g : Nat} {m : MS} {gn : Nat} (ho : m.nv.ownBlock = some gn) (k : Nat) (v : Value) : Fr g m m w (w.setCell ⟨gn, k, none⟩ v) :=
  ⟨rfl, rfl, rfl, by simp, fun i _ hn => heap_setCell_other w ⟨gn, k, none⟩ i v (fun e => hn (.inr (.inl (by rw [ho]; exact congrArg some e.symm)))), fun _ h => .inl h⟩
theorem RepNput {w : World} {B g : Nat} {m : MS} {N : List Nd} {O : List Int} {W : List Wr} {C : List Cr} {G S : List Gft} (h : Rep w B g m N O W C G S) {gn n cap a : Nat} {x : Nd} (hv : m.nv = .slice (some ⟨gn, 0, none⟩) n cap) (hx : N[a]? = some x) (y : Nd) (w' : World)
    (hw : w' = (((((((((w.setCell ⟨gn, a * 10, none⟩ (.int .i64 y.k)).setCell ⟨gn, a * 10 + 1, none⟩ (.string y.t)).setCell ⟨gn, a * 10 + 2, none⟩ (.int .i64 y.n)).setCell ⟨gn, a * 10 + 3, none⟩ (.string y.nm)).setCell ⟨gn, a * 10 + 4, none⟩ (.int .i64 y.ru)).setCell ⟨gn, a * 10 + 5, none⟩ (.int .i64 (y.fi : Int))).setCell ⟨gn, a * 10 + 6, none⟩ (.int .i64 (y.en : Int))).setCell ⟨gn, a * 10 + 7, none⟩ (.pointer (y.st.map fun b => ⟨b, 0, none⟩))).setCell ⟨gn, a * 10 + 8, none⟩ (.int .i64 y.fr)).setCell ⟨gn, a * 10 + 9, none⟩ (.int .i64 y.to)) :
    Rep w' B g m (N.set a y) O W C G S ∧ Fr g m m w w' := by
  have ho : m.nv.ownBlock = some gn := by rw [hv]; rfl
  have ha : a < N.length := (List.getElem?_eq_some_iff.1 hx).1
  have hset : ∀ (z : Nd), (N.set a z)[a]? = some z := fun z => by rw [List.getElem?_set_self ha]
  have r0 := RepNset (y := { x with k := y.k }) (k := 0) h hv hx (by decide) rfl
  have r1 := RepNset (y := { x with k := y.k, t := y.t }) (k := 1) r0 hv (hset _) (by decide) rfl
  rw [List.set_set] at r1
  have r2 := RepNset (y := { x with k := y.k, t := y.t, n := y.n }) (k := 2) r1 hv (hset _) (by decide) rfl
  rw [List.set_set] at r2
  have r3 := RepNset (y := { x with k := y.k, t := y.t, n := y.n, nm := y.nm }) (k := 3) r2 hv (hset _) (by decide) rfl
  rw [List.set_set] at r3
  have r4 := RepNset (y := { x with k := y.k, t := y.t, n := y.n, nm := y.nm, ru := y.ru }) (k := 4) r3 hv (hset _) (by decide) rfl
  rw [List.set_set] at r4
  have r5 := RepNset (y := { x with k := y.k, t := y.t, n := y.n, nm := y.nm, ru := y.ru, fi := y.fi }) (k := 5) r4 hv (hset _) (by decide) rfl
  rw [List.set_set] at r5
  have r6 := RepNset (y := { x with k := y.k, t := y.t, n := y.n, nm := y.nm, ru := y.ru, fi := y.fi, en := y.en }) (k := 6) r5 hv (hset _) (by decide) rfl
  rw [List.set_set] at r6
  have r7 := RepNset (y := { x with k := y.k, t := y.t, n := y.n, nm := y.nm, ru := y.ru, fi := y.fi, en := y.en, st := y.st }) (k := 7) r6 hv (hset _) (by decide) rfl
  rw [List.set_set] at r7
  have r8 := RepNset (y := { x with k := y.k, t := y.t, n := y.n, nm := y.nm, ru := y.ru, fi := y.fi, en := y.en, st := y.st, fr := y.fr }) (k := 8) r7 hv (hset _) (by decide) rfl
  rw [List.set_set] at r8
  have r9 := RepNset (y := y) (k := 9) r8 hv (hset _) (by decide) rfl
  rw [List.set_set] at r9
  have hf : ∀ (W0 : World) (k : Nat) (v : Value), Fr g m m W0 (W0.setCell ⟨gn, k, none⟩ v) := fun W0 k v => FrNset ho k v
  refine ⟨by rw [hw]; exact r9, ?_⟩
  rw [hw]
  exact (hf _ _ _).trans ((hf _ _ _).trans ((hf _ _ _).trans ((hf _ _ _).trans ((hf _ _ _).trans ((hf _ _ _).trans ((hf _ _ _).trans ((hf _ _ _).trans ((hf _ _ _).trans (hf _ _ _)))))))))
theorem Rep.notOwn {w : World} {B g : Nat} {m : MS} {N : List Nd} {O : List Int} {W : List Wr} {C : List Cr} {G S : List Gft} (h : Rep w B g m N O W C G S) {z : Nat} {c : Array Value} (hz : w.heap[z]? = some (.cells c 24 (0, 0))) : ¬ m.owns g z := by
  have key : ∀ {e : TypeId} {cur : Array Value}, w.heap[z]? = some (.cells cur e (0, 0)) → e ≠ 24 → False := fun h1 hne => by
    rw [hz] at h1
    injection h1 with h1
    injection h1 with _ h1
    exact hne h1.symm
  rintro (rfl | x | x | x | x | x | x)
  · exact key h.blk (by decide)
  · obtain ⟨_, q⟩ := h.nodes.type x; exact key q (by decide)
  · obtain ⟨_, q⟩ := h.roots.type x; exact key q (by decide)
  · obtain ⟨_, q⟩ := h.works.type x; exact key q (by decide)
  · obtain ⟨_, q⟩ := h.choices.type x; exact key q (by decide)
  · obtain ⟨_, q⟩ := h.given.type x; exact key q (by decide)
  · obtain ⟨_, q⟩ := h.said.type x; exact key q (by decide)
theorem Fr.box {w w' : World} {B g : Nat} {m m' : MS} {N : List Nd} {O : List Int} {W : List Wr} {C : List Cr} {G S : List Gft} (f : Fr g m m' w w') (h : Rep w B g m N O W C G S) {z : Nat} {c : Array Value} (hz : w.heap[z]? = some (.cells c 24 (0, 0))) : w'.heap[z]? = some (.cells c 24 (0, 0)) :=
  (f.block z (Array.getElem?_eq_some_iff.1 hz).1 (h.notOwn hz)).trans hz
theorem lies_mk {rn : ByteArray → Int} {N : List Nd} {T : PT} {i : Nat} {x : Nd} (h1 : N[i]? = some x) (h2 : x.k = T.k) (h3 : x.t = T.t) (h4 : x.n = T.n) (h5 : (T.k = 21 ∨ T.k = 22 ∨ T.k = 23) → x.nm = T.nm) (h6 : T.k = 24 → x.ru = rn T.nm) (h7 : x.en = x.fi + T.len) (h8 : x.en ≤ 1000000) (h9 : ∀ j, j < T.len → Lies rn N (T.kid j) (x.fi + j)) : Lies rn N T i := by
  obtain ⟨k, t, n, nm, xa, b, o, len, cap, kids⟩ := T
  refine ⟨x, h1, h2, h3, h4, h5, h6, h7, h8, fun j => ?_⟩
  have := h9 j.val j.isLt
  rwa [PT.kid_at (T := .node k t n nm xa b o len cap kids) j.isLt] at this
theorem sumTo_gap (f : Nat → Nat) (hf : ∀ i, 0 < f i) {m n : Nat} (h : m ≤ n) : sumTo f m + (n - m) ≤ sumTo f n := by
  induction n with
  | zero => rw [Nat.le_zero.1 h]; simp
  | succ n ih =>
    rcases Nat.lt_or_ge m (n + 1) with h1 | h1
    · have := ih (by omega)
      have := hf n
      simp only [sumTo]
      omega
    · rw [show m = n + 1 by omega]; omega
end Go.Proofs.YtbmngbpillihaaaDoor

namespace Go.Proofs.YtbmngbpillihaaaDoor
open Go.RowKit

def inT (t : ByteArray) : Nat → Nat → Bool
  | 0, _ => false
  | k + 1, c => inT t k c || c == (t.data.toList.getD k 0).toNat
theorem getD_at (f : ByteArray) (k : Nat) (h : k < f.size) : f[k] = f.data.toList.getD k 0 := by
  rw [List.getD_eq_getElem?_getD, List.getElem?_eq_getElem (by simpa using h)]
  rfl
theorem run_storeCells_row (w : World) (g : Nat) (t ty : TypeId) (c c' : Array Value) (hg : w.heap[g]? = some (.cells c t (0, 0))) (hi : (Tryd.prog.info? ty).map (·.size) = some c'.size) (ho : c.size = c'.size) (h1 : c'.all (·.oneCell') = true) :
    (storeCells ⟨g, 0, none⟩ c'.toList 0).run Tryd.prog w = .ok () (w.setRow g c') := by
  have := run_storeVar_row (P := Tryd.prog) w g t ty c c' hg hi ho h1
  cases hq : Tryd.prog.info? ty with
  | none => simp [hq] at hi
  | some i =>
    have hs : c'.size = i.size := by simp [hq] at hi; omega
    simpa [storeVar, sizeOf, typeInfo, hq, Value.cells, hs] using this
set_option maxRecDepth 100000 in
set_option maxHeartbeats 1000000 in
theorem of_any (t : ByteArray) (w : World) (ht : t.size ≤ maxLen) :
    Calls Tryd.prog 43 #[.string t] w fun e w' => e = .returned (sv (inT t t.size)) ∧ Below w.heap.size w w' := by
  unfold maxLen at ht
  unfold sv
  have hz : (#[.int .u64 0, .int .u64 0, .int .u64 0, .int .u64 0] : Array Value) = sc (inT t 0) := zerosS_eq
  go_enter Tryd.func43, Tryd.ntmps43
  go_wp2
  go_loopw [7] (fun i wr => ∃ k : Nat, k ≤ t.size ∧ i = .int .i64 k ∧ wr.heap[w.heap.size]? = some (.cells (sc (inT t 0)) 33 (0, 0)) ∧ wr.heap[w.heap.size + 1]? = some (.cells (sc (inT t k)) 33 (0, 0)) ∧ Below w.heap.size w wr) (fun i _ => t.size - (intOf i).toNat)
  case atStart => exact ⟨0, by omega, rfl, at_old (by simp only [World.size_alloc]; omega) (at_new rfl), at_new (by simp only [World.size_alloc]), ((Below.refl _ _).alloc (Nat.le_refl _) _).alloc (by simp only [World.size_alloc]; omega) _⟩
  case round =>
    obtain ⟨k, hk, rfl, hg0, hg1, hb⟩ := hrel
    by_cases hlt : k < t.size
    · have h1 : (k : Int) < (t.size : Int) := by omega
      have hst : (sc fun c => inT t k c || c == (t[k]).toNat) = sc (inT t (k + 1)) := by rw [getD_at t k hlt]; rfl
      have C1 := hide (fun W => with_any (inT t k) (t[k]).toNat (UInt8.toNat_lt _) W)
      unfold sv at C1
      rw [hst] at C1
      have hcs := sc_size (inT t k)
      have hds := sc_size (inT t (k + 1))
      have hd1 := sc_one (inT t (k + 1))
      have hi4 := size_set
      have hi5 := size_set
      rw [← hcs] at hi4
      rw [← hds] at hi5
      have G0 := hide hg0
      have hx256 := UInt8.toNat_lt t[k]
      have c0 : wr.cell? ⟨w.heap.size + 1, 0, none⟩ = some (.int .u64 (wd (inT t k) 0 : Int)) := by rw [cell_of_row wr _ _ _ _ _ hg1]; rfl
      have c1 : wr.cell? ⟨w.heap.size + 1, 1, none⟩ = some (.int .u64 (wd (inT t k) 1 : Int)) := by rw [cell_of_row wr _ _ _ _ _ hg1]; rfl
      have c2 : wr.cell? ⟨w.heap.size + 1, 2, none⟩ = some (.int .u64 (wd (inT t k) 2 : Int)) := by rw [cell_of_row wr _ _ _ _ _ hg1]; rfl
      have c3 : wr.cell? ⟨w.heap.size + 1, 3, none⟩ = some (.int .u64 (wd (inT t k) 3 : Int)) := by rw [cell_of_row wr _ _ _ _ _ hg1]; rfl
      have G1 := hide hg1
      have HST := hide hst
      have HI5 := hide hi5
      have HD1 := hide hd1
      have HSZ := hide (hcs.trans hds.symm)
      clear hst hg0 hg1 hcs hds hd1 hi4 hi5
      go_wp2
      go_region_with (first
        | (go_at_call 73; refine (unhide C1 _).mono ?_; rintro e w1 ⟨rfl, hb1⟩; have hq := run_storeCells_row w1 (w.heap.size + 1) 33 33 _ _ (row_below (W := wr.drew) (unhide G1) hb1) (unhide HI5) (unhide HSZ) (unhide HD1)))
      all_goals go_wp2
      all_goals go_roundw
      all_goals first
        | exact ⟨k + 1, by omega, by go_num, (setRow_other w1 (w.heap.size + 1) w.heap.size _ (by omega)).trans (row_below (W := wr.drew) (unhide G0) hb1), setRow_heap w1 (w.heap.size + 1) _ _ _ _ (row_below (W := wr.drew) (unhide G1) hb1), below_setRow (bnext hb.drew hb1) _ (by omega) _⟩
        | (simp [intOf]; omega)
    · obtain rfl : k = t.size := by omega
      have hsz := sc_size (inT t t.size)
      have hone := sc_one (inT t t.size)
      have hzs : (sc (inT t 0)).size = (sc (inT t t.size)).size := (sc_size _).trans (sc_size _).symm
      have hi := size_set
      rw [← hsz] at hi
      generalize sc (inT t 0) = Z at *
      obtain ⟨D, hD⟩ : ∃ D, D = sc (inT t t.size) := ⟨_, rfl⟩
      rw [← hD] at hg1 hsz hone hzs hi
      have HD := hide hD
      have G2 := hide (setRow_heap wr w.heap.size Z D _ _ hg0)
      have B2 := hide (below_setRow hb w.heap.size (Nat.le_refl _) D)
      have HI := hide hi
      clear hi hb hD hz
      go_wp2_with (first
        | (refine wpList_load_row rfl 33 _ rfl (w.heap.size + 1) rfl 33 D (0, 0) _ hg1 Tryd.underlying33 rfl (unhide HI) ?_)
        | (refine wpList_store_row rfl 33 _ _ rfl w.heap.size D rfl rfl 33 Z hg0 (unhide HI) hzs hone ?_))
      (try simp only [Exit.inBlock, Exit.then])
      exact bodyPost_ret (results_cell_row rfl _ _ w.heap.size 33 D (0, 0) _ rfl (unhide G2) Tryd.underlying33 rfl (unhide HI)) rfl ⟨by rw [unhide HD], unhide B2⟩
end Go.Proofs.YtbmngbpillihaaaDoor
