/- Zeros appended to the machine's nodes. -/
import Derived.Test.YtkggmodabpjobaaDoorScanRep
import Derived.Lib.AppendZeros
import Derived.Lib.AppendZerosOnto
namespace Go.Proofs.YtkggmodabpjobaaDoor
open Go.RowKit

def nd0 : Nd := ⟨0, ⟨#[]⟩, 0, ⟨#[]⟩, 0, 0, 0, none, 0, 0⟩
def nz : Value := .agg #[.int .i64 0, .string ⟨#[]⟩, .int .i64 0, .string ⟨#[]⟩, .int .i64 0, .int .i64 0, .int .i64 0, .pointer none, .int .i64 0, .int .i64 0]
theorem info_node : (Tryd.prog.info? 71).map (fun i => (i.zero, i.size, i.bytes)) = some (some nz, 10, 96) := by kernel_rfl
theorem nz_at : ∀ r, r < 10 → (ndV nd0)[r]? = some (nz.cells[r]!) := by
  intro r hr
  rcases (show r = 0 ∨ r = 1 ∨ r = 2 ∨ r = 3 ∨ r = 4 ∨ r = 5 ∨ r = 6 ∨ r = 7 ∨ r = 8 ∨ r = 9 by omega) with rfl | rfl | rfl | rfl | rfl | rfl | rfl | rfl | rfl | rfl <;> rfl
theorem zeros_list (k : Nat) : (Builtin.zeroCells nz.cells k).toList = flat ndV (List.replicate k nd0) := by
  have hs : nz.cells.size = 10 := rfl
  have hl : (flat ndV (List.replicate k nd0)).length = k * 10 := by rw [flat_len ndV_len, List.length_replicate]
  apply List.ext_getElem?
  intro j
  unfold Builtin.zeroCells
  rw [hs]
  by_cases hj : j < k * 10
  · have h1 := flat_get ndV_len (List.replicate k nd0) (j / 10) (j % 10) nd0 (by rw [List.getElem?_replicate, if_pos (by omega)]) (by omega)
    rw [show j / 10 * 10 + j % 10 = j by omega, nz_at _ (by omega)] at h1
    rw [h1]
    simp [hj]
  · rw [List.getElem?_eq_none (l := flat ndV (List.replicate k nd0)) (by rw [hl]; omega), List.getElem?_eq_none (by simp; omega)]
theorem zeros_one (k : Nat) : ∀ u ∈ flat ndV (List.replicate k nd0), u.oneCell' = true := by
  intro u hu
  obtain ⟨x, _, hx⟩ := List.mem_flatMap.1 hu
  exact ndV_one x u hx

/-- Zeros are appended. -/
theorem append_zeros {w : World} {B : Nat} {v : Value} {l : List Nd} (h : Row w B 71 10 ndV v l) (hB : B ≤ w.heap.size) (k : Nat) (hk : k ≤ 1000000) (hl : l.length ≤ 1000000) (ty : TypeId) :
    ∃ v' w', (Builtin.append_ #[49, 3] ty #[v, .int .i64 (k : Int)]).run Tryd.prog w = .ok v' w' ∧ Row w' B 71 10 ndV v' (l ++ List.replicate k nd0) ∧ w.grownBy w' v.ownBlock ∧ (v'.ownBlock = v.ownBlock ∨ v'.ownBlock = some w.heap.size) := by
  have hinf := info_node
  cases hi : Tryd.prog.info? 71 with
  | none => simp [hi] at hinf
  | some i =>
    simp only [hi, Option.map_some, Option.some.injEq, Prod.mk.injEq] at hinf
    obtain ⟨hz0, hz1, hz2⟩ := hinf
    have hlen : (l ++ List.replicate k nd0).length = l.length + k := by simp
    have hfl := flat_len ndV_len l
    have hzl : (Builtin.zeroCells nz.cells k).toList.length = k * 10 := by rw [zeros_list, flat_len ndV_len, List.length_replicate]
    have grown : ∀ old, old < l.length + k → ∀ row, Row (w.drew.alloc (.cells ((flat ndV l).toArray ++ Builtin.zeroCells nz.cells k ++ Builtin.zeroCells nz.cells (grownCap w (l.length + k) old 71 - (l.length + k))) 71)) B 71 10 ndV (.slice (some ⟨w.heap.size, 0, none⟩) (l.length + k) (grownCap w (l.length + k) old 71)) (l ++ List.replicate k nd0) ∧ w.grownBy (w.drew.alloc (.cells ((flat ndV l).toArray ++ Builtin.zeroCells nz.cells k ++ Builtin.zeroCells nz.cells (grownCap w (l.length + k) old 71 - (l.length + k))) 71)) row := by
      intro old ho row
      have hge := grownCap_ge w (l.length + k) old 71
      have hcm := grownCap_le_maxLen w (l.length + k) old 71 (by unfold maxLen; omega)
      refine ⟨⟨flat_len ndV_len _, .inr ⟨w.heap.size, _, _, by rw [hlen], hB, heap_alloc_new w.drew _, by rw [hlen]; exact hge, hcm, ?_, ?_⟩⟩, ⟨rfl, rfl, rfl, by simp, fun j hj _ => Below.heap_alloc w.drew _ j hj⟩⟩
      · have s1 := size_zeroCells nz.cells k
        have s2 := size_zeroCells nz.cells (grownCap w (l.length + k) old 71 - (l.length + k))
        have hs : nz.cells.size = 10 := rfl
        rw [hs] at s1 s2
        simp only [Array.size_append, List.size_toArray, s1, s2, hfl]
        omega
      · rw [hlen, flat_append, ← zeros_list k]
        simp only [Array.toList_append, List.append_assoc]
        rw [← List.append_assoc]
        have : (l.length + k) * 10 = (flat ndV l ++ (Builtin.zeroCells nz.cells k).toList).length := by rw [List.length_append, hfl, hzl]; omega
        rw [this]
        exact List.take_left
    rcases h.2 with ⟨hv, h0⟩ | ⟨g, cap, cur, hv, hbg, hg, hnc, hcm, hcs, htake⟩
    · have hl0 : l = [] := List.eq_nil_of_length_eq_zero h0
      subst hl0 hv
      by_cases hk0 : k = 0
      · subst hk0
        refine ⟨.slice none 0 0, w, ?_, ?_, ⟨rfl, rfl, rfl, Nat.le_refl _, fun _ _ _ => rfl⟩, .inl rfl⟩
        · simp [Builtin.append_, run_underlying Tryd.underlying49, run_underlying Tryd.underlying3, sizeOf, typeInfo, hi, asInt, asIntOf, IntKind.wrap_i64]
        · exact ⟨rfl, .inl ⟨rfl, rfl⟩⟩
      · have hr := Lib.run_append_nil_zeros (P := Tryd.prog) w 49 3 ty 71 i nz .i64 .i64 Tryd.underlying49 Tryd.underlying3 hi hz0 k (by omega) (by omega) (by omega) (by rw [hz2]; omega)
        have hgr := grown 0 (by simp; omega) (Value.ownBlock (.slice none 0 0))
        simp only [List.length_nil, Nat.zero_add] at hgr
        have he : (flat ndV ([] : List Nd)).toArray = #[] := rfl
        rw [he, Array.empty_append] at hgr
        exact ⟨_, _, hr, hgr.1, hgr.2, .inr rfl⟩
    · subst hv
      by_cases hroom : l.length + k ≤ cap
      · have hst := run_storeCells_at Tryd.prog g (l.length * 10) 71 (Builtin.zeroCells nz.cells k).toList 0 cur w hg (by rw [hzl, hcs]; omega) (by rw [zeros_list]; exact zeros_one k)
        simp only [Nat.add_zero] at hst
        have hw : IntKind.i64.wrap (k : Int) = k := by rw [IntKind.wrap_i64]; omega
        have h48 : ¬ (281474976710656 < (k : Int) * (96 : Int)) := by omega
        have hk0 : ¬ ((k : Int) < 0) := by omega
        refine ⟨.slice (some ⟨g, 0, none⟩) (l.length + k) cap, w.setRow g (cur.toList.take (l.length * 10) ++ (Builtin.zeroCells nz.cells k).toList ++ cur.toList.drop (l.length * 10 + (Builtin.zeroCells nz.cells k).toList.length)).toArray, ?_, ⟨flat_len ndV_len _, .inr ⟨g, cap, _, by rw [hlen], hbg, setRow_heap w g cur _ _ _ hg, by rw [hlen]; exact hroom, hcm, ?_, ?_⟩⟩, ⟨rfl, rfl, rfl, by simp, fun j _ hj => setRow_other w g j _ (fun e => hj (by simp [Value.ownBlock, e]))⟩, .inl rfl⟩
        · by_cases hkz : k = 0
          · subst hkz
            have hz00 : (Builtin.zeroCells nz.cells 0).toList = [] := by simp [Builtin.zeroCells]
            rw [hz00] at hst ⊢
            simp [Builtin.append_, run_underlying Tryd.underlying49, run_underlying Tryd.underlying3, sizeOf, typeInfo, hi, asInt, asIntOf, IntKind.wrap_i64, hz1, hz2, Addr.add_lit, hnc]
            have hst' : (storeCells ⟨g, l.length * 10, none⟩ []).run Tryd.prog w = .ok () (w.setRow g cur) := by simpa using hst
            rw [hst']
            rfl
          · simp [Builtin.append_, run_underlying Tryd.underlying49, run_underlying Tryd.underlying3, sizeOf, typeInfo, zeroValue, hi, hz0, asInt, asIntOf, hw, hk0, hz1, hz2, h48, hroom, Addr.add_lit, hst]
            intro h
            omega
        · simp only [List.size_toArray, List.length_append, List.length_take, List.length_drop, Array.length_toList]
          rw [hcs]
          have e1 := hzl
          rw [Array.length_toList] at e1
          rw [e1]
          omega
        · rw [hlen, flat_append, ← zeros_list k, ← htake]
          simp only [List.append_assoc]
          rw [← List.append_assoc]
          have e2 : (cur.toList.take (l.length * 10) ++ (Builtin.zeroCells nz.cells k).toList).length = (l.length + k) * 10 := by
            have e3 : cur.toList.length = cap * 10 := hcs
            rw [List.length_append, hzl, List.length_take, e3]
            have e4 : l.length ≤ cap := hnc
            omega
          rw [← e2]
          exact List.take_left
      · have hold : (Builtin.firstCells i.size l.length (.slice (some ⟨g, 0, none⟩) l.length cap)).run Tryd.prog w.drew = .ok (flat ndV l).toArray w.drew :=
          run_firstCells_some (P := Tryd.prog) w.drew i.size l.length ⟨g, 0, none⟩ l.length cap (flat ndV l) (by rw [hz1, hfl]) (by
            intro j u hj
            have := World.ownsRow.cells h (g := g) rfl j u hj
            simpa using this)
        have hr := Lib.run_append_grow_zeros (P := Tryd.prog) w 49 3 ty 71 i nz .i64 .i64 Tryd.underlying49 Tryd.underlying3 hi hz0 (some ⟨g, 0, none⟩) l.length cap (flat ndV l) hold k (by omega) (by omega) (by omega) (by omega) (by rw [hz2]; omega) (by rw [hz2]; exact growslice_fits (by omega) (by omega))
        have hgr := grown cap (by omega) (Value.ownBlock (.slice (some ⟨g, 0, none⟩) l.length cap))
        exact ⟨_, _, hr, hgr.1, hgr.2, .inr rfl⟩

theorem step_zeros {w : World} {ops : Array Oper} {o : Oper} {a : Act} {K : Act → World → Prop} {Q : Exit → Act → World → Prop} {E : Prop} (hgd : o.guard = none) (s x : Operand)
    (ho : o.op = .call { callee := .builtin .append, args := #[s, x], argTypes := #[49, 3] }) {B : Nat} {v : Value} {l : List Nd} (h : Row w B 71 10 ndV v l) (hB : B ≤ w.heap.size) (k : Nat) (hs : a.eval s = v) (hx : a.eval x = .int .i64 (k : Int)) (hk : k ≤ 1000000) (hl : l.length ≤ 1000000)
    (hK : ∀ v' w', Row w' B 71 10 ndV v' (l ++ List.replicate k nd0) → w.grownBy w' v.ownBlock → (v'.ownBlock = v.ownBlock ∨ v'.ownBlock = some w.heap.size) → K (a.put o.dst v') w') :
    if Region.wanted o (yielded ops a.tmps) = true then Oper.wp Tryd.prog o a w K Q else E := by
  have hw : Region.wanted o (yielded ops a.tmps) = true := by simp [Region.wanted, hgd]
  rw [if_pos hw]
  obtain ⟨v', w', hr, h2, h3, h4⟩ := append_zeros h hB k hk hl o.type
  unfold Oper.wp execOp
  simp only [ho, resolve, invoke, builtin, Sem.run_bind, Sem.run_pure, Result.andThen_ok, List.map_toArray, List.map_cons, List.map_nil, hs, hx, hr]
  exact hK v' w' h2 h3 h4
/-- The nodes have grown. -/
theorem Rep.grownN {w w' : World} {B g : Nat} {m : MS} {N : List Nd} {O : List Int} {W : List Wr} {C : List Cr} {G S : List Gft} {v : Value} {l : List Nd} (h : Rep w B g m N O W C G S) (hg : w.grownBy w' m.nv.ownBlock) (hr : Row w' B 71 10 ndV v l) : Rep (w'.setCell ⟨g, 2, none⟩ v) B g { m with nv := v } l O W C G S := by
  have hb : w'.heap[g]? = some (.cells m.row 54 (0, 0)) := grown_blk h.blk (fun j hj => h.nodes.type hj) (by decide) hg
  have hBut : But g w' (w'.setCell ⟨g, 2, none⟩ v) := (But.refl g w').setCell 2 v
  exact ⟨h.low, heap_setCell_same w' g 2 _ _ v hb, hr.keepBut hb (by decide) hBut, (h.roots.keep h.nodes (by decide) hg).keepBut hb (by decide) hBut, (h.works.keep h.nodes (by decide) hg).keepBut hb (by decide) hBut, (h.choices.keep h.nodes (by decide) hg).keepBut hb (by decide) hBut, (h.given.keep h.nodes (by decide) hg).keepBut hb (by decide) hBut, (h.said.keep h.nodes (by decide) hg).keepBut hb (by decide) hBut, h.apart, Nat.le_trans h.base (Nat.le_trans hg.size hBut.size)⟩
theorem Fr.growN {g : Nat} {m : MS} {w w' : World} {v : Value} (hg : w.grownBy w' m.nv.ownBlock) (hv : v.ownBlock = m.nv.ownBlock ∨ v.ownBlock = some w.heap.size) : Fr g m { m with nv := v } w (w'.setCell ⟨g, 2, none⟩ v) :=
  fr_grow 2 hg (fun i h => .inr (.inl h)) hv fun i h => by
    rcases h with x | x | x | x | x | x | x
    · exact .inl (.inl x)
    · exact .inr x
    · exact .inl (.inr (.inr (.inl x)))
    · exact .inl (.inr (.inr (.inr (.inl x))))
    · exact .inl (.inr (.inr (.inr (.inr (.inl x)))))
    · exact .inl (.inr (.inr (.inr (.inr (.inr (.inl x))))))
    · exact .inl (.inr (.inr (.inr (.inr (.inr (.inr x))))))
end Go.Proofs.YtkggmodabpjobaaDoor
