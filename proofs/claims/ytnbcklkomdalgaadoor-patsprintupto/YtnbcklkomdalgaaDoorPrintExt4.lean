/- Rows of bytes that are appended to: nothing else changes, and where the new row lies. -/
import Derived.Test.YtnbcklkomdalgaaDoorPrintRows4
namespace Go.Proofs.YtnbcklkomdalgaaDoor
open Go.RowKit

/-- Nothing but a value's own row has changed; the new value lies there, or in what is new. -/
structure Ext (w w' : World) (v v' : Value) : Prop where
  grown : w.grownBy w' v.ownBlock
  lies : v'.ownBlock = v.ownBlock ∨ ∀ k, v'.ownBlock = some k → w.heap.size ≤ k
theorem Ext.refl (w : World) (v : Value) : Ext w w v v := ⟨World.grownBy.refl _ _, .inl rfl⟩
theorem Ext.below {w w' : World} (v : Value) (h : Below w.heap.size w w') : Ext w w' v v := ⟨⟨h.os, h.tape, h.output, h.size, fun k hk _ => h.block k hk⟩, .inl rfl⟩
theorem Ext.trans {a b c : World} {v1 v2 v3 : Value} (h : Ext a b v1 v2) (k : Ext b c v2 v3) : Ext a c v1 v3 := by
  refine ⟨⟨k.grown.os.trans h.grown.os, k.grown.tape.trans h.grown.tape, k.grown.output.trans h.grown.output, Nat.le_trans h.grown.size k.grown.size, fun i hi hne => ?_⟩, ?_⟩
  · refine (k.grown.block i (Nat.lt_of_lt_of_le hi h.grown.size) fun e => ?_).trans (h.grown.block i hi hne)
    rcases h.lies with x | x
    · exact hne (e.trans x)
    · have := x i e.symm
      omega
  · rcases k.lies with x | x
    · rcases h.lies with y | y
      · exact .inl (x.trans y)
      · exact .inr fun q hq => y q (x ▸ hq)
    · exact .inr fun q hq => Nat.le_trans h.grown.size (x q hq)
theorem Ext.row {w w' : World} {v v' : Value} (h : Ext w w' v v') {n : Nat} {x : Obj} (hn : some n ≠ v.ownBlock) (hx : w.heap[n]? = some x) : w'.heap[n]? = some x :=
  (h.grown.block n (Array.getElem?_eq_some_iff.1 hx).1 hn).trans hx
theorem Ext.bel {w w' : World} {v v' : Value} {B : Nat} {l : List UInt8} (h : Ext w w' v v') (hv : Bytes w B v l) (hB : B ≤ w.heap.size) : Below B w w' :=
  (Below.refl B w).grown h.grown hB (fun i hi => (World.ownsRow.lt hv i hi).1)
theorem Bytes.apart {w : World} {B : Nat} {v : Value} {l : List UInt8} (h : Bytes w B v l) {n : Nat} (hn : w.heap.size ≤ n) : some n ≠ v.ownBlock := fun e => by
  have := (World.ownsRow.lt h n e.symm).2
  omega

set_option maxRecDepth 100000 in
theorem str_ext {w : World} {B : Nat} {v : Value} {l : List UInt8} (h : Bytes w B v l) (hB : B ≤ w.heap.size) (s : ByteArray) (hl : l.length + s.size ≤ 100000000) (ty : TypeId) :
    ∃ v' w', (Builtin.append_ #[39, 9] ty #[v, .string s]).run Tryd.prog w = .ok v' w' ∧ Bytes w' B v' (l ++ s.data.toList) ∧ Ext w w' v v' := by
  have hinf := info_u8
  cases hi : Tryd.prog.info? 5 with
  | none => simp [hi] at hinf
  | some i0 =>
    simp only [hi, Option.map_some, Option.some.injEq, Prod.mk.injEq] at hinf
    obtain ⟨hz0, hz1, hz2⟩ := hinf
    obtain ⟨v', w', hr, h2, h3, h4⟩ := Lib.run_append_own_string (P := Tryd.prog) w B 39 9 ty 5 i0 Tryd.underlying39 Tryd.underlying9 hi hz0 hz1 hz2 v l.length (l.map bc) h s (by unfold maxLen; omega) (by omega) hB
    have hlie : v'.ownBlock = v.ownBlock ∨ ∀ k, v'.ownBlock = some k → w.heap.size ≤ k := by
      rcases h.2 with ⟨rfl, h0⟩ | ⟨g, cap, cur, rfl, hbg, hg, hnc, hcm, hcs, htake⟩
      · by_cases hm : s.size = 0
        · left
          rw [h4.2 ⟨rfl, hm⟩]
        · right
          have hx := run_append_nil_string (P := Tryd.prog) w 39 9 ty 5 i0 (.int .u8 0) Tryd.underlying39 Tryd.underlying9 hi hz0 s (by omega) (by omega) (by rw [hz2]; omega)
          rw [hr] at hx
          injection hx with e1 e2
          intro k hk
          rw [e1] at hk
          cases hk
          exact Nat.le_refl _
      · by_cases hroom : l.length + s.size ≤ cap
        · left
          have hcs' : cur.size = cap := by simpa using hcs
          have hx := Lib.run_append_room_string (P := Tryd.prog) w 39 9 ty 5 i0 Tryd.underlying39 Tryd.underlying9 hi hz1 g l.length cap cur hg s hroom (by omega)
          rw [hr] at hx
          injection hx with e1 e2
          rw [e1]; rfl
        · right
          have hx := Lib.run_append_grow_string (P := Tryd.prog) w 39 9 ty 5 i0 (.int .u8 0) Tryd.underlying39 Tryd.underlying9 hi hz0 ⟨g, 0, none⟩ l.length cap (l.map bc) (by rw [hz1]; simp) (World.ownsRow.cells h rfl) s (by omega) (by omega) (by rw [hz2]; exact growslice_fits (by omega) (by omega))
          rw [hr] at hx
          injection hx with e1 e2
          intro k hk
          rw [e1] at hk
          cases hk
          exact Nat.le_refl _
    refine ⟨v', w', hr, ?_, h3, hlie⟩
    unfold Bytes
    rw [List.length_append, List.map_append]
    have e1 : s.data.toList.length = s.size := by simp
    rw [e1]
    exact h2
theorem byte_ext {w : World} {B : Nat} {v : Value} {l : List UInt8} (h : Bytes w B v l) (hB : B ≤ w.heap.size) (b : UInt8) (ad : Addr) (c : Nat) (hc : w.cell? (ad.add 0) = some (bc b)) (hl : l.length + 1 ≤ 100000000) (ty : TypeId) :
    ∃ v' w', (Builtin.append_ #[39, 39] ty #[v, .slice (some ad) 1 c]).run Tryd.prog w = .ok v' w' ∧ Bytes w' B v' (l ++ [b]) ∧ Ext w w' v v' := by
  have hinf := info_u8
  cases hi : Tryd.prog.info? 5 with
  | none => simp [hi] at hinf
  | some i0 =>
    simp only [hi, Option.map_some, Option.some.injEq, Prod.mk.injEq] at hinf
    obtain ⟨hz0, hz1, hz2⟩ := hinf
    obtain ⟨v', w', hr, h2, h3, -, h5⟩ := run_append_own_at (P := Tryd.prog) w B 39 ty 5 i0 (.int .u8 0) 1 1 Tryd.underlying39 hi hz0 hz1 hz2 rfl (by decide) v l.length (l.map bc) h ad 1 c [bc b] rfl (fun j u hj => by
      have hj0 : j = 0 := by have := (List.getElem?_eq_some_iff.1 hj).1; simpa using this
      subst hj0
      have : u = bc b := by simpa using hj.symm
      rw [this]; exact hc) (by intro u hu; rw [List.mem_singleton] at hu; subst hu; rfl) (by unfold maxLen; omega) (by omega) hB
    refine ⟨v', w', hr, ?_, h3, ?_⟩
    · unfold Bytes
      rw [List.length_append, List.map_append]
      exact h2
    · rcases h5 with e | e
      · exact .inl e
      · exact .inr fun k hk => by rw [e] at hk; cases hk; exact Nat.le_refl _

theorem wpx_str {w : World} {ops : Array Oper} {rest : List Oper} {o : Oper} {a : Act} {Q : Exit → Act → World → Prop} (hgd : o.guard = none) (sl x : Operand)
    (ho : o.op = .call { callee := .builtin .append, args := #[sl, x], argTypes := #[39, 9] })
    (B : Nat) (v : Value) (l : List UInt8) (s : ByteArray) (hs : a.eval sl = v) (hx : a.eval x = .string s) (h : Bytes w B v l) (hB : B ≤ w.heap.size) (hl : l.length + s.size ≤ 100000000)
    (hK : ∀ v' w', Bytes w' B v' (l ++ s.data.toList) → Ext w w' v v' → wpList Tryd.prog ops Q rest (a.put o.dst v') w') : wpList Tryd.prog ops Q (o :: rest) a w := by
  refine wpList_plain hgd fun K hK' => ?_
  obtain ⟨v', w', hr, h1, h2⟩ := str_ext h hB s hl o.type
  unfold Oper.wp execOp
  simp only [ho, resolve, invoke, builtin, Sem.run_bind, Sem.run_pure, Result.andThen_ok, List.map_toArray, List.map_cons, List.map_nil, hs, hx, hr]
  exact hK' _ _ (hK v' w' h1 h2)
theorem stepx_str {w : World} {ops : Array Oper} {o : Oper} {a : Act} {K : Act → World → Prop} {Q : Exit → Act → World → Prop} {E : Prop} (hgd : o.guard = none) (sl x : Operand)
    (ho : o.op = .call { callee := .builtin .append, args := #[sl, x], argTypes := #[39, 9] })
    (B : Nat) (v : Value) (l : List UInt8) (s : ByteArray) (hs : a.eval sl = v) (hx : a.eval x = .string s) (h : Bytes w B v l) (hB : B ≤ w.heap.size) (hl : l.length + s.size ≤ 100000000)
    (hK : ∀ v' w', Bytes w' B v' (l ++ s.data.toList) → Ext w w' v v' → K (a.put o.dst v') w') :
    if Region.wanted o (yielded ops a.tmps) = true then Oper.wp Tryd.prog o a w K Q else E := by
  have hw : Region.wanted o (yielded ops a.tmps) = true := by simp [Region.wanted, hgd]
  rw [if_pos hw]
  obtain ⟨v', w', hr, h1, h2⟩ := str_ext h hB s hl o.type
  unfold Oper.wp execOp
  simp only [ho, resolve, invoke, builtin, Sem.run_bind, Sem.run_pure, Result.andThen_ok, List.map_toArray, List.map_cons, List.map_nil, hs, hx, hr]
  exact hK v' w' h1 h2
theorem stepx_byte {w : World} {ops : Array Oper} {o : Oper} {a : Act} {K : Act → World → Prop} {Q : Exit → Act → World → Prop} {E : Prop} (hgd : o.guard = none) (sl x : Operand)
    (ho : o.op = .call { callee := .builtin .append, args := #[sl, x], argTypes := #[39, 39] })
    (B : Nat) (v : Value) (l : List UInt8) (b : UInt8) (g : Nat) (hs : a.eval sl = v) (hx : a.eval x = .slice (some ⟨g, 0, none⟩) 1 1) (h : Bytes w B v l) (hc : w.cell? ⟨g, 0, none⟩ = some (bc b)) (hB : B ≤ w.heap.size) (hl : l.length + 1 ≤ 100000000)
    (hK : ∀ v' w', Bytes w' B v' (l ++ [b]) → Ext w w' v v' → K (a.put o.dst v') w') :
    if Region.wanted o (yielded ops a.tmps) = true then Oper.wp Tryd.prog o a w K Q else E := by
  have hw : Region.wanted o (yielded ops a.tmps) = true := by simp [Region.wanted, hgd]
  rw [if_pos hw]
  obtain ⟨v', w', hr, h1, h2⟩ := byte_ext h hB b ⟨g, 0, none⟩ 1 (by rw [Addr.add_lit]; exact hc) hl o.type
  unfold Oper.wp execOp
  simp only [ho, resolve, invoke, builtin, Sem.run_bind, Sem.run_pure, Result.andThen_ok, List.map_toArray, List.map_cons, List.map_nil, hs, hx, hr]
  exact hK v' w' h1 h2
end Go.Proofs.YtnbcklkomdalgaaDoor
