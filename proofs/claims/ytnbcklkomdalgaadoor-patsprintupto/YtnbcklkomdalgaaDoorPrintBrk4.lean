/- Rows of bytes made and appended in any order: a sign, a call's bytes, a sign. -/
import Derived.Test.YtnbcklkomdalgaaDoorRegionInv
import Derived.Test.YtnbcklkomdalgaaDoorPrintExt4
import Derived.Test.YtnbcklkomdalgaaDoorQuote4
import Derived.Test.YtnbcklkomdalgaaDoorPatRight
namespace Go.Proofs.YtnbcklkomdalgaaDoor
open Go.RowKit

/-- A row of one byte. -/
def Row1 (w : World) (g : Nat) (b : UInt8) : Prop := w.heap[g]? = some (.cells #[.int .u8 (b.toNat : Int)] 5 (0, 0))
theorem Row1.cell {w : World} {g : Nat} {b : UInt8} (h : Row1 w g b) : w.cell? ⟨g, 0, none⟩ = some (bc b) := by
  rw [cell_of_row _ _ _ _ _ _ h]; rfl
theorem Ext.far {w w' : World} {v v' : Value} (h : Ext w w' v v') {n : Nat} (h1 : some n ≠ v.ownBlock) (h2 : n < w.heap.size) : some n ≠ v'.ownBlock := fun e => by
  rcases h.lies with x | x
  · exact h1 (e.trans x)
  · have := x n e.symm
    omega
section
variable {Q : Exit → Act → World → Prop}
theorem wp_row1 {o : Oper} {a : Act} {w : World} {K : Act → World → Prop} (b : UInt8) (ho : o.op = .buildSlice 39 1 #[(0, .const (.int .u8 (b.toNat : Int)))])
    (h : K (a.put o.dst (.slice (some ⟨w.heap.size, 0, none⟩) 1 1)) (w.alloc (.cells #[.int .u8 (b.toNat : Int)] 5))) : o.wp Tryd.prog a w K Q := by
  have hinf := info_u8
  cases hi : Tryd.prog.info? 5 with
  | none => simp [hi] at hinf
  | some i0 =>
    simp only [hi, Option.map_some, Option.some.injEq, Prod.mk.injEq] at hinf
    obtain ⟨hz0, hz1, hz2⟩ := hinf
    refine wp_buildSlice (P := Tryd.prog) 39 5 1 _ ho #[.int .u8 (b.toNat : Int)] i0 (.int .u8 0) Tryd.underlying39 hi hz0 (by rw [hz1]; decide) (by rw [hz1]; decide) ?_ h
    rw [hz1]
    have e0 : ((Array.range (1 * 1)).map fun x => (Value.int IntKind.u8 0).cells[x % (Value.int IntKind.u8 0).cells.size]!) = #[.int .u8 0] := by kernel_rfl
    rw [e0]
    simp [Instr.fill, Act.eval, Value.cells]
theorem wp_byte {o : Oper} {a : Act} {w : World} {K : Act → World → Prop} {B : Nat} {v : Value} {l : List UInt8} {b : UInt8} {g : Nat} (sl x : Operand)
    (ho : o.op = .call { callee := .builtin .append, args := #[sl, x], argTypes := #[39, 39] }) (hs : a.eval sl = v) (hx : a.eval x = .slice (some ⟨g, 0, none⟩) 1 1) (h : Bytes w B v l) (hc : Row1 w g b) (hB : B ≤ w.heap.size) (hl : l.length + 1 ≤ 100000000)
    (hK : ∀ v' w', Bytes w' B v' (l ++ [b]) → Ext w w' v v' → K (a.put o.dst v') w') : o.wp Tryd.prog a w K Q := by
  obtain ⟨v', w', hr, h1, h2⟩ := byte_ext h hB b ⟨g, 0, none⟩ 1 (by rw [Addr.add_lit]; exact hc.cell) hl o.type
  unfold Oper.wp execOp
  simp only [ho, resolve, invoke, builtin, Sem.run_bind, Sem.run_pure, Result.andThen_ok, List.map_toArray, List.map_cons, List.map_nil, hs, hx, hr]
  exact hK v' w' h1 h2
theorem wp_text {o : Oper} {a : Act} {w : World} {K : Act → World → Prop} {B : Nat} {v : Value} {l : List UInt8} {s : ByteArray} (sl x : Operand)
    (ho : o.op = .call { callee := .builtin .append, args := #[sl, x], argTypes := #[39, 9] }) (hs : a.eval sl = v) (hx : a.eval x = .string s) (h : Bytes w B v l) (hB : B ≤ w.heap.size) (hl : l.length + s.size ≤ 100000000)
    (hK : ∀ v' w', Bytes w' B v' (l ++ s.data.toList) → Ext w w' v v' → K (a.put o.dst v') w') : o.wp Tryd.prog a w K Q := by
  obtain ⟨v', w', hr, h1, h2⟩ := str_ext h hB s hl o.type
  unfold Oper.wp execOp
  simp only [ho, resolve, invoke, builtin, Sem.run_bind, Sem.run_pure, Result.andThen_ok, List.map_toArray, List.map_cons, List.map_nil, hs, hx, hr]
  exact hK v' w' h1 h2
end
/-- The bytes so far, since the beginning of the statement. -/
structure Chn (B : Nat) (w0 : World) (v0 : Value) (w : World) (v : Value) (l : List UInt8) : Prop where
  row : Bytes w B v l
  ext : Ext w0 w v0 v
theorem Chn.below {B : Nat} {w0 w w' : World} {v0 v : Value} {l : List UInt8} (h : Chn B w0 v0 w v l) (hb : Below w.heap.size w w') : Chn B w0 v0 w' v l := ⟨h.row.later hb, h.ext.trans (Ext.below v hb)⟩
theorem Chn.next {B : Nat} {w0 w w' : World} {v0 v v' : Value} {l l' : List UInt8} (h : Chn B w0 v0 w v l) (hr : Bytes w' B v' l') (he : Ext w w' v v') : Chn B w0 v0 w' v' l' := ⟨hr, h.ext.trans he⟩
/-- A row of one byte in a slot, apart from the bytes so far. -/
def Sign (w : World) (v : Value) (b : UInt8) (x : Value) : Prop := ∃ g, x = .slice (some ⟨g, 0, none⟩) 1 1 ∧ Row1 w g b ∧ some g ≠ v.ownBlock
theorem Sign.below {w w' : World} {v x : Value} {b : UInt8} (h : Sign w v b x) (hb : Below w.heap.size w w') : Sign w' v b x := by
  obtain ⟨g, e, hr, hf⟩ := h
  exact ⟨g, e, row_below hr hb, hf⟩
theorem Sign.next {w w' : World} {v v' x : Value} {b : UInt8} (h : Sign w v b x) (he : Ext w w' v v') : Sign w' v' b x := by
  obtain ⟨g, e, hr, hf⟩ := h
  exact ⟨g, e, he.row hf hr, he.far hf (Array.getElem?_eq_some_iff.1 hr).1⟩
theorem Sign.new {B : Nat} {w : World} {v : Value} {l : List UInt8} (h : Bytes w B v l) (b : UInt8) : Sign (w.alloc (.cells #[.int .u8 (b.toNat : Int)] 5)) v b (.slice (some ⟨w.heap.size, 0, none⟩) 1 1) :=
  ⟨w.heap.size, rfl, at_new rfl, h.apart (Nat.le_refl _)⟩
end Go.Proofs.YtnbcklkomdalgaaDoor
