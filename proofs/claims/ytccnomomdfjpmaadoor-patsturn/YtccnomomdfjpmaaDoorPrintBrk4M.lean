/- What pats.Quote and needsBrackets do. Rows of bytes made and appended in any order: a sign, a call's bytes, a sign. -/
import Derived.Test.YtccnomomdfjpmaaDoorPrintRows4M
import Derived.Test.YtccnomomdfjpmaaDoorPrintLibM
import Derived.Test.YtccnomomdfjpmaaDoorRegionInvP
import Derived.Test.YtccnomomdfjpmaaDoorRtCM
namespace Go.Proofs.YtccnomomdfjpmaaDoor
open Go.RowKit

theorem rep_one (c : UInt8) (new : List UInt8) : ∀ s : List UInt8, Lib.replaceK [c] new (s.count c) s = s.flatMap fun x => if x = c then new else [x]
  | [] => rfl
  | b :: l => by
    have ih := rep_one c new l
    rw [List.flatMap_cons]
    by_cases hb : b = c
    · subst hb
      have h0 : Lib.index (b :: l) [b] = ((0 : Nat) : Int) := by simp [Lib.index]
      rw [List.count_cons_self, Lib.replaceK_hit [b] new _ _ 0 h0, if_pos rfl]
      show [] ++ new ++ Lib.replaceK [b] new (l.count b) l = _
      rw [ih]; rfl
    · rw [List.count_cons_of_ne hb, if_neg hb]
      cases hk : l.count c with
      | zero =>
        rw [hk] at ih
        show b :: l = [b] ++ _
        rw [← ih]; rfl
      | succ k =>
        obtain ⟨i, hi⟩ := Lib.index_of_count (s := l) (old := [c]) (by rw [Lib.count_one]; omega)
        have h1 : Lib.index (b :: l) [c] = ((i + 1 : Nat) : Int) := by
          have hp : [c].isPrefixOf (b :: l) = false := by simp [List.isPrefixOf]; exact fun e => hb e.symm
          rw [Lib.index, hp, hi]
          have : ((i : Int) == -1) = false := by rw [beq_eq_false_iff_ne]; omega
          simp [this]
        rw [Lib.replaceK_hit [c] new k _ _ h1]
        rw [hk, Lib.replaceK_hit [c] new k l i hi] at ih
        rw [← ih]
        rfl
theorem replace_quote (l : List UInt8) : Lib.replaceAll l [39] [39, 39] = l.flatMap fun c => if c = 39 then [39, 39] else [c] := by
  unfold Lib.replaceAll Lib.replace Lib.replaceNum
  rw [if_neg (by decide), if_pos (.inl (by decide)), Lib.count_one]
  exact rep_one 39 [39, 39] l
def quoteB (s : ByteArray) : ByteArray := ⟨(quoteL s.data.toList).toArray⟩
set_option maxHeartbeats 400000 in
theorem quote_any (s : ByteArray) (w : World) (hs : s.size ≤ 65536) (m : Int) (hm : w.cell? ⟨1, 0, none⟩ = some (.int .i64 m)) :
    Calls Tryd.prog 27 #[.string s] w fun e w' => e = .returned (.string (quoteB s)) ∧ Below w.heap.size w w' := by
  have hr := fun W hW => Tryd.strings_ReplaceAll s ⟨#[39]⟩ ⟨#[39, 39]⟩ m W (by omega) hW (by decide) (by have := Lib.countB_le ⟨#[39]⟩ (by decide) s.size s (Nat.le_refl _); show s.size + _ * 2 ≤ _; omega)
  have HR := hide hr
  have HM := hide hm
  clear hr hm
  go_enter Tryd.func27, Tryd.ntmps27
  go_wp2_with fail
  refine (unhide HR _ (unhide HM)).mono ?_
  rintro e w1 ⟨rfl, hb⟩
  obtain ⟨r, hrr⟩ : ∃ r, r = (⟨(Lib.replaceAll s.data.toList (⟨#[39]⟩ : ByteArray).data.toList (⟨#[39, 39]⟩ : ByteArray).data.toList).toArray⟩ : ByteArray) := ⟨_, rfl⟩
  rw [← hrr]
  have hq : quoteB s = ⟨#[39]⟩ ++ r ++ ⟨#[39]⟩ := by
    rw [hrr]
    show quoteB s = ⟨#[39]⟩ ++ ⟨(Lib.replaceAll s.data.toList [39] [39, 39]).toArray⟩ ++ ⟨#[39]⟩
    rw [replace_quote]
    apply ByteArray.ext
    apply Array.ext'
    simp [quoteB, quoteL]
  have hsz : (quoteB s).size = r.size + 2 := by rw [hq, ByteArray.size_append, ByteArray.size_append]; show 1 + r.size + 1 = _; omega
  have hsq : (quoteB s).size ≤ 131074 := by
    have h1 := quoteL_len s.data.toList
    have h2 : s.data.toList.length = s.size := by simp
    have h3 : (quoteB s).size = (quoteL s.data.toList).length := by simp [quoteB, ByteArray.size]
    omega
  have g1 : ¬ 9223372036854775807 < 1 + r.size := by omega
  have g2 : ¬ 9223372036854775807 < 1 + r.size + 1 := by omega
  have HQ := hide hq
  have HB := hide hb
  clear hrr hq hsz hsq hb
  go_wp2_with fail
  go_ret
  exact ⟨by rw [unhide HQ]; rfl, unhide HB⟩
theorem quoteB_size (s : ByteArray) (hs : s.size ≤ 65536) : (quoteB s).size ≤ 131074 := by
  have h1 := quoteL_len s.data.toList
  have h2 : s.data.toList.length = s.size := by simp
  have h3 : (quoteB s).size = (quoteL s.data.toList).length := by simp [quoteB, ByteArray.size]
  omega
set_option maxHeartbeats 400000 in
theorem brackets_any (p k : Int) (w : World) : Calls Tryd.prog 44 #[.int .i64 p, .int .i64 k] w fun e w' => e = .returned (.bool (brk p k)) ∧ w' = w := by
  by_cases h1 : k = 19
  · have e1 : (k == 19) = true := by rw [beq_iff_eq]; exact h1
    have HB := hide (show brk p k = true by unfold brk; simp [h1])
    clear h1
    go_enter Tryd.func44, Tryd.ntmps44
    go_wp2_with fail
    go_ret
    exact ⟨by rw [unhide HB]; rfl, rfl⟩
  · have e1 : (k == 19) = false := by rw [beq_eq_false_iff_ne]; exact h1
    by_cases h2 : k = 18
    · have e2 : (k == 18) = true := by rw [beq_iff_eq]; exact h2
      by_cases h3 : p = 19
      · have e3 : (p != 19) = false := by rw [bne_eq_false_iff_eq]; exact h3
        have HB := hide (show brk p k = false by unfold brk; simp [h1, h3])
        clear h1 h2 h3
        go_enter Tryd.func44, Tryd.ntmps44
        go_wp2_with fail
        go_ret
        exact ⟨by rw [unhide HB]; rfl, rfl⟩
      · have e3 : (p != 19) = true := by rw [bne_iff_ne]; exact h3
        have HB := hide (show brk p k = true by unfold brk; simp [h2, h3])
        clear h1 h2 h3
        go_enter Tryd.func44, Tryd.ntmps44
        go_wp2_with fail
        go_ret
        exact ⟨by rw [unhide HB]; rfl, rfl⟩
    · have e2 : (k == 18) = false := by rw [beq_eq_false_iff_ne]; exact h2
      have HB := hide (show brk p k = false by unfold brk; simp [h1, h2])
      clear h1 h2
      go_enter Tryd.func44, Tryd.ntmps44
      go_wp2_with fail
      go_ret
      exact ⟨by rw [unhide HB]; rfl, rfl⟩
end Go.Proofs.YtccnomomdfjpmaaDoor

namespace Go.Proofs.YtccnomomdfjpmaaDoor
open Go.RowKit

/-- A row of one byte. -/
def Row1 (w : World) (g : Nat) (b : UInt8) : Prop := w.heap[g]? = some (.cells #[.int .u8 (b.toNat : Int)] 5 (0, 0))
theorem Row1.cell {w : World} {g : Nat} {b : UInt8} (h : Row1 w g b) : w.cell? ⟨g, 0, none⟩ = some (bc b) := by
  rw [cell_of_row _ _ _ _ _ _ h]; rfl
theorem Ext.far {w w' : World} {v v' : Value} (h : Ext w w' v v') {n : Nat} (h1 : some n ≠ v.ownBlock) (h2 : n < w.heap.size) : some n ≠ v'.ownBlock := fun e => by
  rcases h.lies with x | x
  · exact h1 (e.trans x)
  · have := x n e.symm
    omega
section
variable {Q : Exit → Act → World → Prop}
theorem wp_row1 {o : Oper} {a : Act} {w : World} {K : Act → World → Prop} (b : UInt8) (ho : o.op = .buildSlice 39 1 #[(0, .const (.int .u8 (b.toNat : Int)))])
    (h : K (a.put o.dst (.slice (some ⟨w.heap.size, 0, none⟩) 1 1)) (w.alloc (.cells #[.int .u8 (b.toNat : Int)] 5))) : o.wp Tryd.prog a w K Q := by
  have hinf := info_u8
  cases hi : Tryd.prog.info? 5 with
  | none => simp [hi] at hinf
  | some i0 =>
    simp only [hi, Option.map_some, Option.some.injEq, Prod.mk.injEq] at hinf
    obtain ⟨hz0, hz1, hz2⟩ := hinf
    refine wp_buildSlice (P := Tryd.prog) 39 5 1 _ ho #[.int .u8 (b.toNat : Int)] i0 (.int .u8 0) Tryd.underlying39 hi hz0 (by rw [hz1]; decide) (by rw [hz1]; decide) ?_ h
    rw [hz1]
    have e0 : ((Array.range (1 * 1)).map fun x => (Value.int IntKind.u8 0).cells[x % (Value.int IntKind.u8 0).cells.size]!) = #[.int .u8 0] := by kernel_rfl
    rw [e0]
    simp [Instr.fill, Act.eval, Value.cells]
theorem wp_byte {o : Oper} {a : Act} {w : World} {K : Act → World → Prop} {B : Nat} {v : Value} {l : List UInt8} {b : UInt8} {g : Nat} (sl x : Operand)
    (ho : o.op = .call { callee := .builtin .append, args := #[sl, x], argTypes := #[39, 39] }) (hs : a.eval sl = v) (hx : a.eval x = .slice (some ⟨g, 0, none⟩) 1 1) (h : Bytes w B v l) (hc : Row1 w g b) (hB : B ≤ w.heap.size) (hl : l.length + 1 ≤ 100000000)
    (hK : ∀ v' w', Bytes w' B v' (l ++ [b]) → Ext w w' v v' → K (a.put o.dst v') w') : o.wp Tryd.prog a w K Q := by
  obtain ⟨v', w', hr, h1, h2⟩ := byte_ext h hB b ⟨g, 0, none⟩ 1 (by rw [Addr.add_lit]; exact hc.cell) hl o.type
  unfold Oper.wp execOp
  simp only [ho, resolve, invoke, builtin, Sem.run_bind, Sem.run_pure, Result.andThen_ok, List.map_toArray, List.map_cons, List.map_nil, hs, hx, hr]
  exact hK v' w' h1 h2
theorem wp_text {o : Oper} {a : Act} {w : World} {K : Act → World → Prop} {B : Nat} {v : Value} {l : List UInt8} {s : ByteArray} (sl x : Operand)
    (ho : o.op = .call { callee := .builtin .append, args := #[sl, x], argTypes := #[39, 9] }) (hs : a.eval sl = v) (hx : a.eval x = .string s) (h : Bytes w B v l) (hB : B ≤ w.heap.size) (hl : l.length + s.size ≤ 100000000)
    (hK : ∀ v' w', Bytes w' B v' (l ++ s.data.toList) → Ext w w' v v' → K (a.put o.dst v') w') : o.wp Tryd.prog a w K Q := by
  obtain ⟨v', w', hr, h1, h2⟩ := str_ext h hB s hl o.type
  unfold Oper.wp execOp
  simp only [ho, resolve, invoke, builtin, Sem.run_bind, Sem.run_pure, Result.andThen_ok, List.map_toArray, List.map_cons, List.map_nil, hs, hx, hr]
  exact hK v' w' h1 h2
end
/-- The bytes so far, since the beginning of the statement. -/
structure Chn (B : Nat) (w0 : World) (v0 : Value) (w : World) (v : Value) (l : List UInt8) : Prop where
  row : Bytes w B v l
  ext : Ext w0 w v0 v
theorem Chn.below {B : Nat} {w0 w w' : World} {v0 v : Value} {l : List UInt8} (h : Chn B w0 v0 w v l) (hb : Below w.heap.size w w') : Chn B w0 v0 w' v l := ⟨h.row.later hb, h.ext.trans (Ext.below v hb)⟩
theorem Chn.next {B : Nat} {w0 w w' : World} {v0 v v' : Value} {l l' : List UInt8} (h : Chn B w0 v0 w v l) (hr : Bytes w' B v' l') (he : Ext w w' v v') : Chn B w0 v0 w' v' l' := ⟨hr, h.ext.trans he⟩
/-- A row of one byte in a slot, apart from the bytes so far. -/
def Sign (w : World) (v : Value) (b : UInt8) (x : Value) : Prop := ∃ g, x = .slice (some ⟨g, 0, none⟩) 1 1 ∧ Row1 w g b ∧ some g ≠ v.ownBlock
theorem Sign.below {w w' : World} {v x : Value} {b : UInt8} (h : Sign w v b x) (hb : Below w.heap.size w w') : Sign w' v b x := by
  obtain ⟨g, e, hr, hf⟩ := h
  exact ⟨g, e, row_below hr hb, hf⟩
theorem Sign.next {w w' : World} {v v' x : Value} {b : UInt8} (h : Sign w v b x) (he : Ext w w' v v') : Sign w' v' b x := by
  obtain ⟨g, e, hr, hf⟩ := h
  exact ⟨g, e, he.row hf hr, he.far hf (Array.getElem?_eq_some_iff.1 hr).1⟩
theorem Sign.new {B : Nat} {w : World} {v : Value} {l : List UInt8} (h : Bytes w B v l) (b : UInt8) : Sign (w.alloc (.cells #[.int .u8 (b.toNat : Int)] 5)) v b (.slice (some ⟨w.heap.size, 0, none⟩) 1 1) :=
  ⟨w.heap.size, rfl, at_new rfl, h.apart (Nat.le_refl _)⟩
end Go.Proofs.YtccnomomdfjpmaaDoor
