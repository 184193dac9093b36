/- The machine as it is made where there are rules; a root is stored. -/
import Derived.Test.YtkggmodabpjobaaDoorScanRulesG
import Derived.Test.YtkggmodabpjobaaDoorScanLayG
import Derived.Test.YtkggmodabpjobaaDoorClone4
import Derived.Deep.RegionWith
import Derived.Deep.OwnRows
namespace Go.Proofs.YtkggmodabpjobaaDoor
open Go.RowKit

theorem info_int : (Tryd.prog.info? 3).map (fun i => (i.zero, i.size, i.bytes)) = some (some (.int .i64 0), 1, 8) := by kernel_rfl

theorem made_ints (n : Nat) : madeCells #[Value.int .i64 0] n = (flat inV (List.replicate n 0)).toArray := by
  apply Array.ext'
  simp only [madeCells]
  induction n with
  | zero => simp [flat]
  | succ n ih => rw [Array.range_succ, Array.map_append, Array.toList_append, ih, List.replicate_succ', flat_append]; simp [flat, inV, Nat.mod_one]
theorem make_ints (n : Nat) (hn : n ≤ 1000000) (W : World) : (Instr.makeSlice 50 (.int .i64 (n : Int)) (.int .i64 (n : Int))).run Tryd.prog W = .ok (.slice (some ⟨W.heap.size, 0, none⟩) n n) (W.alloc (.cells (flat inV (List.replicate n 0)).toArray 3)) := by
  have := run_make_row' (P := Tryd.prog) 50 3 (.int .i64 0) 8 Tryd.underlying50 info_int rfl .i64 .i64 n (by omega) (by omega) W
  rw [made_ints] at this
  exact this

/-- The machine as it is made. -/
def msNewR (s : ByteArray) (rv : Value) (rg n fuel room : Nat) : MS := ⟨s, rv, .slice none 0 0, 0, .slice (some ⟨rg, 0, none⟩) n n, false, 0, 0, 0, .slice none 0 0, .slice none 0 0, .slice none 0 0, .slice none 0 0, 0, room, fuel, 0, false, 0⟩
theorem rep_newR {w : World} {B g rg n : Nat} {s : ByteArray} {rv : Value} {fuel room : Nat} (hn : n ≤ 1000000) (hg : w.heap[g]? = some (.cells (msNewR s rv rg n fuel room).row 54 (0, 0))) (hr : w.heap[rg]? = some (.cells (flat inV (List.replicate n 0)).toArray 3 (0, 0))) (h1 : B ≤ g) (h2 : B ≤ rg) : Rep w B g (msNewR s rv rg n fuel room) [] (List.replicate n 0) [] [] [] [] :=
  have hl : (flat inV (List.replicate n 0)).length = n := by rw [flat_len inV_len]; simp
  ⟨h1, hg, World.ownsRow_nil w B _ 10, ⟨by rw [flat_len inV_len], .inr ⟨rg, n, (flat inV (List.replicate n 0)).toArray, by simp [msNewR], h2, hr, by simp, Nat.le_trans hn (by decide), by simp [hl], by rw [List.take_of_length_le (by simp [hl])]⟩⟩, World.ownsRow_nil w B _ 4, World.ownsRow_nil w B _ 6, World.ownsRow_nil w B _ 2, World.ownsRow_nil w B _ 2, (fun k hk => by cases hk), by have := (Array.getElem?_eq_some_iff.1 hg).1; omega⟩
/-- A root is stored. -/
theorem RepOset {w : World} {B g : Nat} {m : MS} {N : List Nd} {O : List Int} {W : List Wr} {C : List Cr} {G S : List Gft} (h : Rep w B g m N O W C G S) {gn n cap a : Nat} (hv : m.ro = .slice (some ⟨gn, 0, none⟩) n cap) (ha : a < O.length) (y : Int) : Rep (w.setCell ⟨gn, a, none⟩ (.int .i64 y)) B g m N (O.set a y) W C G S := by
  have ho : m.ro.ownBlock = some gn := by rw [hv]; rfl
  obtain ⟨cur, hcur⟩ := h.roots.type ho
  have hb : But gn w (w.setCell ⟨gn, a, none⟩ (.int .i64 y)) := (But.refl gn w).setCell _ _
  have hne : g ≠ gn := fun e => h.roots.neBlk h.blk (by decide) (by rw [ho, e])
  have hs := h.roots.set inV_len (k := 0) (u := .int .i64 y) (y := y) hv (List.getElem?_eq_getElem ha) (by decide) rfl
  rw [Nat.mul_one, Nat.add_zero] at hs
  exact ⟨h.low, hb.row hne h.blk, h.nodes.keepBut hcur (by decide) hb, hs, h.works.keepBut hcur (by decide) hb, h.choices.keepBut hcur (by decide) hb, h.given.keepBut hcur (by decide) hb, h.said.keepBut hcur (by decide) hb, h.apart, Nat.le_trans h.base hb.size⟩
theorem FrOset {w : World} {g : Nat} {m : MS} {gn : Nat} (ho : m.ro.ownBlock = some gn) (k : Nat) (v : Value) : Fr g m m w (w.setCell ⟨gn, k, none⟩ v) :=
  ⟨rfl, rfl, rfl, by simp, fun i _ hn => heap_setCell_other w ⟨gn, k, none⟩ i v (fun e => hn (.inr (.inr (.inl (by rw [ho]; exact congrArg some e.symm))))), fun _ h => .inl h⟩
end Go.Proofs.YtkggmodabpjobaaDoor
