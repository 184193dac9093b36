/- What the laws of patterns have in common: numbers as texts, patterns made of two or three others, what stays in memory. -/
import Derived.Test.YtkggmodabpjobaaDoorLaw5R
import Derived.Test.YtkggmodabpjobaaDoorOpenRules
import Derived.Test.YtkggmodabpjobaaDoorScanItoa
import Derived.Deep.DeepHandedRow
import Derived.Deep.RegionHeld3
import Derived.Stop.LaidErr
import Derived.Lib.LaidTab
namespace Go.Proofs.YtkggmodabpjobaaDoor
open Go.RowKit

theorem tab_later {w W : World} {nm : String} {k : IntKind} {zs : List Int} (h : Lib.TabIs Tryd.prog w nm k zs) (hb : Below w.heap.size w W) : Lib.TabIs Tryd.prog W nm k zs := by
  unfold Lib.TabIs World.var? at h ⊢
  cases hg : Tryd.prog.globalNamed nm with
  | none => rw [hg] at h; cases h
  | some g =>
    simp only [hg, Option.bind_some] at h ⊢
    rcases Nat.lt_or_ge g w.heap.size with q | q
    · rw [hb.block g q]; exact h
    · rw [Array.getElem?_eq_none q] at h
      cases h
/-- How numbers are written. -/
def dgI (n : Nat) : ByteArray := ⟨(Lib.itoa (n : Int)).toArray⟩
theorem itoa_says {w : World} (h : Lib.TabIs Tryd.prog w "internal/strconv.uint64pow10" .u64 Lib.pow10Tab) : ItoaSays dgI w := fun n hn W hW => itoa_any n (by omega) W (tab_later h hW)

theorem held5 {w W : World} {z : Nat} {v0 v1 v2 v3 v4 : Value} {t : TypeId} (h : w.heap[z]? = some (.cells #[v0, v1, v2, v3, v4] t (0, 0))) (hb : Below w.heap.size w W) : W.cell? ⟨z, 0, none⟩ = some v0 ∧ W.cell? ⟨z, 1, none⟩ = some v1 ∧ W.cell? ⟨z, 2, none⟩ = some v2 ∧ W.cell? ⟨z, 3, none⟩ = some v3 ∧ W.cell? ⟨z, 4, none⟩ = some v4 := by
  have g := row_below h hb
  exact ⟨(cell_of_row _ _ 0 _ _ _ g).trans rfl, (cell_of_row _ _ 1 _ _ _ g).trans rfl, (cell_of_row _ _ 2 _ _ _ g).trans rfl, (cell_of_row _ _ 3 _ _ _ g).trans rfl, (cell_of_row _ _ 4 _ _ _ g).trans rfl⟩

theorem join2 {a0 a1 a2 a3 a4 b0 b1 b2 b3 b4 : Prop} (h : a0 ∧ a1 ∧ a2 ∧ a3 ∧ a4) (k : b0 ∧ b1 ∧ b2 ∧ b3 ∧ b4) : a0 ∧ a1 ∧ a2 ∧ a3 ∧ a4 ∧ b0 ∧ b1 ∧ b2 ∧ b3 ∧ b4 := ⟨h.1, h.2.1, h.2.2.1, h.2.2.2.1, h.2.2.2.2, k⟩

theorem in3 {x y z : PT} {w : World} (hx : x.In w) (hy : y.In w) (hz : z.In w) : ∀ q ∈ [x, y, z], q.In w := fun q hq => by
  rcases List.mem_cons.1 hq with rfl | hq
  · exact hx
  · rcases List.mem_cons.1 hq with rfl | hq
    · exact hy
    · rw [List.mem_singleton.1 hq]; exact hz

theorem join3 {a0 a1 a2 a3 a4 b0 b1 b2 b3 b4 c0 c1 c2 c3 c4 : Prop} (h : a0 ∧ a1 ∧ a2 ∧ a3 ∧ a4) (k : b0 ∧ b1 ∧ b2 ∧ b3 ∧ b4) (l : c0 ∧ c1 ∧ c2 ∧ c3 ∧ c4) : a0 ∧ a1 ∧ a2 ∧ a3 ∧ a4 ∧ b0 ∧ b1 ∧ b2 ∧ b3 ∧ b4 ∧ c0 ∧ c1 ∧ c2 ∧ c3 ∧ c4 := ⟨h.1, h.2.1, h.2.2.1, h.2.2.2.1, h.2.2.2.2, k.1, k.2.1, k.2.2.1, k.2.2.2.1, k.2.2.2.2, l⟩

theorem blk1 {c w' : World} {cs : Array Value} {t : TypeId} (hb : Below (c.alloc (.cells cs t)).heap.size (c.alloc (.cells cs t)) w') : w'.heap[c.heap.size]? = some (.cells cs t (0, 0)) := row_below (at_new rfl) hb

theorem blk2t {c w' : World} {o1 : Obj} {cs : Array Value} {t : TypeId} (hb : Below ((c.alloc o1).alloc (.cells cs t)).heap.size ((c.alloc o1).alloc (.cells cs t)) w') : w'.heap[c.heap.size + 1]? = some (.cells cs t (0, 0)) := row_below (at_new (by simp)) hb

theorem blk2l {c w' : World} {o2 : Obj} {cs : Array Value} {t : TypeId} (hb : Below ((c.alloc (.cells cs t)).alloc o2).heap.size ((c.alloc (.cells cs t)).alloc o2) w') : w'.heap[c.heap.size]? = some (.cells cs t (0, 0)) := row_below (at_old (by simp) (at_new rfl)) hb

theorem blk3t {c w' : World} {o1 o2 : Obj} {cs : Array Value} {t : TypeId} (hb : Below (((c.alloc o1).alloc o2).alloc (.cells cs t)).heap.size (((c.alloc o1).alloc o2).alloc (.cells cs t)) w') : w'.heap[c.heap.size + 1 + 1]? = some (.cells cs t (0, 0)) := row_below (at_new (by simp)) hb

theorem blk3m {c w' : World} {o1 o3 : Obj} {cs : Array Value} {t : TypeId} (hb : Below (((c.alloc o1).alloc (.cells cs t)).alloc o3).heap.size (((c.alloc o1).alloc (.cells cs t)).alloc o3) w') : w'.heap[c.heap.size + 1]? = some (.cells cs t (0, 0)) := row_below (at_old (by simp) (at_new (by simp))) hb

theorem blk3l {c w' : World} {o2 o3 : Obj} {cs : Array Value} {t : TypeId} (hb : Below (((c.alloc (.cells cs t)).alloc o2).alloc o3).heap.size (((c.alloc (.cells cs t)).alloc o2).alloc o3) w') : w'.heap[c.heap.size]? = some (.cells cs t (0, 0)) := row_below (at_old (by simp; omega) (at_old (by simp) (at_new rfl))) hb

theorem in_next {c w w' : World} {T : PT} (h : T.In c) (hc : Below c.heap.size c w) (hb : Below w.heap.size w w') : T.In w' := PT.In.later (bnext hc hb) h

theorem blk_next {c w w' : World} {n : Nat} {cs : Array Value} {t : TypeId} (h : c.heap[n]? = some (.cells cs t (0, 0))) (hc : Below c.heap.size c w) (hb : Below w.heap.size w w') : w'.heap[n]? = some (.cells cs t (0, 0)) := row_below h (bnext hc hb)

end Go.Proofs.YtkggmodabpjobaaDoor
