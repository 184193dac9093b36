/- What the laws of patterns have in common: numbers as texts, patterns made of two or three others, what stays in memory. -/
import Derived.Test.YteblcdgjjhodeabDoorLaw5R
import Derived.Test.YteblcdgjjhodeabDoorOpenRules
import Derived.Test.YteblcdgjjhodeabDoorScanItoa
import Derived.Deep.DeepHandedRow
import Derived.Deep.RegionHeld3
import Derived.Stop.LaidErr
import Derived.Lib.LaidTab
namespace Go.Proofs.YteblcdgjjhodeabDoor
open Go.RowKit

theorem tab_later {w W : World} {nm : String} {k : IntKind} {zs : List Int} (h : Lib.TabIs Tryd.prog w nm k zs) (hb : Below w.heap.size w W) : Lib.TabIs Tryd.prog W nm k zs := by
  unfold Lib.TabIs World.var? at h ⊢
  cases hg : Tryd.prog.globalNamed nm with
  | none => rw [hg] at h; cases h
  | some g =>
    simp only [hg, Option.bind_some] at h ⊢
    rcases Nat.lt_or_ge g w.heap.size with q | q
    · rw [hb.block g q]; exact h
    · rw [Array.getElem?_eq_none q] at h
      cases h
/-- How numbers are written. -/
def dgI (n : Nat) : ByteArray := ⟨(Lib.itoa (n : Int)).toArray⟩
theorem itoa_says {w : World} (h : Lib.TabIs Tryd.prog w "internal/strconv.uint64pow10" .u64 Lib.pow10Tab) : ItoaSays dgI w := fun n hn W hW => itoa_any n (by omega) W (tab_later h hW)

theorem alike_le {RL : List (ByteArray × PT)} {rv : Value} (dg : Nat → ByteArray) (T U : PT) (s : ByteArray) (i : Int) (w : World) (hV : RVal w RL rv) (hIt : ItoaSays dg w) (hT : T.In w) (hU : U.In w) (hS : Shapes w) (hs : s.size ≤ maxLen) (n : Nat) (hn : 20001 ≤ n) (hle : ∀ j, Le (W s (fun nm => ruleOf nm RL) dg 20001 T j []) (W s (fun nm => ruleOf nm RL) dg n U j [])) :
    Calls Tryd.prog 15 #[rv, pv T, pv U, .string s, .int .i64 i] w fun e w' => e = .returned (.bool true) ∧ Below w.heap.size w w' :=
  alike_all dg T U s i w hV hIt hT hU hS hs fun h1 h2 => same_of_le h1 h2 fun j _ _ => ⟨n, hn, hle j⟩

theorem some_agg (k n : Int) (t : ByteArray) (w : World) : Calls Tryd.prog 11 #[.int .i64 k, .int .i64 n, .string t] w fun e w' => e = .returned (.agg #[.int .i64 k, .string t, .int .i64 n, .string ⟨#[]⟩, .slice none 0 0]) ∧ Below w.heap.size w w' := some_any k n t w
theorem cat_two (x y : PT) (b : Nat) (w : World) (h : w.heap[b]? = some (.cells #[.int .i64 x.k, .string x.t, .int .i64 x.n, .string x.nm, .slice x.xa x.len x.cap, .int .i64 y.k, .string y.t, .int .i64 y.n, .string y.nm, .slice y.xa y.len y.cap] 25 (0, 0))) (hx : x.In w) (hy : y.In w) :
    Calls Tryd.prog 10 #[.slice (some ⟨b, 0, none⟩) 2 2] w fun e w' => e = .returned (.agg #[.int .i64 18, .string ⟨#[]⟩, .int .i64 0, .string ⟨#[]⟩, .slice (some ⟨b, 0, none⟩) 2 2]) ∧ Below w.heap.size w w' ∧ (kidsP 18 b [x, y]).In w' :=
  cat_kids (l := [x, y]) (show 2 ≤ 3 by decide) h (fun z hz => by
    rcases List.mem_cons.1 hz with rfl | hz
    · exact hx
    · rw [List.mem_singleton.1 hz]; exact hy)
theorem alt_two (x y : PT) (b : Nat) (w : World) (h : w.heap[b]? = some (.cells #[.int .i64 x.k, .string x.t, .int .i64 x.n, .string x.nm, .slice x.xa x.len x.cap, .int .i64 y.k, .string y.t, .int .i64 y.n, .string y.nm, .slice y.xa y.len y.cap] 25 (0, 0))) (hx : x.In w) (hy : y.In w) :
    Calls Tryd.prog 13 #[.slice (some ⟨b, 0, none⟩) 2 2] w fun e w' => e = .returned (.agg #[.int .i64 19, .string ⟨#[]⟩, .int .i64 0, .string ⟨#[]⟩, .slice (some ⟨b, 0, none⟩) 2 2]) ∧ Below w.heap.size w w' ∧ (kidsP 19 b [x, y]).In w' :=
  alt_kids (l := [x, y]) (show 2 ≤ 3 by decide) h (fun z hz => by
    rcases List.mem_cons.1 hz with rfl | hz
    · exact hx
    · rw [List.mem_singleton.1 hz]; exact hy)
theorem held5 {w W : World} {z : Nat} {v0 v1 v2 v3 v4 : Value} {t : TypeId} (h : w.heap[z]? = some (.cells #[v0, v1, v2, v3, v4] t (0, 0))) (hb : Below w.heap.size w W) : W.cell? ⟨z, 0, none⟩ = some v0 ∧ W.cell? ⟨z, 1, none⟩ = some v1 ∧ W.cell? ⟨z, 2, none⟩ = some v2 ∧ W.cell? ⟨z, 3, none⟩ = some v3 ∧ W.cell? ⟨z, 4, none⟩ = some v4 := by
  have g := row_below h hb
  exact ⟨(cell_of_row _ _ 0 _ _ _ g).trans rfl, (cell_of_row _ _ 1 _ _ _ g).trans rfl, (cell_of_row _ _ 2 _ _ _ g).trans rfl, (cell_of_row _ _ 3 _ _ _ g).trans rfl, (cell_of_row _ _ 4 _ _ _ g).trans rfl⟩
theorem join2 {a0 a1 a2 a3 a4 b0 b1 b2 b3 b4 : Prop} (h : a0 ∧ a1 ∧ a2 ∧ a3 ∧ a4) (k : b0 ∧ b1 ∧ b2 ∧ b3 ∧ b4) : a0 ∧ a1 ∧ a2 ∧ a3 ∧ a4 ∧ b0 ∧ b1 ∧ b2 ∧ b3 ∧ b4 := ⟨h.1, h.2.1, h.2.2.1, h.2.2.2.1, h.2.2.2.2, k⟩

theorem in3 {x y z : PT} {w : World} (hx : x.In w) (hy : y.In w) (hz : z.In w) : ∀ q ∈ [x, y, z], q.In w := fun q hq => by
  rcases List.mem_cons.1 hq with rfl | hq
  · exact hx
  · rcases List.mem_cons.1 hq with rfl | hq
    · exact hy
    · rw [List.mem_singleton.1 hq]; exact hz
theorem cat_three (x y z : PT) (b : Nat) (w : World) (h : w.heap[b]? = some (.cells #[.int .i64 x.k, .string x.t, .int .i64 x.n, .string x.nm, .slice x.xa x.len x.cap, .int .i64 y.k, .string y.t, .int .i64 y.n, .string y.nm, .slice y.xa y.len y.cap, .int .i64 z.k, .string z.t, .int .i64 z.n, .string z.nm, .slice z.xa z.len z.cap] 25 (0, 0))) (hx : x.In w) (hy : y.In w) (hz : z.In w) :
    Calls Tryd.prog 10 #[.slice (some ⟨b, 0, none⟩) 3 3] w fun e w' => e = .returned (.agg #[.int .i64 18, .string ⟨#[]⟩, .int .i64 0, .string ⟨#[]⟩, .slice (some ⟨b, 0, none⟩) 3 3]) ∧ Below w.heap.size w w' ∧ (kidsP 18 b [x, y, z]).In w' :=
  cat_kids (l := [x, y, z]) (show 3 ≤ 3 by decide) h (in3 hx hy hz)
theorem alt_three (x y z : PT) (b : Nat) (w : World) (h : w.heap[b]? = some (.cells #[.int .i64 x.k, .string x.t, .int .i64 x.n, .string x.nm, .slice x.xa x.len x.cap, .int .i64 y.k, .string y.t, .int .i64 y.n, .string y.nm, .slice y.xa y.len y.cap, .int .i64 z.k, .string z.t, .int .i64 z.n, .string z.nm, .slice z.xa z.len z.cap] 25 (0, 0))) (hx : x.In w) (hy : y.In w) (hz : z.In w) :
    Calls Tryd.prog 13 #[.slice (some ⟨b, 0, none⟩) 3 3] w fun e w' => e = .returned (.agg #[.int .i64 19, .string ⟨#[]⟩, .int .i64 0, .string ⟨#[]⟩, .slice (some ⟨b, 0, none⟩) 3 3]) ∧ Below w.heap.size w w' ∧ (kidsP 19 b [x, y, z]).In w' :=
  alt_kids (l := [x, y, z]) (show 3 ≤ 3 by decide) h (in3 hx hy hz)
theorem join3 {a0 a1 a2 a3 a4 b0 b1 b2 b3 b4 c0 c1 c2 c3 c4 : Prop} (h : a0 ∧ a1 ∧ a2 ∧ a3 ∧ a4) (k : b0 ∧ b1 ∧ b2 ∧ b3 ∧ b4) (l : c0 ∧ c1 ∧ c2 ∧ c3 ∧ c4) : a0 ∧ a1 ∧ a2 ∧ a3 ∧ a4 ∧ b0 ∧ b1 ∧ b2 ∧ b3 ∧ b4 ∧ c0 ∧ c1 ∧ c2 ∧ c3 ∧ c4 := ⟨h.1, h.2.1, h.2.2.1, h.2.2.2.1, h.2.2.2.2, k.1, k.2.1, k.2.2.1, k.2.2.2.1, k.2.2.2.2, l⟩
theorem in_next {c w w' : World} {T : PT} (h : T.In c) (hc : Below c.heap.size c w) (hb : Below w.heap.size w w') : T.In w' := PT.In.later (bnext hc hb) h
theorem blk_next {c w w' : World} {n : Nat} {cs : Array Value} {t : TypeId} (h : c.heap[n]? = some (.cells cs t (0, 0))) (hc : Below c.heap.size c w) (hb : Below w.heap.size w w') : w'.heap[n]? = some (.cells cs t (0, 0)) := row_below h (bnext hc hb)
end Go.Proofs.YteblcdgjjhodeabDoor
