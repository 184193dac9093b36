/- Statements: each of its cells is one cell. Rows of entries of the call's own. -/
import Derived.Test.YtpphjddljngkmaaDoorStBM
import Derived.Test.YtpphjddljngkmaaDoorPatSizeP
import Derived.Maps.AppendAt
namespace Go.Proofs.YtpphjddljngkmaaDoor
open Go.RowKit

theorem SV.cells_one (S : SV) : S.cells.all (·.oneCell') = true := by
  unfold SV.cells NL.v
  simp [Value.oneCell']
end Go.Proofs.YtpphjddljngkmaaDoor

namespace Go.Proofs.YtpphjddljngkmaaDoor
open Go.RowKit

/-- Rows of entries, each of as many cells. -/
def flat {α : Type} (f : α → List Value) (l : List α) : List Value := l.flatMap f
section
variable {α : Type} {f : α → List Value} {sz : Nat}
theorem flat_len (hf : ∀ x, (f x).length = sz) (l : List α) : (flat f l).length = l.length * sz := by
  induction l with
  | nil => simp [flat]
  | cons x l ih =>
    show (f x ++ flat f l).length = _
    rw [List.length_append, hf, ih, List.length_cons, Nat.add_mul]; omega
theorem flat_get (hf : ∀ x, (f x).length = sz) : ∀ (l : List α) (i k : Nat) (x : α), l[i]? = some x → k < sz → (flat f l)[i * sz + k]? = (f x)[k]?
  | [], i, k, x, h, _ => by simp at h
  | y :: l, 0, k, x, h, hk => by
    have : y = x := by simpa using h
    subst this
    show (f y ++ flat f l)[0 * sz + k]? = _
    rw [Nat.zero_mul, Nat.zero_add, List.getElem?_append_left (by rw [hf]; exact hk)]
  | y :: l, i + 1, k, x, h, hk => by
    show (f y ++ flat f l)[(i + 1) * sz + k]? = _
    rw [List.getElem?_append_right (by rw [hf, Nat.add_mul]; omega), hf, show (i + 1) * sz + k - sz = i * sz + k by rw [Nat.add_mul]; omega]
    exact flat_get hf l i k x (by simpa using h) hk
theorem flat_take (hf : ∀ x, (f x).length = sz) : ∀ (l : List α) (m : Nat), (flat f l).take (m * sz) = flat f (l.take m)
  | [], m => by simp [flat]
  | y :: l, 0 => by simp [flat]
  | y :: l, m + 1 => by
    show (f y ++ flat f l).take _ = f y ++ flat f (l.take m)
    rw [List.take_append, hf, List.take_of_length_le (by rw [hf, Nat.add_mul]; omega), show (m + 1) * sz - sz = m * sz by rw [Nat.add_mul]; omega, flat_take hf l m]
end
theorem flat_append {α : Type} (f : α → List Value) (a b : List α) : flat f (a ++ b) = flat f a ++ flat f b := by unfold flat; rw [List.flatMap_append]
theorem flat_one {α : Type} (f : α → List Value) (a : α) : flat f [a] = f a := by simp [flat]
/-- A row of the call's own. -/
def Row {α : Type} (w : World) (B : Nat) (e : TypeId) (sz : Nat) (f : α → List Value) (v : Value) (l : List α) : Prop := w.ownsRow B e sz v l.length (flat f l)
section
variable {α : Type} {w w' : World} {B : Nat} {e : TypeId} {sz : Nat} {f : α → List Value} {v : Value} {l : List α}
theorem Row.type (h : Row w B e sz f v l) {k : Nat} (hk : v.ownBlock = some k) : ∃ cur, w.heap[k]? = some (.cells cur e (0, 0)) := by
  rcases h.2 with ⟨rfl, _⟩ | ⟨g, cap, cur, rfl, _, hg, _⟩
  · cases hk
  · cases hk; exact ⟨cur, hg⟩
theorem Row.low (h : Row w B e sz f v l) {k : Nat} (hk : v.ownBlock = some k) : B ≤ k ∧ k < w.heap.size := World.ownsRow.lt h k hk
theorem Row.same (h : Row w B e sz f v l) (hs : ∀ k, v.ownBlock = some k → w'.heap[k]? = w.heap[k]?) : Row w' B e sz f v l := by
  rcases h with ⟨h1, ⟨rfl, h2⟩ | ⟨g, cap, cur, rfl, hb, hg, hr⟩⟩
  · exact ⟨h1, .inl ⟨rfl, h2⟩⟩
  · exact ⟨h1, .inr ⟨g, cap, cur, rfl, hb, (hs g rfl).trans hg, hr⟩⟩
theorem Row.later (h : Row w B e sz f v l) (hb : Below w.heap.size w w') : Row w' B e sz f v l := h.same fun k hk => hb.block k (h.low hk).2
theorem Row.form (h : Row w B e sz f v l) (hl : l ≠ []) : ∃ g cap, v = .slice (some ⟨g, 0, none⟩) l.length cap ∧ l.length ≤ cap ∧ cap ≤ maxLen := by
  rcases h.2 with ⟨_, h0⟩ | ⟨g, cap, cur, rfl, _, _, h1, h2, _⟩
  · exact absurd (List.eq_nil_of_length_eq_zero h0) hl
  · exact ⟨g, cap, rfl, h1, h2⟩
theorem Row.max (h : Row w B e sz f v l) : l.length ≤ maxLen := by
  rcases h.2 with ⟨_, h0⟩ | ⟨g, cap, cur, rfl, _, _, h1, h2, _⟩
  · rw [h0]; exact Nat.zero_le _
  · omega
theorem Row.len (h : Row w B e sz f v l) : ∃ a cap, v = .slice a l.length cap ∧ (a = none → cap = 0 ∧ l.length = 0) ∧ l.length ≤ cap := by
  rcases h.2 with ⟨rfl, h0⟩ | ⟨g, cap, cur, rfl, _, _, h1, h2, _⟩
  · exact ⟨none, 0, by rw [h0], fun _ => ⟨rfl, h0⟩, by omega⟩
  · exact ⟨_, cap, rfl, fun h => (by cases h), h1⟩
theorem Row.take (h : Row w B e sz f v l) (hf : ∀ x, (f x).length = sz) {a : Option Addr} {cap m : Nat} (hv : v = .slice a l.length cap) (hm : m ≤ l.length) : Row w B e sz f (.slice a m cap) (l.take m) := by
  have hlm : (l.take m).length = m := by simp; omega
  refine ⟨flat_len hf _, ?_⟩
  rcases h.2 with ⟨h1, h0⟩ | ⟨g, cap', cur, h1, hb, hg, hc, hx, hs, ht⟩
  · rw [hv] at h1
    injection h1 with e1 e2 e3
    have : m = 0 := by omega
    subst this e1 e3
    exact .inl ⟨rfl, by simp⟩
  · rw [hv] at h1
    cases h1
    refine .inr ⟨g, cap, cur, by rw [hlm], hb, hg, by omega, hx, hs, ?_⟩
    rw [hlm, ← flat_take hf l m, ← ht, List.take_take, Nat.min_eq_left (Nat.mul_le_mul_right _ hm)]
theorem Row.cell (h : Row w B e sz f v l) (hf : ∀ x, (f x).length = sz) {g cap i k : Nat} {x : α} {u : Value} (hv : v = .slice (some ⟨g, 0, none⟩) l.length cap) (hx : l[i]? = some x) (hu : (f x)[k]? = some u) : w.cell? ⟨g, i * sz + k, none⟩ = some u := by
  have hk : k < sz := by rw [← hf x]; exact (List.getElem?_eq_some_iff.1 hu).1
  rcases h.2 with ⟨h1, h0⟩ | ⟨g', cap', cur, h1, hb, hg, hc, hm, hs, ht⟩
  · rw [hv] at h1; cases h1
  · rw [hv] at h1; cases h1
    have hi : i < l.length := (List.getElem?_eq_some_iff.1 hx).1
    have hlt : i * sz + k < l.length * sz := by
      have : (i + 1) * sz ≤ l.length * sz := Nat.mul_le_mul_right _ hi
      rw [Nat.add_mul] at this; omega
    rw [cell_of_row _ _ _ _ _ _ hg, ← Array.getElem?_toList]
    have := flat_get hf l i k x hx hk
    rw [← ht, List.getElem?_take, if_pos hlt] at this
    rw [this, hu]
end

/-- An append of one entry to a row of the call's own. -/
theorem append_row {α : Type} {f : α → List Value} {sz bytes : Nat} {z : Value} {t e : TypeId} (hu : Tryd.prog.underlying t = some (.slice e)) (hinf : (Tryd.prog.info? e).map (fun i => (i.zero, i.size, i.bytes)) = some (some z, sz, bytes)) (hz : z.cells.size = sz) (hsz : 0 < sz) (hby : bytes ≤ 1000) (hf : ∀ x, (f x).length = sz) (h1 : ∀ x, ∀ u ∈ f x, u.oneCell' = true)
    {w : World} {B : Nat} {v : Value} {l : List α} (h : Row w B e sz f v l) (hB : B ≤ w.heap.size) (y : α) (g c : Nat) (hc : ∀ k u, (f y)[k]? = some u → w.cell? ⟨g, k, none⟩ = some u) (hl : l.length ≤ 100000000000) (ty : TypeId) :
    ∃ v' w', (Builtin.append_ #[t, t] ty #[v, .slice (some ⟨g, 0, none⟩) 1 c]).run Tryd.prog w = .ok v' w' ∧ Row w' B e sz f v' (l ++ [y]) ∧ w.grownBy w' v.ownBlock ∧ (v'.ownBlock = v.ownBlock ∨ v'.ownBlock = some w.heap.size) := by
  cases hi : Tryd.prog.info? e with
  | none => simp [hi] at hinf
  | some i =>
    simp only [hi, Option.map_some, Option.some.injEq, Prod.mk.injEq] at hinf
    obtain ⟨hz0, hz1, hz2⟩ := hinf
    have hb : (l.length + 1) * bytes ≤ 140737488355328 := by
      have : (l.length + 1) * bytes ≤ 100000000001 * 1000 := Nat.mul_le_mul (by omega) hby
      omega
    obtain ⟨v', w', hr, h2, h3, -, h5⟩ := run_append_own_at (P := Tryd.prog) w B t ty e i z sz bytes hu hi hz0 hz1 hz2 hz hsz v l.length (flat f l) h ⟨g, 0, none⟩ 1 c (f y) (by rw [hf, Nat.one_mul]) (fun j u hj => by rw [Addr.add_lit, Nat.zero_add]; exact hc j u hj) (h1 y) (by unfold maxLen; omega) hb hB
    refine ⟨v', w', hr, ?_, h3, h5⟩
    unfold Row
    rw [List.length_append, flat_append, flat_one]
    exact h2
theorem wpList_row {α : Type} {f : α → List Value} {sz bytes : Nat} {z : Value} {t e : TypeId} (hu : Tryd.prog.underlying t = some (.slice e)) (hinf : (Tryd.prog.info? e).map (fun i => (i.zero, i.size, i.bytes)) = some (some z, sz, bytes)) (hz : z.cells.size = sz) (hsz : 0 < sz) (hby : bytes ≤ 1000) (hf : ∀ x, (f x).length = sz) (h1 : ∀ x, ∀ u ∈ f x, u.oneCell' = true)
    {w : World} {ops : Array Oper} {rest : List Oper} {o : Oper} {a : Act} {Q : Exit → Act → World → Prop} (hgd : o.guard = none) (s x : Operand)
    (ho : o.op = .call { callee := .builtin .append, args := #[s, x], argTypes := #[t, t] }) {B : Nat} {v : Value} {l : List α} (h : Row w B e sz f v l) (hB : B ≤ w.heap.size) (y : α) (g c : Nat) (hs : a.eval s = v) (hx : a.eval x = .slice (some ⟨g, 0, none⟩) 1 c) (hc : ∀ k u, (f y)[k]? = some u → w.cell? ⟨g, k, none⟩ = some u) (hl : l.length ≤ 1000000)
    (hK : ∀ v' w', Row w' B e sz f v' (l ++ [y]) → w.grownBy w' v.ownBlock → (v'.ownBlock = v.ownBlock ∨ v'.ownBlock = some w.heap.size) → wpList Tryd.prog ops Q rest (a.put o.dst v') w') : wpList Tryd.prog ops Q (o :: rest) a w := by
  refine wpList_plain hgd fun K hK' => ?_
  obtain ⟨v', w', hr, h2, h3, h4⟩ := append_row hu hinf hz hsz hby hf h1 h hB y g c hc (Nat.le_trans hl (by decide)) o.type
  unfold Oper.wp execOp
  simp only [ho, resolve, invoke, builtin, Sem.run_bind, Sem.run_pure, Result.andThen_ok, List.map_toArray, List.map_cons, List.map_nil, hs, hx, hr]
  exact hK' _ _ (hK v' w' h2 h3 h4)
/-- What lies below is as it was. -/
theorem below_grownR {B : Nat} {a w w' : World} {α : Type} {e : TypeId} {sz : Nat} {f : α → List Value} {v : Value} {l : List α} (h : Below B a w) (hr : Row w B e sz f v l) (hB : B ≤ a.heap.size) (hg : w.grownBy w' v.ownBlock) : Below B a w' :=
  ⟨hg.os.trans h.os, hg.tape.trans h.tape, hg.output.trans h.output, Nat.le_trans h.size hg.size, fun k hk => (hg.block k (by have := h.size; omega) fun x => by have := (hr.low x.symm).1; omega).trans (h.block k hk)⟩
theorem below_cell {B g : Nat} {a w : World} (h : Below B a w) (hg : B ≤ g) (k : Nat) (v : Value) : Below B a (w.setCell ⟨g, k, none⟩ v) :=
  ⟨h.os, h.tape, h.output, by simpa using h.size, fun i hi => (heap_setCell_other w ⟨g, k, none⟩ i v (by show i ≠ g; omega)).trans (h.block i hi)⟩
theorem Row.neBlk {w : World} {B : Nat} {e t : TypeId} {sz : Nat} {α : Type} {f : α → List Value} {v : Value} {l : List α} (h : Row w B e sz f v l) {g : Nat} {c : Array Value} (hg : w.heap[g]? = some (.cells c t (0, 0))) (hne : e ≠ t) : some g ≠ v.ownBlock := fun x => by
  obtain ⟨c1, h1⟩ := h.type x.symm
  rw [hg] at h1
  injection h1 with h1
  injection h1 with _ h1
  exact hne h1.symm
end Go.Proofs.YtpphjddljngkmaaDoor
