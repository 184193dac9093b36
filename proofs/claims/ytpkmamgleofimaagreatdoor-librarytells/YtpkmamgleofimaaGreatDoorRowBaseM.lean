/- The checker: maps of names, and its small functions. Rows of entries of the call's own. -/
import Derived.Test.YtpkmamgleofimaaGreatDoorStAM
import Derived.Maps.OwnSet
import Derived.Maps.OwnOps
import Derived.Maps.Views
import Derived.StringKeys
import Derived.Test.YtpkmamgleofimaaGreatDoorPatSizeP
import Derived.Maps.AppendAt
namespace Go.Proofs.YtpkmamgleofimaaGreatDoor
open Go.RowKit

def keyS (s : ByteArray) : Lit := .string s.data.toList
theorem keyS_inj {s t : ByteArray} (h : keyS s = keyS t) : s = t := by
  injection h with h
  exact ByteArray.ext (Array.toList_inj.1 h)
theorem keyS_key {s : ByteArray} (hs : s.size ≤ maxLen) : keyOf Tryz.prog 9 (.string s) = some (keyS s) := Go.WideMaps.keyOf_string_mk Tryz.underlying9 hs
theorem zero_int (w : World) : (zeroValue 3).run Tryz.prog w = .ok (.int .i64 0) w := by kernel_rfl
theorem keyS_lit {s : ByteArray} : WideAt.IsKeyLit (keyS s) := by simp [WideAt.IsKeyLit, keyS]
def MI (w : World) (b n : Nat) (f : ByteArray → Option Int) : Prop := ∃ D : DataW Unit, w.ownsMap Tryz.prog 9 (plainElem Tryz.prog 3) b n D ∧ ∀ s, Maps.has D (keyS s) = (f s).isSome ∧ ∀ x, f s = some x → D.atKey (keyS s) (.lit (.int .i64 0)) = .lit (.int .i64 x)
theorem MI.below {w w' : World} {b n : Nat} {f : ByteArray → Option Int} (h : MI w b n f) (hb : w'.heap[b]? = w.heap[b]?) : MI w' b n f := by
  obtain ⟨D, ⟨es, cl, h1, h2, h3, h4⟩, h5⟩ := h
  exact ⟨D, ⟨es, cl, hb.trans h1, h2, h3, h4⟩, h5⟩
theorem MI.lt {w : World} {b n : Nat} {f : ByteArray → Option Int} (h : MI w b n f) : b < w.heap.size := by obtain ⟨D, h, -⟩ := h; exact h.lt
theorem MI.new {w : World} : MI (w.alloc (.map #[] 0)) w.heap.size 0 (fun _ => none) := ⟨_, World.ownsMap_made w _ _ _, fun s => ⟨rfl, fun x h => by cases h⟩⟩
theorem MI.put {w : World} {b n : Nat} {f : ByteArray → Option Int} {D : DataW Unit} {s : ByteArray} {x : Int} (h5 : ∀ s, Maps.has D (keyS s) = (f s).isSome ∧ ∀ x, f s = some x → D.atKey (keyS s) (.lit (.int .i64 0)) = .lit (.int .i64 x)) (hm : Maps.IsMap D)
    (h : w.ownsMap Tryz.prog 9 (plainElem Tryz.prog 3) b n (D.put (keyS s) (.lit (.int .i64 x)))) : MI w b n (fun t => if t = s then some x else f t) := by
  refine ⟨_, h, fun t => ?_⟩
  show Maps.has (D.put (keyS s) (.lit (.int .i64 x))) (keyS t) = (if t = s then some x else f t).isSome ∧ ∀ y, (if t = s then some x else f t) = some y → (D.put (keyS s) (.lit (.int .i64 x))).atKey (keyS t) (.lit (.int .i64 0)) = .lit (.int .i64 y)
  by_cases q : t = s
  · subst q
    rw [if_pos rfl]
    exact ⟨Maps.has_put_same hm keyS_lit _, fun y hy => by injection hy with hy; subst hy; exact Maps.atKey_put_same hm keyS_lit _ _⟩
  · rw [if_neg q, Maps.has_put_other (fun e => q (keyS_inj e)), Maps.atKey_put_other (fun e => q (keyS_inj e))]
    exact h5 t
set_option maxRecDepth 100000 in
set_option maxHeartbeats 1000000 in
theorem isLabel_any {w : World} {z o b n : Nat} {f : ByteArray → Option Int} {s : ByteArray} (c : w.cell? ⟨z, o, none⟩ = some (.map (some b))) (hM : MI w b n f) (hs : s.size ≤ maxLen) :
    Calls Tryz.prog 42 #[.pointer (some ⟨z, o, none⟩), .string s] w fun e w' => e = .returned (.bool (f s).isSome) ∧ w' = w := by
  obtain ⟨D, hown, h5⟩ := hM
  have hk := keyS_key hs
  have HH := hide (h5 s).1
  clear h5 hs
  go_enter Tryz.func42, Tryz.ntmps42
  go_wp2_with (first
    | (at_lookup; refine wpList_lookup_own_ok_int _ rfl _ _ 52 rfl 9 3 .i64 (Maps.string_keyed Tryz.underlying9) Tryz.underlying52 Tryz.underlying3 (zero_int _) b n D rfl hown _ _ rfl hk ?_; intro cc hat hwc)
    | fail)
  go_ret
  exact ⟨by rw [← unhide HH]; rfl, rfl⟩
set_option maxRecDepth 100000 in
set_option maxHeartbeats 1000000 in
theorem isFunction_any {w : World} {z o b n : Nat} {f : ByteArray → Option Int} {s : ByteArray} (c : w.cell? ⟨z, o + 1, none⟩ = some (.map (some b))) (hM : MI w b n f) (hs : s.size ≤ maxLen) :
    Calls Tryz.prog 44 #[.pointer (some ⟨z, o, none⟩), .string s] w fun e w' => e = .returned (.bool (f s).isSome) ∧ w' = w := by
  obtain ⟨D, hown, h5⟩ := hM
  have hk := keyS_key hs
  have HH := hide (h5 s).1
  clear h5 hs
  go_enter Tryz.func44, Tryz.ntmps44
  go_wp2_with (first
    | (at_lookup; refine wpList_lookup_own_ok_int _ rfl _ _ 52 rfl 9 3 .i64 (Maps.string_keyed Tryz.underlying9) Tryz.underlying52 Tryz.underlying3 (zero_int _) b n D rfl hown _ _ rfl hk ?_; intro cc hat hwc)
    | fail)
  go_ret
  exact ⟨by rw [← unhide HH]; rfl, rfl⟩
structure CkAt (w : World) (z bl bf : Nat) (er a : Int) (pv : Value) : Prop where
  blk : w.heap[z]? = some (.cells #[.int .i64 er, .int .i64 a, .map (some bl), .map (some bf), pv] 56 (0, 0))
def tE (er e' : Int) : Int := if er = 0 then e' else er
def tA (er e' a a' : Int) : Int := if er = 0 ∧ e' ≠ 0 then a' else a
set_option maxRecDepth 100000 in
set_option maxHeartbeats 1000000 in
theorem tell_any {w : World} {z bl bf : Nat} {er a : Int} {pv : Value} (h : CkAt w z bl bf er a pv) (e' a' : Int) :
    Calls Tryz.prog 21 #[.pointer (some ⟨z, 0, none⟩), .int .i64 e', .int .i64 a'] w fun e w' => e = .returned (.tuple #[]) ∧ But z w w' ∧ CkAt w' z bl bf (tE er e') (tA er e' a a') pv := by
  have c0 : w.cell? ⟨z, 0, none⟩ = some (.int .i64 er) := cr h.blk
  have c1 : w.cell? ⟨z, 1, none⟩ = some (.int .i64 a) := cr h.blk
  have f0 := frozen_of_row w z 0 _ _ h.blk
  have f1 := frozen_of_row w z 1 _ _ h.blk
  have H := hide h.blk
  clear h
  by_cases h0 : er = 0
  · have q0 : (er == 0) = true := bt h0
    by_cases h1 : e' = 0
    · have q1 : (e' == 0) = true := bt h1
      have HE : Hid (CkAt w z bl bf (tE er e') (tA er e' a a') pv) := hide (by rw [tE, tA, if_pos h0, if_neg (fun q => q.2 h1), h1, ← h0]; exact ⟨unhide H⟩)
      clear h0 h1
      go_enter Tryz.func21, Tryz.ntmps21
      go_wp2_with fail
      go_end0
      exact ⟨rfl, But.refl _ _, unhide HE⟩
    · have q1 : (e' == 0) = false := bn h1
      have HE : Hid (CkAt ((w.setCell ⟨z, 0, none⟩ (.int .i64 e')).setCell ⟨z, 1, none⟩ (.int .i64 a')) z bl bf (tE er e') (tA er e' a a') pv) := hide (by rw [tE, tA, if_pos h0, if_pos ⟨h0, h1⟩]; exact ⟨heap_setCell_same _ z 1 _ _ _ (heap_setCell_same w z 0 _ _ _ (unhide H))⟩)
      clear h0 h1
      go_enter Tryz.func21, Tryz.ntmps21
      go_wp2_with fail
      go_end0
      exact ⟨rfl, ((But.refl z w).setCell 0 _).setCell 1 _, unhide HE⟩
  · have q0 : (er == 0) = false := bn h0
    have HE : Hid (CkAt w z bl bf (tE er e') (tA er e' a a') pv) := hide (by rw [tE, tA, if_neg h0, if_neg (fun q => h0 q.1)]; exact ⟨unhide H⟩)
    clear h0
    go_enter Tryz.func21, Tryz.ntmps21
    go_wp2_with fail
    go_end0
    exact ⟨rfl, But.refl _ _, unhide HE⟩
end Go.Proofs.YtpkmamgleofimaaGreatDoor

namespace Go.Proofs.YtpkmamgleofimaaGreatDoor
open Go.RowKit

def flat {α : Type} (f : α → List Value) (l : List α) : List Value := l.flatMap f
section
variable {α : Type} {f : α → List Value} {sz : Nat}
theorem flat_get (hf : ∀ x, (f x).length = sz) : ∀ (l : List α) (i k : Nat) (x : α), l[i]? = some x → k < sz → (flat f l)[i * sz + k]? = (f x)[k]?
  | [], i, k, x, h, _ => by simp at h
  | y :: l, 0, k, x, h, hk => by
    have : y = x := by simpa using h
    subst this
    show (f y ++ flat f l)[0 * sz + k]? = _
    rw [Nat.zero_mul, Nat.zero_add, List.getElem?_append_left (by rw [hf]; exact hk)]
  | y :: l, i + 1, k, x, h, hk => by
    show (f y ++ flat f l)[(i + 1) * sz + k]? = _
    rw [List.getElem?_append_right (by rw [hf, Nat.add_mul]; omega), hf, show (i + 1) * sz + k - sz = i * sz + k by rw [Nat.add_mul]; omega]
    exact flat_get hf l i k x (by simpa using h) hk
end
theorem flat_append {α : Type} (f : α → List Value) (a b : List α) : flat f (a ++ b) = flat f a ++ flat f b := by unfold flat; rw [List.flatMap_append]
theorem flat_one {α : Type} (f : α → List Value) (a : α) : flat f [a] = f a := by simp [flat]
def Row {α : Type} (w : World) (B : Nat) (e : TypeId) (sz : Nat) (f : α → List Value) (v : Value) (l : List α) : Prop := w.ownsRow B e sz v l.length (flat f l)
section
variable {α : Type} {w w' : World} {B : Nat} {e : TypeId} {sz : Nat} {f : α → List Value} {v : Value} {l : List α}
theorem Row.low (h : Row w B e sz f v l) {k : Nat} (hk : v.ownBlock = some k) : B ≤ k ∧ k < w.heap.size := World.ownsRow.lt h k hk
theorem Row.same (h : Row w B e sz f v l) (hs : ∀ k, v.ownBlock = some k → w'.heap[k]? = w.heap[k]?) : Row w' B e sz f v l := by
  rcases h with ⟨h1, ⟨rfl, h2⟩ | ⟨g, cap, cur, rfl, hb, hg, hr⟩⟩
  · exact ⟨h1, .inl ⟨rfl, h2⟩⟩
  · exact ⟨h1, .inr ⟨g, cap, cur, rfl, hb, (hs g rfl).trans hg, hr⟩⟩
theorem Row.later (h : Row w B e sz f v l) (hb : Below w.heap.size w w') : Row w' B e sz f v l := h.same fun k hk => hb.block k (h.low hk).2
theorem Row.form (h : Row w B e sz f v l) (hl : l ≠ []) : ∃ g cap, v = .slice (some ⟨g, 0, none⟩) l.length cap ∧ l.length ≤ cap ∧ cap ≤ maxLen := by
  rcases h.2 with ⟨_, h0⟩ | ⟨g, cap, cur, rfl, _, _, h1, h2, _⟩
  · exact absurd (List.eq_nil_of_length_eq_zero h0) hl
  · exact ⟨g, cap, rfl, h1, h2⟩
theorem Row.max (h : Row w B e sz f v l) : l.length ≤ maxLen := by
  rcases h.2 with ⟨_, h0⟩ | ⟨g, cap, cur, rfl, _, _, h1, h2, _⟩
  · rw [h0]; exact Nat.zero_le _
  · omega
def lenV (v : Value) : Nat := match v with | .slice _ n _ => n | _ => 0
theorem Row.len (h : Row w B e sz f v l) : ∃ a cap, v = .slice a l.length cap ∧ (a = none → cap = 0 ∧ l.length = 0) ∧ l.length ≤ cap := by
  rcases h.2 with ⟨rfl, h0⟩ | ⟨g, cap, cur, rfl, _, _, h1, h2, _⟩
  · exact ⟨none, 0, by rw [h0], fun _ => ⟨rfl, h0⟩, by omega⟩
  · exact ⟨_, cap, rfl, fun h => (by cases h), h1⟩
theorem Row.cell (h : Row w B e sz f v l) (hf : ∀ x, (f x).length = sz) {g cap i k : Nat} {x : α} {u : Value} (hv : v = .slice (some ⟨g, 0, none⟩) l.length cap) (hx : l[i]? = some x) (hu : (f x)[k]? = some u) : w.cell? ⟨g, i * sz + k, none⟩ = some u := by
  have hk : k < sz := by rw [← hf x]; exact (List.getElem?_eq_some_iff.1 hu).1
  rcases h.2 with ⟨h1, h0⟩ | ⟨g', cap', cur, h1, hb, hg, hc, hm, hs, ht⟩
  · rw [hv] at h1; cases h1
  · rw [hv] at h1; cases h1
    have hi : i < l.length := (List.getElem?_eq_some_iff.1 hx).1
    have hlt : i * sz + k < l.length * sz := by
      have : (i + 1) * sz ≤ l.length * sz := Nat.mul_le_mul_right _ hi
      rw [Nat.add_mul] at this; omega
    rw [cell_of_row _ _ _ _ _ _ hg, ← Array.getElem?_toList]
    have := flat_get hf l i k x hx hk
    rw [← ht, List.getElem?_take, if_pos hlt] at this
    rw [this, hu]
end

theorem idx_run {t e : TypeId} {sz g n cap i : Nat} (hu : Tryz.prog.underlying t = some (.slice e)) (hs : (Tryz.prog.info? e).map (·.size) = some sz) (hi : i < n) (w : World) :
    (Instr.indexAt t (.slice (some ⟨g, 0, none⟩) n cap) (.int .i64 (i : Int))).run Tryz.prog w = .ok (.pointer (some ⟨g, i * sz, none⟩)) w := by
  have h0 : (0 : Int) ≤ (i : Int) ∧ (i : Int) < (n : Int) := by omega
  cases hq : Tryz.prog.info? e with
  | none => simp [hq] at hs
  | some x =>
    have hz : x.size = sz := by simpa [hq] using hs
    simp [Instr.indexAt, asIntOf, run_underlying hu, h0, sizeOf, typeInfo, hq, hz, Addr.add_lit]
    intro h
    omega
theorem append_row {α : Type} {f : α → List Value} {sz bytes : Nat} {z : Value} {t e : TypeId} (hu : Tryz.prog.underlying t = some (.slice e)) (hinf : (Tryz.prog.info? e).map (fun i => (i.zero, i.size, i.bytes)) = some (some z, sz, bytes)) (hz : z.cells.size = sz) (hsz : 0 < sz) (hby : bytes ≤ 1000) (hf : ∀ x, (f x).length = sz) (h1 : ∀ x, ∀ u ∈ f x, u.oneCell' = true)
    {w : World} {B : Nat} {v : Value} {l : List α} (h : Row w B e sz f v l) (hB : B ≤ w.heap.size) (y : α) (g c : Nat) (hc : ∀ k u, (f y)[k]? = some u → w.cell? ⟨g, k, none⟩ = some u) (hl : l.length ≤ 100000000000) (ty : TypeId) :
    ∃ v' w', (Builtin.append_ #[t, t] ty #[v, .slice (some ⟨g, 0, none⟩) 1 c]).run Tryz.prog w = .ok v' w' ∧ Row w' B e sz f v' (l ++ [y]) ∧ w.grownBy w' v.ownBlock ∧ (v'.ownBlock = v.ownBlock ∨ v'.ownBlock = some w.heap.size) := by
  cases hi : Tryz.prog.info? e with
  | none => simp [hi] at hinf
  | some i =>
    simp only [hi, Option.map_some, Option.some.injEq, Prod.mk.injEq] at hinf
    obtain ⟨hz0, hz1, hz2⟩ := hinf
    have hb : (l.length + 1) * bytes ≤ 140737488355328 := by
      have : (l.length + 1) * bytes ≤ 100000000001 * 1000 := Nat.mul_le_mul (by omega) hby
      omega
    obtain ⟨v', w', hr, h2, h3, -, h5⟩ := run_append_own_at (P := Tryz.prog) w B t ty e i z sz bytes hu hi hz0 hz1 hz2 hz hsz v l.length (flat f l) h ⟨g, 0, none⟩ 1 c (f y) (by rw [hf, Nat.one_mul]) (fun j u hj => by rw [Addr.add_lit, Nat.zero_add]; exact hc j u hj) (h1 y) (by unfold maxLen; omega) hb hB
    refine ⟨v', w', hr, ?_, h3, h5⟩
    unfold Row
    rw [List.length_append, flat_append, flat_one]
    exact h2
theorem wpList_row {α : Type} {f : α → List Value} {sz bytes : Nat} {z : Value} {t e : TypeId} (hu : Tryz.prog.underlying t = some (.slice e)) (hinf : (Tryz.prog.info? e).map (fun i => (i.zero, i.size, i.bytes)) = some (some z, sz, bytes)) (hz : z.cells.size = sz) (hsz : 0 < sz) (hby : bytes ≤ 1000) (hf : ∀ x, (f x).length = sz) (h1 : ∀ x, ∀ u ∈ f x, u.oneCell' = true)
    {w : World} {ops : Array Oper} {rest : List Oper} {o : Oper} {a : Act} {Q : Exit → Act → World → Prop} (hgd : o.guard = none) (s x : Operand)
    (ho : o.op = .call { callee := .builtin .append, args := #[s, x], argTypes := #[t, t] }) {B : Nat} {v : Value} {l : List α} (h : Row w B e sz f v l) (hB : B ≤ w.heap.size) (y : α) (g c : Nat) (hs : a.eval s = v) (hx : a.eval x = .slice (some ⟨g, 0, none⟩) 1 c) (hc : ∀ k u, (f y)[k]? = some u → w.cell? ⟨g, k, none⟩ = some u) (hl : l.length ≤ 1000000)
    (hK : ∀ v' w', Row w' B e sz f v' (l ++ [y]) → w.grownBy w' v.ownBlock → (v'.ownBlock = v.ownBlock ∨ v'.ownBlock = some w.heap.size) → wpList Tryz.prog ops Q rest (a.put o.dst v') w') : wpList Tryz.prog ops Q (o :: rest) a w := by
  refine wpList_plain hgd fun K hK' => ?_
  obtain ⟨v', w', hr, h2, h3, h4⟩ := append_row hu hinf hz hsz hby hf h1 h hB y g c hc (Nat.le_trans hl (by decide)) o.type
  unfold Oper.wp execOp
  simp only [ho, resolve, invoke, builtin, Sem.run_bind, Sem.run_pure, Result.andThen_ok, List.map_toArray, List.map_cons, List.map_nil, hs, hx, hr]
  exact hK' _ _ (hK v' w' h2 h3 h4)
theorem below_grownR {B : Nat} {a w w' : World} {α : Type} {e : TypeId} {sz : Nat} {f : α → List Value} {v : Value} {l : List α} (h : Below B a w) (hr : Row w B e sz f v l) (hB : B ≤ a.heap.size) (hg : w.grownBy w' v.ownBlock) : Below B a w' :=
  ⟨hg.os.trans h.os, hg.tape.trans h.tape, hg.output.trans h.output, Nat.le_trans h.size hg.size, fun k hk => (hg.block k (by have := h.size; omega) fun x => by have := (hr.low x.symm).1; omega).trans (h.block k hk)⟩
theorem below_cell {B g : Nat} {a w : World} (h : Below B a w) (hg : B ≤ g) (k : Nat) (v : Value) : Below B a (w.setCell ⟨g, k, none⟩ v) :=
  ⟨h.os, h.tape, h.output, by simpa using h.size, fun i hi => (heap_setCell_other w ⟨g, k, none⟩ i v (by show i ≠ g; omega)).trans (h.block i hi)⟩
end Go.Proofs.YtpkmamgleofimaaGreatDoor
