/- The checker: maps of names, and its small functions. -/
import Derived.Test.YtpphjddljngkmaaDoorStAM
import Derived.Maps.OwnSet
import Derived.Maps.OwnOps
import Derived.Maps.Views
import Derived.StringKeys
namespace Go.Proofs.YtpphjddljngkmaaDoor
open Go.RowKit

def keyS (s : ByteArray) : Lit := .string s.data.toList
theorem keyS_inj {s t : ByteArray} (h : keyS s = keyS t) : s = t := by
  injection h with h
  exact ByteArray.ext (Array.toList_inj.1 h)
theorem keyS_key {s : ByteArray} (hs : s.size ≤ maxLen) : keyOf Tryd.prog 9 (.string s) = some (keyS s) := Go.WideMaps.keyOf_string_mk Tryd.underlying9 hs
theorem zero_int (w : World) : (zeroValue 3).run Tryd.prog w = .ok (.int .i64 0) w := by kernel_rfl
theorem keyS_lit {s : ByteArray} : WideAt.IsKeyLit (keyS s) := by simp [WideAt.IsKeyLit, keyS]
/-- A map of the call's own, from texts to numbers. -/
def MI (w : World) (b n : Nat) (f : ByteArray → Option Int) : Prop := ∃ D : DataW Unit, w.ownsMap Tryd.prog 9 (plainElem Tryd.prog 3) b n D ∧ ∀ s, Maps.has D (keyS s) = (f s).isSome ∧ ∀ x, f s = some x → D.atKey (keyS s) (.lit (.int .i64 0)) = .lit (.int .i64 x)
theorem MI.below {w w' : World} {b n : Nat} {f : ByteArray → Option Int} (h : MI w b n f) (hb : w'.heap[b]? = w.heap[b]?) : MI w' b n f := by
  obtain ⟨D, ⟨es, cl, h1, h2, h3, h4⟩, h5⟩ := h
  exact ⟨D, ⟨es, cl, hb.trans h1, h2, h3, h4⟩, h5⟩
theorem MI.lt {w : World} {b n : Nat} {f : ByteArray → Option Int} (h : MI w b n f) : b < w.heap.size := by obtain ⟨D, h, -⟩ := h; exact h.lt
theorem MI.new {w : World} : MI (w.alloc (.map #[] 0)) w.heap.size 0 (fun _ => none) := ⟨_, World.ownsMap_made w _ _ _, fun s => ⟨rfl, fun x h => by cases h⟩⟩
/-- One is put. -/
theorem MI.put {w : World} {b n : Nat} {f : ByteArray → Option Int} {D : DataW Unit} {s : ByteArray} {x : Int} (h5 : ∀ s, Maps.has D (keyS s) = (f s).isSome ∧ ∀ x, f s = some x → D.atKey (keyS s) (.lit (.int .i64 0)) = .lit (.int .i64 x)) (hm : Maps.IsMap D)
    (h : w.ownsMap Tryd.prog 9 (plainElem Tryd.prog 3) b n (D.put (keyS s) (.lit (.int .i64 x)))) : MI w b n (fun t => if t = s then some x else f t) := by
  refine ⟨_, h, fun t => ?_⟩
  show Maps.has (D.put (keyS s) (.lit (.int .i64 x))) (keyS t) = (if t = s then some x else f t).isSome ∧ ∀ y, (if t = s then some x else f t) = some y → (D.put (keyS s) (.lit (.int .i64 x))).atKey (keyS t) (.lit (.int .i64 0)) = .lit (.int .i64 y)
  by_cases q : t = s
  · subst q
    rw [if_pos rfl]
    exact ⟨Maps.has_put_same hm keyS_lit _, fun y hy => by injection hy with hy; subst hy; exact Maps.atKey_put_same hm keyS_lit _ _⟩
  · rw [if_neg q, Maps.has_put_other (fun e => q (keyS_inj e)), Maps.atKey_put_other (fun e => q (keyS_inj e))]
    exact h5 t
set_option maxRecDepth 100000 in
set_option maxHeartbeats 1000000 in
theorem isLabel_any {w : World} {z o b n : Nat} {f : ByteArray → Option Int} {s : ByteArray} (c : w.cell? ⟨z, o, none⟩ = some (.map (some b))) (hM : MI w b n f) (hs : s.size ≤ maxLen) :
    Calls Tryd.prog 34 #[.pointer (some ⟨z, o, none⟩), .string s] w fun e w' => e = .returned (.bool (f s).isSome) ∧ w' = w := by
  obtain ⟨D, hown, h5⟩ := hM
  have hk := keyS_key hs
  have HH := hide (h5 s).1
  clear h5 hs
  go_enter Tryd.func34, Tryd.ntmps34
  go_wp2_with (first
    | (at_lookup; refine wpList_lookup_own_ok_int _ rfl _ _ 34 rfl 9 3 .i64 (Maps.string_keyed Tryd.underlying9) Tryd.underlying34 Tryd.underlying3 (zero_int _) b n D rfl hown _ _ rfl hk ?_; intro cc hat hwc)
    | fail)
  go_ret
  exact ⟨by rw [← unhide HH]; rfl, rfl⟩
set_option maxRecDepth 100000 in
set_option maxHeartbeats 1000000 in
theorem isFunction_any {w : World} {z o b n : Nat} {f : ByteArray → Option Int} {s : ByteArray} (c : w.cell? ⟨z, o + 1, none⟩ = some (.map (some b))) (hM : MI w b n f) (hs : s.size ≤ maxLen) :
    Calls Tryd.prog 35 #[.pointer (some ⟨z, o, none⟩), .string s] w fun e w' => e = .returned (.bool (f s).isSome) ∧ w' = w := by
  obtain ⟨D, hown, h5⟩ := hM
  have hk := keyS_key hs
  have HH := hide (h5 s).1
  clear h5 hs
  go_enter Tryd.func35, Tryd.ntmps35
  go_wp2_with (first
    | (at_lookup; refine wpList_lookup_own_ok_int _ rfl _ _ 34 rfl 9 3 .i64 (Maps.string_keyed Tryd.underlying9) Tryd.underlying34 Tryd.underlying3 (zero_int _) b n D rfl hown _ _ rfl hk ?_; intro cc hat hwc)
    | fail)
  go_ret
  exact ⟨by rw [← unhide HH]; rfl, rfl⟩
/-- The checker's block: what was wrong first, and where; the labels, the functions; the program. -/
structure CkAt (w : World) (z bl bf : Nat) (er a : Int) (pv : Value) : Prop where
  blk : w.heap[z]? = some (.cells #[.int .i64 er, .int .i64 a, .map (some bl), .map (some bf), pv] 38 (0, 0))
/-- The first error stays. -/
def tE (er e' : Int) : Int := if er = 0 then e' else er
def tA (er e' a a' : Int) : Int := if er = 0 ∧ e' ≠ 0 then a' else a
set_option maxRecDepth 100000 in
set_option maxHeartbeats 1000000 in
theorem tell_any {w : World} {z bl bf : Nat} {er a : Int} {pv : Value} (h : CkAt w z bl bf er a pv) (e' a' : Int) :
    Calls Tryd.prog 20 #[.pointer (some ⟨z, 0, none⟩), .int .i64 e', .int .i64 a'] w fun e w' => e = .returned (.tuple #[]) ∧ But z w w' ∧ CkAt w' z bl bf (tE er e') (tA er e' a a') pv := by
  have c0 : w.cell? ⟨z, 0, none⟩ = some (.int .i64 er) := cr h.blk
  have c1 : w.cell? ⟨z, 1, none⟩ = some (.int .i64 a) := cr h.blk
  have f0 := frozen_of_row w z 0 _ _ h.blk
  have f1 := frozen_of_row w z 1 _ _ h.blk
  have H := hide h.blk
  clear h
  by_cases h0 : er = 0
  · have q0 : (er == 0) = true := bt h0
    by_cases h1 : e' = 0
    · have q1 : (e' == 0) = true := bt h1
      have HE : Hid (CkAt w z bl bf (tE er e') (tA er e' a a') pv) := hide (by rw [tE, tA, if_pos h0, if_neg (fun q => q.2 h1), h1, ← h0]; exact ⟨unhide H⟩)
      clear h0 h1
      go_enter Tryd.func20, Tryd.ntmps20
      go_wp2_with fail
      go_end0
      exact ⟨rfl, But.refl _ _, unhide HE⟩
    · have q1 : (e' == 0) = false := bn h1
      have HE : Hid (CkAt ((w.setCell ⟨z, 0, none⟩ (.int .i64 e')).setCell ⟨z, 1, none⟩ (.int .i64 a')) z bl bf (tE er e') (tA er e' a a') pv) := hide (by rw [tE, tA, if_pos h0, if_pos ⟨h0, h1⟩]; exact ⟨heap_setCell_same _ z 1 _ _ _ (heap_setCell_same w z 0 _ _ _ (unhide H))⟩)
      clear h0 h1
      go_enter Tryd.func20, Tryd.ntmps20
      go_wp2_with fail
      go_end0
      exact ⟨rfl, ((But.refl z w).setCell 0 _).setCell 1 _, unhide HE⟩
  · have q0 : (er == 0) = false := bn h0
    have HE : Hid (CkAt w z bl bf (tE er e') (tA er e' a a') pv) := hide (by rw [tE, tA, if_neg h0, if_neg (fun q => h0 q.1)]; exact ⟨unhide H⟩)
    clear h0
    go_enter Tryd.func20, Tryd.ntmps20
    go_wp2_with fail
    go_end0
    exact ⟨rfl, But.refl _ _, unhide HE⟩
end Go.Proofs.YtpphjddljngkmaaDoor
