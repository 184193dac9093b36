/- Runs of bytes, and texts in quotes, plain. Rows of entries of the call's own. A pattern's text, and how a text grows that is given up when it is too long. Rows of bytes of the call's own that are appended to: what an append makes of them, and of all else. -/
import Derived.Test.YtpphjddljngkmaaGreatDoorPatNamedM
import Derived.Test.YtpphjddljngkmaaGreatDoorPatSizeP
import Derived.Maps.AppendAt
import Derived.Test.YtpphjddljngkmaaGreatDoorPatWrongP
import Derived.Lib.ItoaNum
import Derived.Lib.OthersKept
import Derived.Lib.AppendStr
import Derived.Deep.RegionHeld3
namespace Go.Proofs.YtpphjddljngkmaaGreatDoor
open Go.RowKit

def wordN (b : Nat) : Bool := letterN b || digitN b
end Go.Proofs.YtpphjddljngkmaaGreatDoor

namespace Go.Proofs.YtpphjddljngkmaaGreatDoor
open Go.RowKit

theorem below_cell {B g : Nat} {a w : World} (h : Below B a w) (hg : B ≤ g) (k : Nat) (v : Value) : Below B a (w.setCell ⟨g, k, none⟩ v) :=
  ⟨h.os, h.tape, h.output, by simpa using h.size, fun i hi => (heap_setCell_other w ⟨g, k, none⟩ i v (by show i ≠ g; omega)).trans (h.block i hi)⟩
end Go.Proofs.YtpphjddljngkmaaGreatDoor

namespace Go.Proofs.YtpphjddljngkmaaGreatDoor

def quoteL (l : List UInt8) : List UInt8 := 39 :: (l.flatMap fun c => if c = 39 then [39, 39] else [c]) ++ [39]
def brk (parent kid : Int) : Bool := decide (kid = 19) || (decide (kid = 18) && decide (parent ≠ 19))
def joinTo (sep : List UInt8) (f : Nat → List UInt8) : Nat → List UInt8
  | 0 => []
  | i + 1 => joinTo sep f i ++ (if 0 < i then sep else []) ++ f i
/-- A kid's text within a parent. -/
def inB (b : Bool) (t : List UInt8) : List UInt8 := if b then 40 :: t ++ [41] else t
/-- A node's text, given its kids' texts and kinds. -/
def txtN (k : Int) (t : ByteArray) (n : Int) (nm : ByteArray) (len : Nat) (kt : Nat → List UInt8) (kk : Nat → Int) : List UInt8 :=
  if k = 1 then quoteL t.data.toList
  else if k = 18 then joinTo [32] (fun i => inB (brk k (kk i)) (kt i)) len
  else if k = 19 then joinTo [32, 124, 32] (fun i => inB (brk k (kk i)) (kt i)) len
  else if k = 21 then joinTo [] (fun i => inB (brk k (kk i)) (kt i)) len ++ [32, 46, 32] ++ nm.data.toList
  else if k = 22 then joinTo [] (fun i => inB (brk k (kk i)) (kt i)) len ++ [32, 36, 32] ++ nm.data.toList
  else if k = 23 then 64 :: nm.data.toList
  else if k = 24 then 42 :: nm.data.toList
  else (wordK k.toNat).data.toList ++ (if hasK k = 2 then 40 :: Lib.itoa n ++ [41] else if hasK k = 1 then 40 :: quoteL t.data.toList ++ [41] else if k = 20 then 40 :: kt 0 ++ [41] else [])
def nulT : List UInt8 := txtN 0 ByteArray.empty 0 ByteArray.empty 0 (fun _ => []) (fun _ => 0)
def PT.txt : PT → List UInt8
  | .node k t n nm _ _ _ len _ kids => txtN k t n nm len (kf len nulT fun i => PT.txt (kids i)) (kf len 0 fun i => (kids i).k)
theorem nul_txt : PT.nul.txt = nulT := by
  show txtN 0 ByteArray.empty 0 ByteArray.empty 0 _ _ = txtN 0 ByteArray.empty 0 ByteArray.empty 0 _ _
  unfold txtN
  simp only [show ¬ ((0 : Int) = 1) by decide, show ¬ ((0 : Int) = 18) by decide, show ¬ ((0 : Int) = 19) by decide, show ¬ ((0 : Int) = 20) by decide, show ¬ ((0 : Int) = 21) by decide, show ¬ ((0 : Int) = 22) by decide, show ¬ ((0 : Int) = 23) by decide, show ¬ ((0 : Int) = 24) by decide, if_false]
def PT.kidT (T : PT) (i : Nat) : List UInt8 := inB (brk T.k (T.kid i).k) (T.kid i).txt
theorem PT.txt_eq {T : PT} (_ : 1 ≤ T.k) : T.txt =
    if T.k = 1 then quoteL T.t.data.toList
    else if T.k = 18 then joinTo [32] T.kidT T.len
    else if T.k = 19 then joinTo [32, 124, 32] T.kidT T.len
    else if T.k = 21 then joinTo [] T.kidT T.len ++ [32, 46, 32] ++ T.nm.data.toList
    else if T.k = 22 then joinTo [] T.kidT T.len ++ [32, 36, 32] ++ T.nm.data.toList
    else if T.k = 23 then 64 :: T.nm.data.toList
    else if T.k = 24 then 42 :: T.nm.data.toList
    else (wordK T.k.toNat).data.toList ++ (if hasK T.k = 2 then 40 :: Lib.itoa T.n ++ [41] else if hasK T.k = 1 then 40 :: quoteL T.t.data.toList ++ [41] else if T.k = 20 then 40 :: (T.kid 0).txt ++ [41] else []) := by
  have h1 : (kf T.len nulT fun i => PT.txt (T.kids i)) = fun i => (T.kid i).txt := by
    funext i
    by_cases h : i < T.len
    · rw [kf_at h, PT.kid_at h]
    · unfold kf PT.kid
      rw [dif_neg h, dif_neg h, nul_txt]
  have h2 : (kf T.len 0 fun i => (T.kids i).k) = fun i => (T.kid i).k := by
    funext i
    by_cases h : i < T.len
    · rw [kf_at h, PT.kid_at h]
    · unfold kf PT.kid
      rw [dif_neg h, dif_neg h]
      rfl
  have e : T.txt = txtN T.k T.t T.n T.nm T.len (kf T.len nulT fun i => PT.txt (T.kids i)) (kf T.len 0 fun i => (T.kids i).k) := by cases T; rfl
  rw [e, h1, h2]
  rfl
/-- What comes of a text that is appended to, and is given up when it is too long. -/
structure Grew (l t r : List UInt8) (c : Nat) : Prop where
  same : (l ++ t).length ≤ 65536 → r = l ++ t
  long : 65536 < (l ++ t).length → 65536 < r.length
  most : r.length ≤ max l.length 196700 + c
  up : l.length ≤ r.length
theorem Grew.refl (l : List UInt8) : Grew l [] l 0 := ⟨fun _ => (List.append_nil l).symm, fun h => by simpa using h, by omega, Nat.le_refl _⟩
theorem Grew.gave (l t : List UInt8) (h : 65536 < l.length) : Grew l t l 0 := ⟨fun x => by rw [List.length_append] at x; omega, fun _ => h, by omega, Nat.le_refl _⟩
theorem Grew.put (l t : List UInt8) : Grew l t (l ++ t) t.length := ⟨fun _ => rfl, fun h => h, by rw [List.length_append]; omega, by rw [List.length_append]; omega⟩
theorem Grew.leaf (l t : List UInt8) (hl : l.length ≤ 65536) (ht : t.length ≤ 131100) : Grew l t (l ++ t) 0 := ⟨fun _ => rfl, fun h => h, by rw [List.length_append]; omega, by rw [List.length_append]; omega⟩
theorem Grew.trans {l t1 r1 t2 r2 : List UInt8} {c1 c2 : Nat} (h : Grew l t1 r1 c1) (k : Grew r1 t2 r2 c2) : Grew l (t1 ++ t2) r2 (c1 + c2) := by
  have hm := h.most
  have km := k.most
  have hu := h.up
  have ku := k.up
  refine ⟨fun x => ?_, fun x => ?_, by omega, by omega⟩
  · rw [List.length_append, List.length_append] at x
    have e := h.same (by rw [List.length_append]; omega)
    subst e
    rw [k.same (by simp only [List.length_append]; omega), List.append_assoc]
  · rcases Nat.lt_or_ge 65536 (l ++ t1).length with y | y
    · have := h.long y; omega
    · have e := h.same y
      subst e
      exact k.long (by rw [List.append_assoc]; exact x)
theorem Grew.more {l t r : List UInt8} {c d : Nat} (h : Grew l t r c) (hc : c ≤ d) : Grew l t r d := ⟨h.same, h.long, by have := h.most; omega, h.up⟩
theorem Grew.cast {l t t' r : List UInt8} {c : Nat} (h : Grew l t r c) (e : t = t') : Grew l t' r c := e ▸ h
theorem quoteL_len (l : List UInt8) : (quoteL l).length ≤ 2 * l.length + 2 := by
  have : ∀ l : List UInt8, (l.flatMap fun c => if c = 39 then [39, 39] else [c]).length ≤ 2 * l.length := by
    intro l
    induction l with
    | nil => simp
    | cons x l ih =>
      rw [List.flatMap_cons, List.length_append, List.length_cons]
      have : (if x = 39 then [39, 39] else [x] : List UInt8).length ≤ 2 := by split <;> simp
      omega
  have := this l
  unfold quoteL
  rw [List.length_append, List.length_cons, List.length_singleton]
  omega
end Go.Proofs.YtpphjddljngkmaaGreatDoor

namespace Go.Proofs.YtpphjddljngkmaaGreatDoor
open Go.RowKit

def bc (b : UInt8) : Value := .int .u8 (b.toNat : Int)
def Bytes (w : World) (B : Nat) (v : Value) (l : List UInt8) : Prop := w.ownsRow B 5 1 v l.length (l.map bc)
abbrev Kept (w w' : World) : Prop := Lib.OthersKept 5 none w w'
theorem info_u8 : (Tryz.prog.info? 5).map (fun i => (i.zero, i.size, i.bytes)) = some (some (.int .u8 0), 1, 1) := by kernel_rfl
theorem Bytes.later {w w' : World} {B : Nat} {v : Value} {l : List UInt8} (h : Bytes w B v l) (hb : Below w.heap.size w w') : Bytes w' B v l := own_below h hb
theorem kept_grown {w w' : World} {B : Nat} {v : Value} {l : List UInt8} (h : Bytes w B v l) (hg : w.grownBy w' v.ownBlock) : Kept w w' := by
  intro k o hk _ ho
  refine (hg.block k (Array.getElem?_eq_some_iff.1 hk).1 fun e => ?_).trans hk
  rcases h.2 with ⟨rfl, _⟩ | ⟨g, cap, cur, rfl, _, hgg, _⟩
  · cases e
  · have : k = g := by simpa [Value.ownBlock] using e
    subst this
    rw [hk] at hgg
    exact ho _ _ (Option.some.inj hgg)
theorem below_grown {w w' : World} {B : Nat} {v : Value} {l : List UInt8} (h : Bytes w B v l) (hg : w.grownBy w' v.ownBlock) (hB : B ≤ w.heap.size) : Below B w w' :=
  (Below.refl B w).grown hg hB (fun i hi => (World.ownsRow.lt h i hi).1)
theorem run_str {w : World} {B : Nat} {v : Value} {l : List UInt8} (h : Bytes w B v l) (hB : B ≤ w.heap.size) (s : ByteArray) (hl : l.length + s.size ≤ 100000000) (ty : TypeId) :
    ∃ v' w', (Builtin.append_ #[50, 9] ty #[v, .string s]).run Tryz.prog w = .ok v' w' ∧ Bytes w' B v' (l ++ s.data.toList) ∧ Below B w w' ∧ Kept w w' := by
  have hinf := info_u8
  cases hi : Tryz.prog.info? 5 with
  | none => simp [hi] at hinf
  | some i0 =>
    simp only [hi, Option.map_some, Option.some.injEq, Prod.mk.injEq] at hinf
    obtain ⟨hz0, hz1, hz2⟩ := hinf
    obtain ⟨v', w', hr, h2, h3, -⟩ := Lib.run_append_own_string (P := Tryz.prog) w B 50 9 ty 5 i0 Tryz.underlying50 Tryz.underlying9 hi hz0 hz1 hz2 v l.length (l.map bc) h s (by unfold maxLen; omega) (by omega) hB
    refine ⟨v', w', hr, ?_, below_grown h h3 hB, kept_grown h h3⟩
    unfold Bytes
    rw [List.length_append, List.map_append]
    have e1 : s.data.toList.length = s.size := by simp
    rw [e1]
    exact h2
theorem run_byte {w : World} {B : Nat} {v : Value} {l : List UInt8} (h : Bytes w B v l) (hB : B ≤ w.heap.size) (b : UInt8) (ad : Addr) (c : Nat) (hc : w.cell? (ad.add 0) = some (bc b)) (hl : l.length + 1 ≤ 100000000) (ty : TypeId) :
    ∃ v' w', (Builtin.append_ #[50, 50] ty #[v, .slice (some ad) 1 c]).run Tryz.prog w = .ok v' w' ∧ Bytes w' B v' (l ++ [b]) ∧ Below B w w' ∧ Kept w w' := by
  have hinf := info_u8
  cases hi : Tryz.prog.info? 5 with
  | none => simp [hi] at hinf
  | some i0 =>
    simp only [hi, Option.map_some, Option.some.injEq, Prod.mk.injEq] at hinf
    obtain ⟨hz0, hz1, hz2⟩ := hinf
    obtain ⟨v', w', hr, h2, h3, -, -⟩ := run_append_own_at (P := Tryz.prog) w B 50 ty 5 i0 (.int .u8 0) 1 1 Tryz.underlying50 hi hz0 hz1 hz2 rfl (by decide) v l.length (l.map bc) h ad 1 c [bc b] rfl (fun j u hj => by
      have hj0 : j = 0 := by have := (List.getElem?_eq_some_iff.1 hj).1; simpa using this
      subst hj0
      have : u = bc b := by simpa using hj.symm
      rw [this]; exact hc) (by intro u hu; rw [List.mem_singleton] at hu; subst hu; rfl) (by unfold maxLen; omega) (by omega) hB
    refine ⟨v', w', hr, ?_, below_grown h h3 hB, kept_grown h h3⟩
    unfold Bytes
    rw [List.length_append, List.map_append]
    exact h2
theorem wpl_str {w : World} {ops : Array Oper} {rest : List Oper} {o : Oper} {a : Act} {Q : Exit → Act → World → Prop} (hgd : o.guard = none) (sl x : Operand)
    (ho : o.op = .call { callee := .builtin .append, args := #[sl, x], argTypes := #[50, 9] })
    (B : Nat) (v : Value) (l : List UInt8) (s : ByteArray) (hs : a.eval sl = v) (hx : a.eval x = .string s) (h : Bytes w B v l) (hB : B ≤ w.heap.size) (hl : l.length + s.size ≤ 100000000)
    (hK : ∀ v' w', Bytes w' B v' (l ++ s.data.toList) → Below B w w' → Kept w w' → wpList Tryz.prog ops Q rest (a.put o.dst v') w') : wpList Tryz.prog ops Q (o :: rest) a w := by
  refine wpList_plain hgd fun K hK' => ?_
  obtain ⟨v', w', hr, h1, h2, h3⟩ := run_str h hB s hl o.type
  unfold Oper.wp execOp
  simp only [ho, resolve, invoke, builtin, Sem.run_bind, Sem.run_pure, Result.andThen_ok, List.map_toArray, List.map_cons, List.map_nil, hs, hx, hr]
  exact hK' _ _ (hK v' w' h1 h2 h3)
end Go.Proofs.YtpphjddljngkmaaGreatDoor
