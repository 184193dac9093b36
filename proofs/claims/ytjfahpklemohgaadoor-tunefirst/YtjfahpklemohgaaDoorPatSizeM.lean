/- Patterns as trees: how many nodes, how deep, all nodes ahead of their kids, what is wrong first, names. Small facts; letters, digits and names. What pats.Named and the document's Named answer, for every text of at most a million bytes. What pats.Size does, for every pattern. -/
import Derived.WalkKit
import Derived.Below
import Derived.WalkSpells
import Derived.Test.YtjfahpklemohgaaDoorRows
import Derived.WalkLawsBesides
import Derived.WalkSmall
import Derived.Deep.WholeRow
import Derived.Deep.QuietTactic
import Derived.BigQuiet
import Derived.Laws.IdiomStrings
namespace Go.Proofs.YtjfahpklemohgaaDoor
open Go.RowKit

/-- A pattern as it lies in memory: its kind, text, number and name; where its kids lie, how many, and what they are. -/
structure PT where
  node ::
  k : Int
  t : ByteArray
  n : Int
  nm : ByteArray
  xa : Option Addr
  b : Nat
  o : Nat
  len : Nat
  cap : Nat
  kids : Fin len → PT
def PT.nul : PT := ⟨0, ByteArray.empty, 0, ByteArray.empty, none, 0, 0, 0, 0, fun i => i.elim0⟩
def PT.kid (T : PT) (i : Nat) : PT := if h : i < T.len then T.kids ⟨i, h⟩ else PT.nul
theorem PT.kid_at {T : PT} {i : Nat} (h : i < T.len) : T.kid i = T.kids ⟨i, h⟩ := dif_pos h
theorem PT.ind {P : PT → Prop} (h : ∀ T : PT, (∀ i, i < T.len → P (T.kid i)) → P T) : ∀ T, P T
  | .node k t n nm xa b o len cap kids => h _ fun i hi => by
    rw [PT.kid_at (T := .node k t n nm xa b o len cap kids) hi]
    exact PT.ind h (kids ⟨i, hi⟩)

/-- Its five cells. -/
def PT.kv (T : PT) : Value := .slice T.xa T.len T.cap
def PT.row (T : PT) : Array Value := #[.int .i64 T.k, .string T.t, .int .i64 T.n, .string T.nm, T.kv]
def PT.val (T : PT) : Value := .agg T.row

/-- A kid by its place; beyond the last one nothing. -/
def kf {α : Type} (n : Nat) (d : α) (f : Fin n → α) (i : Nat) : α := if h : i < n then f ⟨i, h⟩ else d
theorem kf_at {α : Type} {n : Nat} {d : α} {f : Fin n → α} {i : Nat} (h : i < n) : kf n d f i = f ⟨i, h⟩ := dif_pos h

/-- It lies in a world. -/
def PT.In (w : World) : PT → Prop
  | .node k t n nm xa b o len cap kids => (-9223372036854775808 ≤ k ∧ k ≤ 9223372036854775807) ∧ t.size ≤ maxLen ∧ (-9223372036854775808 ≤ n ∧ n ≤ 9223372036854775807) ∧ nm.size ≤ maxLen ∧
      len ≤ maxLen ∧ len ≤ cap ∧ (0 < len → xa = some ⟨b, o, none⟩) ∧
      ∀ i : Fin len, (w.cell? ⟨b, o + i.val * 5, none⟩ = some (.int .i64 (kids i).k) ∧ w.cell? ⟨b, o + i.val * 5 + 1, none⟩ = some (.string (kids i).t) ∧ w.cell? ⟨b, o + i.val * 5 + 2, none⟩ = some (.int .i64 (kids i).n) ∧ w.cell? ⟨b, o + i.val * 5 + 3, none⟩ = some (.string (kids i).nm) ∧ w.cell? ⟨b, o + i.val * 5 + 4, none⟩ = some (kids i).kv) ∧ PT.In w (kids i)
theorem PT.In.kids {w : World} {T : PT} (h : T.In w) {i : Nat} (hi : i < T.len) : (T.kid i).In w := by
  rw [PT.kid_at hi]
  cases T; exact (h.2.2.2.2.2.2.2 ⟨i, hi⟩).2
theorem PT.In.cells {w : World} {T : PT} (h : T.In w) {i : Nat} (hi : i < T.len) :
    w.cell? ⟨T.b, T.o + i * 5, none⟩ = some (.int .i64 (T.kid i).k) ∧ w.cell? ⟨T.b, T.o + i * 5 + 1, none⟩ = some (.string (T.kid i).t) ∧ w.cell? ⟨T.b, T.o + i * 5 + 2, none⟩ = some (.int .i64 (T.kid i).n) ∧ w.cell? ⟨T.b, T.o + i * 5 + 3, none⟩ = some (.string (T.kid i).nm) ∧ w.cell? ⟨T.b, T.o + i * 5 + 4, none⟩ = some (T.kid i).kv := by
  rw [PT.kid_at hi]
  cases T; exact (h.2.2.2.2.2.2.2 ⟨i, hi⟩).1
theorem PT.In.addr {w : World} {T : PT} (h : T.In w) (hi : 0 < T.len) : T.xa = some ⟨T.b, T.o, none⟩ := by
  cases T; exact h.2.2.2.2.2.2.1 hi
theorem PT.In.le {w : World} {T : PT} (h : T.In w) : T.len ≤ T.cap := by cases T; exact h.2.2.2.2.2.1
theorem PT.In.max {w : World} {T : PT} (h : T.In w) : T.len ≤ maxLen := by cases T; exact h.2.2.2.2.1
theorem PT.In.text {w : World} {T : PT} (h : T.In w) : T.t.size ≤ maxLen := by cases T; exact h.2.1
theorem PT.In.name {w : World} {T : PT} (h : T.In w) : T.nm.size ≤ maxLen := by cases T; exact h.2.2.2.1
theorem PT.In.kind {w : World} {T : PT} (h : T.In w) : -9223372036854775808 ≤ T.k ∧ T.k ≤ 9223372036854775807 := by cases T; exact h.1
theorem PT.In.num {w : World} {T : PT} (h : T.In w) : -9223372036854775808 ≤ T.n ∧ T.n ≤ 9223372036854775807 := by cases T; exact h.2.2.1
theorem PT.In.later {w w' : World} (hb : Below w.heap.size w w') : ∀ {T : PT}, T.In w → T.In w'
  | .node k t n nm xa b o len cap kids, h => by
    have ih := fun i => PT.In.later hb (T := kids i)
    refine ⟨h.1, h.2.1, h.2.2.1, h.2.2.2.1, h.2.2.2.2.1, h.2.2.2.2.2.1, h.2.2.2.2.2.2.1, fun i => ?_⟩
    obtain ⟨⟨c0, c1, c2, c3, c4⟩, hk⟩ := h.2.2.2.2.2.2.2 i
    exact ⟨⟨cell_later hb c0, cell_later hb c1, cell_later hb c2, cell_later hb c3, cell_later hb c4⟩, ih i hk⟩

/-- Sums, greatest ones, first ones. -/
def sumTo (f : Nat → Nat) : Nat → Nat
  | 0 => 0
  | n + 1 => sumTo f n + f n
def maxTo (f : Nat → Nat) : Nat → Nat
  | 0 => 0
  | n + 1 => max (maxTo f n) (f n)
def firstTo (f : Nat → Int) : Nat → Int
  | 0 => 0
  | n + 1 => if firstTo f n = 0 then f n else firstTo f n
def flatTo {α : Type} (f : Nat → List α) : Nat → List α
  | 0 => []
  | n + 1 => flatTo f n ++ f n

theorem sumTo_congr {f g : Nat → Nat} : ∀ n, (∀ i, i < n → f i = g i) → sumTo f n = sumTo g n
  | 0, _ => rfl
  | n + 1, h => by rw [sumTo, sumTo, sumTo_congr n fun i hi => h i (by omega), h n (by omega)]
theorem maxTo_congr {f g : Nat → Nat} : ∀ n, (∀ i, i < n → f i = g i) → maxTo f n = maxTo g n
  | 0, _ => rfl
  | n + 1, h => by rw [maxTo, maxTo, maxTo_congr n fun i hi => h i (by omega), h n (by omega)]
theorem firstTo_congr {f g : Nat → Int} : ∀ n, (∀ i, i < n → f i = g i) → firstTo f n = firstTo g n
  | 0, _ => rfl
  | n + 1, h => by rw [firstTo, firstTo, firstTo_congr n fun i hi => h i (by omega), h n (by omega)]
theorem flatTo_congr {α : Type} {f g : Nat → List α} : ∀ n, (∀ i, i < n → f i = g i) → flatTo f n = flatTo g n
  | 0, _ => rfl
  | n + 1, h => by rw [flatTo, flatTo, flatTo_congr n fun i hi => h i (by omega), h n (by omega)]

def PT.cnt : PT → Nat
  | .node _ _ _ _ _ _ _ len _ kids => 1 + sumTo (kf len 1 fun i => PT.cnt (kids i)) len
def PT.dep : PT → Nat
  | .node _ _ _ _ _ _ _ len _ kids => 1 + maxTo (kf len 1 fun i => PT.dep (kids i)) len
def PT.all : PT → List PT
  | .node k t n nm xa b o len cap kids => .node k t n nm xa b o len cap kids :: flatTo (kf len [] fun i => PT.all (kids i)) len

theorem PT.cnt_eq (T : PT) : T.cnt = 1 + sumTo (fun i => (T.kid i).cnt) T.len := by
  obtain ⟨k, t, n, nm, xa, b, o, len, cap, kids⟩ := T
  exact congrArg (1 + ·) (sumTo_congr len fun i hi => by rw [kf_at hi, PT.kid_at (T := .node k t n nm xa b o len cap kids) hi])
theorem PT.dep_eq (T : PT) : T.dep = 1 + maxTo (fun i => (T.kid i).dep) T.len := by
  obtain ⟨k, t, n, nm, xa, b, o, len, cap, kids⟩ := T
  exact congrArg (1 + ·) (maxTo_congr len fun i hi => by rw [kf_at hi, PT.kid_at (T := .node k t n nm xa b o len cap kids) hi])
theorem PT.all_eq (T : PT) : T.all = T :: flatTo (fun i => (T.kid i).all) T.len := by
  obtain ⟨k, t, n, nm, xa, b, o, len, cap, kids⟩ := T
  exact congrArg (_ :: ·) (flatTo_congr len fun i hi => by rw [kf_at hi, PT.kid_at (T := .node k t n nm xa b o len cap kids) hi])
theorem PT.cnt_pos (T : PT) : 0 < T.cnt := by rw [T.cnt_eq]; omega
theorem PT.dep_pos (T : PT) : 0 < T.dep := by rw [T.dep_eq]; omega

theorem sumTo_le (f : Nat → Nat) {i n : Nat} (h : i ≤ n) : sumTo f i ≤ sumTo f n := by
  induction n with
  | zero => rw [Nat.le_zero.1 h]; exact Nat.le_refl _
  | succ n ih =>
    rcases Nat.lt_or_ge i (n + 1) with h1 | h1
    · have := ih (by omega)
      simp only [sumTo]; omega
    · rw [show i = n + 1 by omega]; exact Nat.le_refl _
theorem maxTo_le (f : Nat → Nat) {i n : Nat} (h : i ≤ n) : maxTo f i ≤ maxTo f n := by
  induction n with
  | zero => rw [Nat.le_zero.1 h]; exact Nat.le_refl _
  | succ n ih =>
    rcases Nat.lt_or_ge i (n + 1) with h1 | h1
    · have := ih (by omega)
      simp only [maxTo]; omega
    · rw [show i = n + 1 by omega]; exact Nat.le_refl _
theorem le_sumTo (f : Nat → Nat) (hf : ∀ i, 0 < f i) (n : Nat) : n ≤ sumTo f n := by
  induction n with
  | zero => exact Nat.zero_le _
  | succ n ih => have := hf n; simp only [sumTo]; omega
theorem PT.len_lt (T : PT) : T.len < T.cnt := by
  have := le_sumTo (fun i => (T.kid i).cnt) (fun i => (T.kid i).cnt_pos) T.len
  rw [T.cnt_eq]; omega

theorem PT.all_length : ∀ T : PT, T.all.length = T.cnt := PT.ind fun T ih => by
  have : ∀ m, m ≤ T.len → (flatTo (fun i => (T.kid i).all) m).length = sumTo (fun i => (T.kid i).cnt) m := by
    intro m
    induction m with
    | zero => intro _; rfl
    | succ m hm => intro h; simp only [flatTo, sumTo, List.length_append, hm (by omega), ih m (by omega)]
  rw [T.all_eq, T.cnt_eq, List.length_cons, this T.len (Nat.le_refl _)]
  omega

/-- A property of all nodes. -/
theorem flatTo_mem {α : Type} {f : Nat → List α} {n : Nat} {x : α} : x ∈ flatTo f n ↔ ∃ i, i < n ∧ x ∈ f i := by
  induction n with
  | zero => simp [flatTo]
  | succ n ih =>
    rw [flatTo, List.mem_append, ih]
    constructor
    · rintro (⟨i, hi, hx⟩ | hx)
      · exact ⟨i, by omega, hx⟩
      · exact ⟨n, by omega, hx⟩
    · rintro ⟨i, hi, hx⟩
      rcases Nat.lt_or_ge i n with h | h
      · exact .inl ⟨i, h, hx⟩
      · exact .inr ((show i = n by omega) ▸ hx)
theorem PT.In.every {w : World} : ∀ {T : PT}, T.In w → ∀ x ∈ T.all, x.In w := fun {T} => PT.ind (P := fun T => T.In w → ∀ x ∈ T.all, x.In w) (fun T ih h x hx => by
  rw [T.all_eq] at hx
  rcases List.mem_cons.1 hx with rfl | hx
  · exact h
  · obtain ⟨i, hi, hx⟩ := flatTo_mem.1 hx
    exact ih i hi (h.kids hi) x hx) T

/-- A name. -/
def letterB (c : UInt8) : Bool := decide (65 ≤ c.toNat) && decide (c.toNat ≤ 90)
def digitB (c : UInt8) : Bool := decide (48 ≤ c.toNat) && decide (c.toNat ≤ 57)
def namedL : List UInt8 → Bool
  | [] => false
  | c :: r => letterB c && r.all fun x => letterB x || digitB x
def named (s : ByteArray) : Bool := decide (s.size ≤ 16) && namedL s.data.toList

/-- What kinds have: nothing, a text, a number, a name; how many kids. -/
def hasK (k : Int) : Int := if k = 1 ∨ (3 ≤ k ∧ k ≤ 7) then 1 else if k = 2 ∨ (8 ≤ k ∧ k ≤ 11) then 2 else if 21 ≤ k ∧ k ≤ 24 then 3 else 0
def leastK (k : Int) : Int := if k = 18 ∨ k = 19 then 2 else if 20 ≤ k ∧ k ≤ 22 then 1 else 0
def mostK (k : Int) : Int := if k = 18 ∨ k = 19 then 4096 else if 20 ≤ k ∧ k ≤ 22 then 1 else 0

/-- What is wrong with a node. -/
def errN (T : PT) : Int :=
  if T.k < 1 ∨ 24 < T.k then 1
  else if hasK T.k = 1 ∧ 65536 < T.t.size then 4
  else if hasK T.k = 1 ∧ T.k ≠ 1 ∧ T.t.size = 0 then 8
  else if hasK T.k = 2 ∧ (T.n < 0 ∨ 65536 < T.n) then 3
  else if hasK T.k = 3 ∧ named T.nm = false then 7
  else if (T.len : Int) < leastK T.k ∨ mostK T.k < T.len then 5
  else 0

/-- What is wrong first. -/
def PT.bad : PT → Int
  | .node k t n nm xa b o len cap kids => if errN (.node k t n nm xa b o len cap kids) = 0 then firstTo (kf len 0 fun i => PT.bad (kids i)) len else errN (.node k t n nm xa b o len cap kids)
theorem PT.bad_eq (T : PT) : T.bad = if errN T = 0 then firstTo (fun i => (T.kid i).bad) T.len else errN T := by
  obtain ⟨k, t, n, nm, xa, b, o, len, cap, kids⟩ := T
  have h := firstTo_congr (f := kf len 0 fun i => PT.bad (kids i)) (g := fun i => ((PT.node k t n nm xa b o len cap kids).kid i).bad) len fun i hi => by rw [kf_at hi, PT.kid_at (T := .node k t n nm xa b o len cap kids) hi]
  show (if errN _ = 0 then firstTo (kf len 0 fun i => PT.bad (kids i)) len else errN _) = _
  rw [h]
def firstL (l : List PT) : Int := match l with
  | [] => 0
  | x :: r => if errN x = 0 then firstL r else errN x
theorem firstL_append (a b : List PT) : firstL (a ++ b) = if firstL a = 0 then firstL b else firstL a := by
  induction a with
  | nil => rfl
  | cons x a ih =>
    show (if errN x = 0 then firstL (a ++ b) else errN x) = if (if errN x = 0 then firstL a else errN x) = 0 then firstL b else (if errN x = 0 then firstL a else errN x)
    by_cases h : errN x = 0
    · rw [if_pos h, if_pos h, ih]
    · rw [if_neg h, if_neg h, if_neg h]
theorem PT.bad_all : ∀ T : PT, firstL T.all = T.bad := PT.ind fun T ih => by
  have : ∀ m, m ≤ T.len → firstL (flatTo (fun i => (T.kid i).all) m) = firstTo (fun i => (T.kid i).bad) m := by
    intro m
    induction m with
    | zero => intro _; rfl
    | succ m hm => intro h; simp only [flatTo, firstTo, firstL_append, hm (by omega), ih m (by omega)]
  rw [T.bad_eq, T.all_eq]
  show (if errN T = 0 then firstL (flatTo (fun i => (T.kid i).all) T.len) else errN T) = _
  rw [this T.len (Nat.le_refl _)]

/-- It is not too large; what is wrong with it. -/
def PT.fits (T : PT) : Bool := decide (T.cnt ≤ 4096) && decide (T.dep ≤ 200)
def PT.wrong (T : PT) : Int := if T.fits then T.bad else 4

/-- The names that it gives something to, and those that it calls. -/
def givN (T : PT) : List ByteArray := if 21 ≤ T.k ∧ T.k ≤ 23 then [T.nm] else []
def calN (T : PT) : List ByteArray := if T.k = 24 then [T.nm] else []
def PT.giv : PT → List ByteArray
  | .node k t n nm xa b o len cap kids => givN (.node k t n nm xa b o len cap kids) ++ flatTo (kf len [] fun i => PT.giv (kids i)) len
def PT.cal : PT → List ByteArray
  | .node k t n nm xa b o len cap kids => calN (.node k t n nm xa b o len cap kids) ++ flatTo (kf len [] fun i => PT.cal (kids i)) len
theorem PT.giv_eq (T : PT) : T.giv = givN T ++ flatTo (fun i => (T.kid i).giv) T.len := by
  obtain ⟨k, t, n, nm, xa, b, o, len, cap, kids⟩ := T
  exact congrArg (_ ++ ·) (flatTo_congr len fun i hi => by rw [kf_at hi, PT.kid_at (T := .node k t n nm xa b o len cap kids) hi])
theorem PT.cal_eq (T : PT) : T.cal = calN T ++ flatTo (fun i => (T.kid i).cal) T.len := by
  obtain ⟨k, t, n, nm, xa, b, o, len, cap, kids⟩ := T
  exact congrArg (_ ++ ·) (flatTo_congr len fun i hi => by rw [kf_at hi, PT.kid_at (T := .node k t n nm xa b o len cap kids) hi])
theorem PT.giv_all : ∀ T : PT, T.giv = T.all.flatMap givN := PT.ind fun T ih => by
  have : ∀ m, m ≤ T.len → flatTo (fun i => (T.kid i).giv) m = (flatTo (fun i => (T.kid i).all) m).flatMap givN := by
    intro m
    induction m with
    | zero => intro _; rfl
    | succ m hm => intro h; rw [flatTo, flatTo, List.flatMap_append, hm (by omega), ih m (by omega)]
  rw [T.giv_eq, T.all_eq, List.flatMap_cons, this T.len (Nat.le_refl _)]
theorem PT.cal_all : ∀ T : PT, T.cal = T.all.flatMap calN := PT.ind fun T ih => by
  have : ∀ m, m ≤ T.len → flatTo (fun i => (T.kid i).cal) m = (flatTo (fun i => (T.kid i).all) m).flatMap calN := by
    intro m
    induction m with
    | zero => intro _; rfl
    | succ m hm => intro h; rw [flatTo, flatTo, List.flatMap_append, hm (by omega), ih m (by omega)]
  rw [T.cal_eq, T.all_eq, List.flatMap_cons, this T.len (Nat.le_refl _)]

end Go.Proofs.YtjfahpklemohgaaDoor

namespace Go.Proofs.YtjfahpklemohgaaDoor
open Go.RowKit

theorem hide {p : Prop} (h : p) : Hid p := h
theorem unhide {p : Prop} (h : Hid p) : p := h
theorem bnext {w a b : World} (h : Below w.heap.size w a) (k : Below a.heap.size a b) : Below w.heap.size w b := h.trans (k.mono h.size)
theorem at_new {w : World} {o : Obj} {n : Nat} (h : n = w.heap.size) : (w.alloc o).heap[n]? = some o := by subst h; exact heap_alloc_new w o
theorem at_old {w : World} {o x : Obj} {n : Nat} (h : n < w.heap.size) (k : w.heap[n]? = some x) : (w.alloc o).heap[n]? = some x := (Below.heap_alloc _ _ _ h).trans k
theorem ret_bool {a b : Bool} (h : a = b) : Ending.returned (.bool a) = .returned (.bool b) := by rw [h]
theorem ret_int {a b : Int} (h : a = b) : Ending.returned (.int .i64 a) = .returned (.int .i64 b) := by rw [h]
theorem below_setRow {B : Nat} {a w : World} (h : Below B a w) (g : Nat) (hg : B ≤ g) (cs : Array Value) : Below B a (w.setRow g cs) :=
  ⟨h.os, h.tape, h.output, by simpa using h.size, fun k hk => (setRow_other w g k cs (by omega)).trans (h.block k hk)⟩
theorem own_below {W W' : World} {B e size n : Nat} {v : Value} {xs : List Value} (h : W.ownsRow B e size v n xs) (hb : Below W.heap.size W W') : W'.ownsRow B e size v n xs :=
  h.kept (row := none) ⟨hb.os, hb.tape, hb.output, hb.size, fun k hk _ => hb.block k hk⟩ (Classical.em _)
theorem row_below {W W' : World} {n : Nat} {x : Obj} (h : W.heap[n]? = some x) (hb : Below W.heap.size W W') : W'.heap[n]? = some x :=
  (hb.block n (Array.getElem?_eq_some_iff.1 h).1).trans h

def letterN (b : Nat) : Bool := decide (65 ≤ b ∧ b ≤ 90)
def digitN (b : Nat) : Bool := decide (48 ≤ b ∧ b ≤ 57)
theorem letterB_eq (c : UInt8) : letterB c = letterN c.toNat := by unfold letterB letterN; simp
theorem digitB_eq (c : UInt8) : digitB c = digitN c.toNat := by unfold digitB digitN; simp

set_option maxHeartbeats 400000 in
theorem isLetter_any (b : Nat) (hb : b < 256) (w : World) :
    Calls Tryd.prog 68 #[.int .u8 (b : Int)] w fun e w' => e = .returned (.bool (letterN b)) ∧ w' = w := by
  have hc : (65 ≤ b ∧ b ≤ 90) ∨ b < 65 ∨ (65 ≤ b ∧ 90 < b) := by omega
  rcases hc with ⟨h1, h2⟩ | h | ⟨h1, h2⟩
  · rw [show letterN b = true from decide_eq_true (by omega)]
    go_enter Tryd.func68, Tryd.ntmps68
    go_wp2
    go_ret
    exact ⟨ret_bool (by simp; omega), rfl⟩
  · rw [show letterN b = false from decide_eq_false (by omega)]
    go_enter Tryd.func68, Tryd.ntmps68
    go_wp2
    go_ret
    exact ⟨rfl, rfl⟩
  · rw [show letterN b = false from decide_eq_false (by omega)]
    go_enter Tryd.func68, Tryd.ntmps68
    go_wp2
    go_ret
    exact ⟨ret_bool (by simp; omega), rfl⟩

set_option maxHeartbeats 400000 in
theorem isDigit_any (b : Nat) (hb : b < 256) (w : World) :
    Calls Tryd.prog 69 #[.int .u8 (b : Int)] w fun e w' => e = .returned (.bool (digitN b)) ∧ w' = w := by
  have hc : (48 ≤ b ∧ b ≤ 57) ∨ b < 48 ∨ (48 ≤ b ∧ 57 < b) := by omega
  rcases hc with ⟨h1, h2⟩ | h | ⟨h1, h2⟩
  · rw [show digitN b = true from decide_eq_true (by omega)]
    go_enter Tryd.func69, Tryd.ntmps69
    go_wp2
    go_ret
    exact ⟨ret_bool (by simp; omega), rfl⟩
  · rw [show digitN b = false from decide_eq_false (by omega)]
    go_enter Tryd.func69, Tryd.ntmps69
    go_wp2
    go_ret
    exact ⟨rfl, rfl⟩
  · rw [show digitN b = false from decide_eq_false (by omega)]
    go_enter Tryd.func69, Tryd.ntmps69
    go_wp2
    go_ret
    exact ⟨ret_bool (by simp; omega), rfl⟩

/-- Which byte stands at a place. -/
def bat (s : ByteArray) (i : Nat) : Nat := (s.data.toList.getD i 0).toNat
theorem bat_at (s : ByteArray) (i : Nat) (h : i < s.size) : (s[i]'h).toNat = bat s i := by
  unfold bat
  have : i < s.data.toList.length := by simpa using h
  rw [List.getD, List.getElem?_eq_getElem this]; rfl
theorem bat_lt (s : ByteArray) (i : Nat) : bat s i < 256 := UInt8.toNat_lt _
/-- A name, by places. -/
def wordUp (s : ByteArray) : Nat → Bool
  | 0 => true
  | i + 1 => wordUp s i && (letterN (bat s i) || digitN (bat s i))
theorem wordUp_all (l : List UInt8) : ∀ i, i ≤ l.length → wordUp ⟨l.toArray⟩ i = (l.take i).all fun x => letterB x || digitB x
  | 0, _ => rfl
  | i + 1, h => by
    have hi : i < l.length := by omega
    rw [wordUp, wordUp_all l i (by omega), List.take_succ_eq_append_getElem hi, List.all_append]
    simp [letterB_eq, digitB_eq, bat, List.getD, hi]
theorem named_eq (s : ByteArray) : named s = (decide (1 ≤ s.size) && decide (s.size ≤ 16) && letterN (bat s 0) && wordUp s s.size) := by
  obtain ⟨⟨l⟩⟩ := s
  have hs : (⟨⟨l⟩⟩ : ByteArray).size = l.length := rfl
  have := wordUp_all l l.length (Nat.le_refl _)
  rw [hs]
  unfold named
  rw [hs, this, List.take_length]
  cases l with
  | nil => simp [namedL]
  | cons c r =>
    simp [namedL, letterB_eq, digitB_eq, Bool.and_assoc, bat]
    cases letterN c.toNat <;> simp

end Go.Proofs.YtjfahpklemohgaaDoor

namespace Go.Proofs.YtjfahpklemohgaaDoor
open Go.RowKit

theorem isEmpty_true (t : ByteArray) (h : t.size = 0) : t.toList.isEmpty = true := by
  rw [ByteArray.toList_eq, List.isEmpty_iff]; apply List.eq_nil_of_length_eq_zero; simpa using h
theorem isEmpty_false (t : ByteArray) (h : t.size ≠ 0) : t.toList.isEmpty = false := by
  rw [ByteArray.toList_eq]
  apply Bool.eq_false_iff.2
  intro e
  rw [List.isEmpty_iff] at e
  apply h
  have := congrArg List.length e
  simpa using this
theorem wordUp_step (s : ByteArray) (i : Nat) : wordUp s (i + 1) = (wordUp s i && (letterN (bat s i) || digitN (bat s i))) := rfl
theorem wordUp_stays (s : ByteArray) {i n : Nat} (h : i ≤ n) (hf : wordUp s i = false) : wordUp s n = false := by
  induction n with
  | zero => rw [← hf]; congr 1; omega
  | succ n ih =>
    rcases Nat.lt_or_ge i (n + 1) with h1 | h1
    · rw [wordUp_step, ih (by omega)]; rfl
    · rw [← hf]; congr 1; omega

set_option maxHeartbeats 400000 in
theorem named_any (s : ByteArray) (w : World) (hs : s.size ≤ maxLen) :
    Calls Tryd.prog 45 #[.string s] w fun e w' => e = .returned (.bool (named s)) ∧ w' = w := by
  unfold maxLen at hs
  have HN := hide (named_eq s)
  by_cases h0 : s.size = 0
  · have he := isEmpty_true s h0
    have HF := hide (show named s = false by rw [unhide HN]; simp [h0])
    rw [unhide HF]
    go_enter Tryd.func45, Tryd.ntmps45
    go_wp2_with fail
    go_ret
    exact ⟨rfl, rfl⟩
  · have he := isEmpty_false s h0
    have hp : 0 < s.size := by omega
    by_cases h1 : 16 < s.size
    · have HF := hide (show named s = false by rw [unhide HN]; simp; omega)
      rw [unhide HF]
      go_enter Tryd.func45, Tryd.ntmps45
      go_wp2_with fail
      go_ret
      exact ⟨rfl, rfl⟩
    · have h2 : s.size ≤ 16 := by omega
      have b0 := bat_at s 0 hp
      cases hl : letterN (bat s 0)
      · have HF := hide (show named s = false by rw [unhide HN, hl]; simp)
        rw [unhide HF]
        have H0 := hide b0
        have HL := hide hl
        clear b0 hl
        go_enter Tryd.func45, Tryd.ntmps45
        go_wp2_with (go_at_call 68; rw [unhide H0]; refine (isLetter_any _ (bat_lt _ _) _).mono ?_; rintro e w ⟨rfl, rfl⟩; rw [unhide HL])
        go_ret
        exact ⟨rfl, rfl⟩
      · have HF := hide (show named s = wordUp s s.size by rw [unhide HN, hl, decide_eq_true (show 1 ≤ s.size by omega), decide_eq_true h2]; rfl)
        rw [unhide HF]
        have H0 := hide b0
        have HL := hide hl
        clear b0 hl
        go_enter Tryd.func45, Tryd.ntmps45
        go_wp2_with (go_at_call 68; rw [unhide H0]; refine (isLetter_any _ (bat_lt _ _) _).mono ?_; rintro e w ⟨rfl, rfl⟩; rw [unhide HL])
        go_loop [19] (fun i => ∃ k : Nat, k ≤ s.size ∧ i = .int .i64 (k : Int) ∧ wordUp s k = true) (fun i => s.size - (intOf i).toNat)
        case atStart => exact ⟨0, by omega, rfl, rfl⟩
        case round =>
          obtain ⟨k, hk, rfl, hu⟩ := hrel
          have HU := hide hu
          clear hu
          rcases Nat.lt_or_ge k s.size with hkt | hkt
          · have bk := bat_at s k hkt
            have Hk := hide bk
            clear bk
            have HS := hide (wordUp_step s k)
            cases hl : letterN (bat s k)
            · cases hd : digitN (bat s k)
              · have HW := hide (show wordUp s s.size = false from wordUp_stays s (show k + 1 ≤ s.size by omega) (by rw [unhide HS, hl, hd]; simp))
                have HL := hide hl
                have HD := hide hd
                clear hl hd
                go_wp2_with (first | (go_at_call 68; rw [unhide Hk]; refine (isLetter_any _ (bat_lt _ _) _).mono ?_; rintro e w ⟨rfl, rfl⟩; rw [unhide HL]) | (go_at_call 69; rw [unhide Hk]; refine (isDigit_any _ (bat_lt _ _) _).mono ?_; rintro e w ⟨rfl, rfl⟩; rw [unhide HD]))
                go_ret
                exact ⟨by rw [unhide HW]; rfl, rfl⟩
              · have HW := hide (show wordUp s (k + 1) = true by rw [unhide HS, unhide HU, hl, hd]; rfl)
                have HL := hide hl
                have HD := hide hd
                clear hl hd
                go_wp2_with (first | (go_at_call 68; rw [unhide Hk]; refine (isLetter_any _ (bat_lt _ _) _).mono ?_; rintro e w ⟨rfl, rfl⟩; rw [unhide HL]) | (go_at_call 69; rw [unhide Hk]; refine (isDigit_any _ (bat_lt _ _) _).mono ?_; rintro e w ⟨rfl, rfl⟩; rw [unhide HD]))
                exact ⟨⟨k + 1, by omega, rfl, unhide HW⟩, by simp [intOf]; omega⟩
            · have HW := hide (show wordUp s (k + 1) = true by rw [unhide HS, unhide HU, hl]; rfl)
              have HL := hide hl
              clear hl
              go_wp2_with (first | (go_at_call 68; rw [unhide Hk]; refine (isLetter_any _ (bat_lt _ _) _).mono ?_; rintro e w ⟨rfl, rfl⟩; rw [unhide HL]))
              exact ⟨⟨k + 1, by omega, rfl, unhide HW⟩, by simp [intOf]; omega⟩
          · have hk' : k = s.size := by omega
            subst hk'
            go_wp2_with fail
            go_ret
            exact ⟨by rw [unhide HU]; rfl, rfl⟩

theorem named_loop (s : ByteArray) (h : s.size ≤ 16) (h1 : 1 ≤ s.size) (hw : letterN (bat s 0) = true) (hu : wordUp s s.size = true) : named s = true := by
  rw [named_eq, hw, hu]; simp [h, h1]
theorem named_not (s : ByteArray) (k : Nat) (hk : k < s.size) (hl : letterN (bat s k) = false) (hd : k = 0 ∨ digitN (bat s k) = false) : named s = false := by
  rw [named_eq]
  rcases hd with rfl | hd
  · rw [hl]; simp
  · rw [wordUp_stays s (show k + 1 ≤ s.size by omega) (by rw [wordUp_step, hl, hd]; simp)]; simp

end Go.Proofs.YtjfahpklemohgaaDoor

namespace Go.Proofs.YtjfahpklemohgaaDoor
open Go.RowKit

/-- Nothing has changed but block z and what is new. -/
structure But (z : Nat) (w w' : World) : Prop where
  os : w'.os = w.os
  tape : w'.tape = w.tape
  output : w'.output = w.output
  size : w.heap.size ≤ w'.heap.size
  block : ∀ k, k < w.heap.size → k ≠ z → w'.heap[k]? = w.heap[k]?
theorem But.refl (z : Nat) (w : World) : But z w w := ⟨rfl, rfl, rfl, Nat.le_refl _, fun _ _ _ => rfl⟩
theorem But.of_below {z : Nat} {w w' : World} (h : Below w.heap.size w w') : But z w w' := ⟨h.os, h.tape, h.output, h.size, fun k hk _ => h.block k hk⟩
theorem But.trans {z : Nat} {a b c : World} (h : But z a b) (k : But z b c) : But z a c :=
  ⟨k.os.trans h.os, k.tape.trans h.tape, k.output.trans h.output, Nat.le_trans h.size k.size, fun i hi hz => (k.block i (Nat.lt_of_lt_of_le hi h.size) hz).trans (h.block i hi hz)⟩
theorem But.below {z : Nat} {a b c : World} (h : Below a.heap.size a b) (k : But z b c) (hz : a.heap.size ≤ z) : Below a.heap.size a c :=
  ⟨k.os.trans h.os, k.tape.trans h.tape, k.output.trans h.output, Nat.le_trans h.size k.size, fun i hi => (k.block i (Nat.lt_of_lt_of_le hi h.size) (by omega)).trans (h.block i hi)⟩
theorem But.row {z : Nat} {w w' : World} (h : But z w w') {n : Nat} {x : Obj} (hn : n ≠ z) (hx : w.heap[n]? = some x) : w'.heap[n]? = some x :=
  (h.block n (Array.getElem?_eq_some_iff.1 hx).1 hn).trans hx
theorem But.setCell {z : Nat} {a w : World} (h : But z a w) (o : Nat) (v : Value) : But z a (w.setCell ⟨z, o, none⟩ v) :=
  ⟨h.os, h.tape, h.output, by simpa using h.size, fun k hk hz => (heap_setCell_other w ⟨z, o, none⟩ k v (by simpa using hz)).trans (h.block k hk hz)⟩
theorem But.alloc {z : Nat} {a w : World} (h : But z a w) (o : Obj) : But z a (w.alloc o) :=
  ⟨h.os, h.tape, h.output, by rw [World.size_alloc]; exact Nat.le_succ_of_le h.size, fun k hk hz => (Below.heap_alloc _ _ _ (Nat.lt_of_lt_of_le hk h.size)).trans (h.block k hk hz)⟩

theorem below_drewN {B : Nat} {w w' : World} (h : Below B w w') : ∀ n, Below B w (w'.drewN n)
  | 0 => h
  | n + 1 => (below_drewN h n).drew

/-- Where a kid lies. -/
theorem size_pat : (Tryd.prog.info? 25).map (·.size) = some 5 := by kernel_rfl
theorem kid_at {W : World} {T : PT} (hT : T.In W) {k : Nat} (hk : k < T.len) (w : World) :
    (Instr.indexAt 23 (.slice T.xa T.len T.cap) (.int .i64 (k : Int))).run Tryd.prog w = .ok (.pointer (some ⟨T.b, T.o + k * 5, none⟩)) w := by
  rw [hT.addr (by omega)]
  have h0 : (0 : Int) ≤ (k : Int) ∧ (k : Int) < (T.len : Int) := by omega
  have hs := size_pat
  cases hq : Tryd.prog.info? 25 with
  | none => simp [hq] at hs
  | some i =>
    have hz : i.size = 5 := by simpa [hq] using hs
    simp [Instr.indexAt, asIntOf, run_underlying Tryd.underlying23, h0, sizeOf, typeInfo, hq, hz, Addr.add_lit]
    intro h
    omega

def mcells (a m : Nat) : Obj := .cells #[.int .i64 (a : Int), .int .i64 (m : Int)] 81 (0, 0)

/-- What add says of a pattern. -/
def AddPost (T : PT) (g a m d : Nat) (w : World) (e : Ending) (w' : World) : Prop := ∃ ok a' m', e = .returned (.bool ok) ∧ w'.heap[g]? = some (mcells a' m') ∧ But g w w' ∧
    (ok = true → a' = a + T.cnt ∧ m' = max m (d + T.dep - 1) ∧ a' ≤ 4096 ∧ m' ≤ 200) ∧ (ok = false → 4096 < a + T.cnt ∨ 200 < d + T.dep - 1)
def AddSays (T : PT) : Prop := ∀ (W w : World) (g a m d : Nat), T.In W → Below W.heap.size W w → W.heap.size ≤ g → w.heap[g]? = some (mcells a m) → a ≤ 4096 → m ≤ 200 → d ≤ 201 → ∀ x : Int, x = (d : Int) →
  Calls Tryd.prog 41 #[.pointer (some ⟨g, 0, none⟩), .agg #[.int .i64 T.k, .string T.t, .int .i64 T.n, .string T.nm, .slice T.xa T.len T.cap], .int .i64 x] w fun e w' => AddPost T g a m d w e w'

theorem set_two (w : World) (g a m : Nat) (x y : Value) (h : w.heap[g]? = some (mcells a m)) :
    ((w.setCell ⟨g, 0, none⟩ x).setCell ⟨g, 1, none⟩ y).heap[g]? = some (.cells #[x, y] 81 (0, 0)) := by
  have h1 := heap_setCell_same w g 0 _ _ x h
  have h2 := heap_setCell_same _ g 1 _ _ y h1
  simpa using h2

set_option maxRecDepth 100000 in
set_option maxHeartbeats 1000000 in
theorem add_step (T : PT) (ih : ∀ i, i < T.len → AddSays (T.kid i)) : AddSays T := by
  intro W w g a m d hT hbel hWg hg ha hm hd x hx
  subst hx
  have hc0 := T.cnt_eq
  have hd0 := T.dep_eq
  have hpos := T.dep_pos
  have hmax := hT.max
  unfold maxLen at hmax
  have hgl : g < w.heap.size := (Array.getElem?_eq_some_iff.1 hg).1
  have hgn : ¬ g = w.heap.size := by omega
  have hgm : ¬ w.heap.size = g := by omega
  have c0 : w.cell? ⟨g, 0, none⟩ = some (.int .i64 a) := by rw [cell_of_row w _ _ _ _ _ hg]; rfl
  have c1 : w.cell? ⟨g, 1, none⟩ = some (.int .i64 m) := by rw [cell_of_row w _ _ _ _ _ hg]; rfl
  have f0 := frozen_of_row w g 0 _ _ hg
  have f1 := frozen_of_row w g 1 _ _ hg
  obtain ⟨M, hM, hMx⟩ : ∃ M, ((m < d ∧ d = M) ∨ (¬ m < d ∧ m = M)) ∧ M = max m d := ⟨max m d, by omega, rfl⟩
  have H2 := hide (set_two w g a m (.int .i64 ((a : Int) + 1)) (.int .i64 (M : Int)) hg)
  have HD := hide (And.intro hc0 (And.intro hd0 (And.intro hMx (And.intro hT (And.intro hbel ih)))))
  clear hg hc0 hd0 hMx hT hbel ih hpos
  by_cases h1 : 4096 < a + 1
  · have h1' : 4096 < (a : Int) + 1 := by omega
    rcases hM with ⟨hM, rfl⟩ | ⟨hM, rfl⟩
    all_goals
      go_enter Tryd.func41, Tryd.ntmps41
      go_wp2_with fail
      go_ret
      refine ⟨false, a + 1, _, rfl, at_old (by simpa using hgl) (unhide H2), (((But.refl g w).setCell _ _).setCell _ _).alloc _, by simp, fun _ => .inl ?_⟩
      have := (unhide HD).1
      omega
  · by_cases h2 : 200 < d
    · have h1' : ¬ 4096 < (a : Int) + 1 := by omega
      have h2' : 200 < (d : Int) := by omega
      have hMd : m < d := by omega
      have hMM : d = M := by omega
      clear hM
      subst hMM
      go_enter Tryd.func41, Tryd.ntmps41
      go_wp2_with fail
      go_ret
      refine ⟨false, a + 1, _, rfl, at_old (by simpa using hgl) (unhide H2), (((But.refl g w).setCell _ _).setCell _ _).alloc _, by simp, fun _ => .inr ?_⟩
      have := (unhide HD).2.1
      omega
    · have h1' : ¬ 4096 < (a : Int) + 1 := by omega
      have h2' : ¬ 200 < (d : Int) := by omega
      obtain ⟨K, hK⟩ : ∃ K, K = (Obj.cells #[.int .i64 T.k, .string T.t, .int .i64 T.n, .string T.nm, .slice T.xa T.len T.cap] 25) := ⟨_, rfl⟩
      have hs0 := at_old (o := K) (by simpa using hgl) (unhide H2)
      have hb0 := (((But.refl g w).setCell 0 (.int .i64 ((a : Int) + 1))).setCell 1 (.int .i64 (M : Int))).alloc K
      obtain ⟨W0, hW0⟩ : ∃ W0, W0 = (((w.setCell ⟨g, 0, none⟩ (.int .i64 ((a : Int) + 1))).setCell ⟨g, 1, none⟩ (.int .i64 (M : Int))).alloc K) := ⟨_, rfl⟩
      rw [← hW0] at hs0 hb0
      have HW := hide hW0
      have HK := hide hK
      have HB0 := hide hb0
      have HS0 := hide hs0
      have hw0 := hb0.size
      clear hW0 hK hb0 hs0
      rcases hM with ⟨hM, hMM⟩ | ⟨hM, hMM⟩
      all_goals
        subst hMM
        go_enter Tryd.func41, Tryd.ntmps41
        go_wp2_with fail
        rw [← unhide HK, ← unhide HW]
        clear c0 c1 f0 f1 hgn hgm H2 hM h1'
        go_loopw [37] (fun i wr => ∃ k A B : Nat, k ≤ T.len ∧ i = .int .i64 (k : Int) ∧ wr.heap[g]? = some (mcells A B) ∧ But g w wr ∧ A = a + 1 + sumTo (fun i => (T.kid i).cnt) k ∧ B = max (max m d) (d + maxTo (fun i => (T.kid i).dep) k) ∧ A ≤ 4096 ∧ B ≤ 200) (fun i _ => T.len - (intOf i).toNat)
        case atStart =>
          refine ⟨0, a + 1, _, by omega, rfl, unhide HS0, unhide HB0, rfl, ?_, by omega, by omega⟩
          have := (unhide HD).2.2.1
          simp only [maxTo]
          omega
        case round =>
          obtain ⟨k, A, B, hk, rfl, hgr, hbr, hA, hB, hA1, hB1⟩ := hrel
          rcases Nat.lt_or_ge k T.len with hkt | hkt
          · obtain ⟨hcn, hdn, -, hT, hbel, ih⟩ := unhide HD
            have hbw := But.below hbel hbr hWg
            have hia := kid_at hT hkt
            obtain ⟨k0, k1, k2, k3, k4⟩ := hT.cells hkt
            have k0 := cell_later hbw k0
            have k1 := cell_later hbw k1
            have k2 := cell_later hbw k2
            have k3 := cell_later hbw k3
            have k4 := cell_later hbw k4
            unfold PT.kv at k4
            have hgl2 : g < wr.heap.size := (Array.getElem?_eq_some_iff.1 hgr).1
            have HI := hide (ih k hkt W)
            have HT := hide (hT.kids hkt)
            have HBW := hide hbw
            have HGR := hide hgr
            have HBR := hide hbr
            have HAB := hide (And.intro hA hB)
            clear hcn hdn hT hbel ih hbw hgr hbr hA hB
            go_wp2_with fail
            refine (unhide HI _ g A B (d + 1) (unhide HT) ((unhide HBW).alloc (unhide HBW).size _) hWg (at_old hgl2 (unhide HGR)) hA1 hB1 (by omega) _ (by omega)).mono ?_
            rintro e w2 ⟨ok, a', m', rfl, hg2, hb2, ht, hf⟩
            have HG2 := hide hg2
            have HB2 := hide (((unhide HBR).alloc _).trans hb2)
            have HTF := hide (And.intro ht hf)
            clear hg2 hb2 ht hf
            cases ok
            · go_wp2_with fail
              go_ret
              refine ⟨false, a', m', rfl, unhide HG2, unhide HB2, by simp, fun _ => ?_⟩
              obtain ⟨hcn, hdn, _⟩ := unhide HD
              have e1 := sumTo_le (fun i => (T.kid i).cnt) (show k + 1 ≤ T.len from hkt)
              have e2 := maxTo_le (fun i => (T.kid i).dep) (show k + 1 ≤ T.len from hkt)
              simp only [sumTo, maxTo] at e1 e2
              have h := (unhide HTF).2 (by simp)
              have hA := (unhide HAB).1
              have hB := (unhide HAB).2
              omega
            · go_wp2_with fail
              go_roundw
              case rel =>
                obtain ⟨h1, h2, h3, h4⟩ := (unhide HTF).1 (by simp)
                refine ⟨k + 1, a', m', by omega, by go_num, unhide HG2, unhide HB2, ?_, ?_, h3, h4⟩
                · have := (unhide HAB).1
                  simp only [sumTo]
                  omega
                · have := (unhide HAB).2
                  simp only [maxTo]
                  omega
              case measure => simp [intOf]; omega
          · have hk' : k = T.len := by omega
            have HGR := hide hgr
            have HBR := hide hbr
            have HAB := hide (And.intro hA hB)
            clear hgr hbr hA hB
            go_wp2_with fail
            go_ret
            refine ⟨true, A, B, rfl, unhide HGR, unhide HBR, fun _ => ?_, by simp⟩
            obtain ⟨hcn, hdn, _⟩ := unhide HD
            have hA := (unhide HAB).1
            have hB := (unhide HAB).2
            rw [hk'] at hA hB
            exact ⟨by omega, by omega, hA1, hB1⟩

theorem add_any : ∀ T : PT, AddSays T := PT.ind add_step

/-- A pattern as an argument. -/
def pv (T : PT) : Value := .agg #[.int .i64 T.k, .string T.t, .int .i64 T.n, .string T.nm, .slice T.xa T.len T.cap]
/-- What Size answers. -/
def sizeSaid (T : PT) : Value := if T.fits then .tuple #[.int .i64 (T.cnt : Int), .int .i64 (T.dep : Int), .int .i64 0] else .tuple #[.int .i64 0, .int .i64 0, .int .i64 4]

set_option maxRecDepth 100000 in
set_option maxHeartbeats 1000000 in
theorem size_any (T : PT) (w : World) (hT : T.In w) :
    Calls Tryd.prog 18 #[pv T] w fun e w' => e = .returned (sizeSaid T) ∧ Below w.heap.size w w' := by
  unfold pv
  have HA := hide (add_any T w)
  have HT := hide hT
  clear hT
  go_enter Tryd.func18, Tryd.ntmps18
  go_wp2_with fail
  have hbel := ((Below.refl w.heap.size w).alloc (Nat.le_refl _) (.cells #[.int .i64 T.k, .string T.t, .int .i64 T.n, .string T.nm, .slice T.xa T.len T.cap] 25)).alloc (by simp) (.cells #[.int .i64 0, .int .i64 0] 81)
  refine (unhide HA _ (w.heap.size + 1) 0 0 1 (unhide HT) hbel (by omega) (at_new (by simp)) (by omega) (by omega) (by omega) _ rfl).mono ?_
  rintro e w1 ⟨ok, a', m', rfl, hg, hb, ht, hf⟩
  have HB := hide (But.below hbel hb (by omega))
  have HTF := hide (And.intro ht hf)
  have c0 : w1.cell? ⟨w.heap.size + 1, 0, none⟩ = some (.int .i64 a') := by rw [cell_of_row w1 _ _ _ _ _ hg]; rfl
  have c1 : w1.cell? ⟨w.heap.size + 1, 1, none⟩ = some (.int .i64 m') := by rw [cell_of_row w1 _ _ _ _ _ hg]; rfl
  clear hbel hb ht hf hg HA
  cases ok
  · have HS := hide (show sizeSaid T = .tuple #[.int .i64 0, .int .i64 0, .int .i64 4] by
      unfold sizeSaid
      rw [if_neg]
      have h := (unhide HTF).2 (by simp)
      unfold PT.fits
      simp
      omega)
    go_wp2_with fail
    go_ret3
    exact ⟨by rw [unhide HS]; rfl, unhide HB⟩
  · have HS := hide (show sizeSaid T = .tuple #[.int .i64 a', .int .i64 m', .int .i64 0] by
      obtain ⟨h1, h2, h3, h4⟩ := (unhide HTF).1 (by simp)
      have := T.dep_pos
      unfold sizeSaid
      rw [if_pos]
      · rw [h1, h2, show max 0 (1 + T.dep - 1) = T.dep by omega, Nat.zero_add]
      · unfold PT.fits
        simp
        omega)
    go_wp2_with fail
    go_quiet (fail)
    go_wp2_with fail
    go_ret3
    exact ⟨by rw [unhide HS]; rfl, below_drewN (unhide HB) _⟩
end Go.Proofs.YtjfahpklemohgaaDoor
