/- Patterns as trees: how many nodes, how deep, all nodes ahead of their kids, what is wrong first, names. -/
import Derived.WalkKit
import Derived.Below
import Derived.WalkSpells
namespace Go.Proofs.YtpphjddljngkmaaDoor
open Go.RowKit

/-- A pattern as it lies in memory: its kind, text, number and name; where its kids lie, how many, and what they are. -/
structure PT where
  node ::
  k : Int
  t : ByteArray
  n : Int
  nm : ByteArray
  xa : Option Addr
  b : Nat
  o : Nat
  len : Nat
  cap : Nat
  kids : Fin len → PT
def PT.nul : PT := ⟨0, ByteArray.empty, 0, ByteArray.empty, none, 0, 0, 0, 0, fun i => i.elim0⟩
def PT.kid (T : PT) (i : Nat) : PT := if h : i < T.len then T.kids ⟨i, h⟩ else PT.nul
theorem PT.kid_at {T : PT} {i : Nat} (h : i < T.len) : T.kid i = T.kids ⟨i, h⟩ := dif_pos h
theorem PT.ind {P : PT → Prop} (h : ∀ T : PT, (∀ i, i < T.len → P (T.kid i)) → P T) : ∀ T, P T
  | .node k t n nm xa b o len cap kids => h _ fun i hi => by
    rw [PT.kid_at (T := .node k t n nm xa b o len cap kids) hi]
    exact PT.ind h (kids ⟨i, hi⟩)
/-- Its five cells. -/
def PT.kv (T : PT) : Value := .slice T.xa T.len T.cap
/-- A kid by its place; beyond the last one nothing. -/
def kf {α : Type} (n : Nat) (d : α) (f : Fin n → α) (i : Nat) : α := if h : i < n then f ⟨i, h⟩ else d
theorem kf_at {α : Type} {n : Nat} {d : α} {f : Fin n → α} {i : Nat} (h : i < n) : kf n d f i = f ⟨i, h⟩ := dif_pos h
/-- It lies in a world. -/
def PT.In (w : World) : PT → Prop
  | .node k t n nm xa b o len cap kids => (-9223372036854775808 ≤ k ∧ k ≤ 9223372036854775807) ∧ t.size ≤ maxLen ∧ (-9223372036854775808 ≤ n ∧ n ≤ 9223372036854775807) ∧ nm.size ≤ maxLen ∧
      len ≤ maxLen ∧ len ≤ cap ∧ (0 < len → xa = some ⟨b, o, none⟩) ∧
      ∀ i : Fin len, (w.cell? ⟨b, o + i.val * 5, none⟩ = some (.int .i64 (kids i).k) ∧ w.cell? ⟨b, o + i.val * 5 + 1, none⟩ = some (.string (kids i).t) ∧ w.cell? ⟨b, o + i.val * 5 + 2, none⟩ = some (.int .i64 (kids i).n) ∧ w.cell? ⟨b, o + i.val * 5 + 3, none⟩ = some (.string (kids i).nm) ∧ w.cell? ⟨b, o + i.val * 5 + 4, none⟩ = some (kids i).kv) ∧ PT.In w (kids i)
theorem PT.In.kids {w : World} {T : PT} (h : T.In w) {i : Nat} (hi : i < T.len) : (T.kid i).In w := by
  rw [PT.kid_at hi]
  cases T; exact (h.2.2.2.2.2.2.2 ⟨i, hi⟩).2
theorem PT.In.cells {w : World} {T : PT} (h : T.In w) {i : Nat} (hi : i < T.len) :
    w.cell? ⟨T.b, T.o + i * 5, none⟩ = some (.int .i64 (T.kid i).k) ∧ w.cell? ⟨T.b, T.o + i * 5 + 1, none⟩ = some (.string (T.kid i).t) ∧ w.cell? ⟨T.b, T.o + i * 5 + 2, none⟩ = some (.int .i64 (T.kid i).n) ∧ w.cell? ⟨T.b, T.o + i * 5 + 3, none⟩ = some (.string (T.kid i).nm) ∧ w.cell? ⟨T.b, T.o + i * 5 + 4, none⟩ = some (T.kid i).kv := by
  rw [PT.kid_at hi]
  cases T; exact (h.2.2.2.2.2.2.2 ⟨i, hi⟩).1
theorem PT.In.addr {w : World} {T : PT} (h : T.In w) (hi : 0 < T.len) : T.xa = some ⟨T.b, T.o, none⟩ := by
  cases T; exact h.2.2.2.2.2.2.1 hi
theorem PT.In.max {w : World} {T : PT} (h : T.In w) : T.len ≤ maxLen := by cases T; exact h.2.2.2.2.1
theorem PT.In.name {w : World} {T : PT} (h : T.In w) : T.nm.size ≤ maxLen := by cases T; exact h.2.2.2.1
theorem PT.In.later {w w' : World} (hb : Below w.heap.size w w') : ∀ {T : PT}, T.In w → T.In w'
  | .node k t n nm xa b o len cap kids, h => by
    have ih := fun i => PT.In.later hb (T := kids i)
    refine ⟨h.1, h.2.1, h.2.2.1, h.2.2.2.1, h.2.2.2.2.1, h.2.2.2.2.2.1, h.2.2.2.2.2.2.1, fun i => ?_⟩
    obtain ⟨⟨c0, c1, c2, c3, c4⟩, hk⟩ := h.2.2.2.2.2.2.2 i
    exact ⟨⟨cell_later hb c0, cell_later hb c1, cell_later hb c2, cell_later hb c3, cell_later hb c4⟩, ih i hk⟩
/-- Sums, greatest ones, first ones. -/
def sumTo (f : Nat → Nat) : Nat → Nat
  | 0 => 0
  | n + 1 => sumTo f n + f n
def maxTo (f : Nat → Nat) : Nat → Nat
  | 0 => 0
  | n + 1 => max (maxTo f n) (f n)
def firstTo (f : Nat → Int) : Nat → Int
  | 0 => 0
  | n + 1 => if firstTo f n = 0 then f n else firstTo f n
def flatTo {α : Type} (f : Nat → List α) : Nat → List α
  | 0 => []
  | n + 1 => flatTo f n ++ f n
theorem sumTo_congr {f g : Nat → Nat} : ∀ n, (∀ i, i < n → f i = g i) → sumTo f n = sumTo g n
  | 0, _ => rfl
  | n + 1, h => by rw [sumTo, sumTo, sumTo_congr n fun i hi => h i (by omega), h n (by omega)]
theorem maxTo_congr {f g : Nat → Nat} : ∀ n, (∀ i, i < n → f i = g i) → maxTo f n = maxTo g n
  | 0, _ => rfl
  | n + 1, h => by rw [maxTo, maxTo, maxTo_congr n fun i hi => h i (by omega), h n (by omega)]
theorem firstTo_congr {f g : Nat → Int} : ∀ n, (∀ i, i < n → f i = g i) → firstTo f n = firstTo g n
  | 0, _ => rfl
  | n + 1, h => by rw [firstTo, firstTo, firstTo_congr n fun i hi => h i (by omega), h n (by omega)]
theorem flatTo_congr {α : Type} {f g : Nat → List α} : ∀ n, (∀ i, i < n → f i = g i) → flatTo f n = flatTo g n
  | 0, _ => rfl
  | n + 1, h => by rw [flatTo, flatTo, flatTo_congr n fun i hi => h i (by omega), h n (by omega)]
def PT.cnt : PT → Nat
  | .node _ _ _ _ _ _ _ len _ kids => 1 + sumTo (kf len 1 fun i => PT.cnt (kids i)) len
def PT.dep : PT → Nat
  | .node _ _ _ _ _ _ _ len _ kids => 1 + maxTo (kf len 1 fun i => PT.dep (kids i)) len
def PT.all : PT → List PT
  | .node k t n nm xa b o len cap kids => .node k t n nm xa b o len cap kids :: flatTo (kf len [] fun i => PT.all (kids i)) len
theorem PT.cnt_eq (T : PT) : T.cnt = 1 + sumTo (fun i => (T.kid i).cnt) T.len := by
  obtain ⟨k, t, n, nm, xa, b, o, len, cap, kids⟩ := T
  exact congrArg (1 + ·) (sumTo_congr len fun i hi => by rw [kf_at hi, PT.kid_at (T := .node k t n nm xa b o len cap kids) hi])
theorem PT.dep_eq (T : PT) : T.dep = 1 + maxTo (fun i => (T.kid i).dep) T.len := by
  obtain ⟨k, t, n, nm, xa, b, o, len, cap, kids⟩ := T
  exact congrArg (1 + ·) (maxTo_congr len fun i hi => by rw [kf_at hi, PT.kid_at (T := .node k t n nm xa b o len cap kids) hi])
theorem PT.all_eq (T : PT) : T.all = T :: flatTo (fun i => (T.kid i).all) T.len := by
  obtain ⟨k, t, n, nm, xa, b, o, len, cap, kids⟩ := T
  exact congrArg (_ :: ·) (flatTo_congr len fun i hi => by rw [kf_at hi, PT.kid_at (T := .node k t n nm xa b o len cap kids) hi])
theorem PT.cnt_pos (T : PT) : 0 < T.cnt := by rw [T.cnt_eq]; omega
theorem PT.dep_pos (T : PT) : 0 < T.dep := by rw [T.dep_eq]; omega
theorem sumTo_le (f : Nat → Nat) {i n : Nat} (h : i ≤ n) : sumTo f i ≤ sumTo f n := by
  induction n with
  | zero => rw [Nat.le_zero.1 h]; exact Nat.le_refl _
  | succ n ih =>
    rcases Nat.lt_or_ge i (n + 1) with h1 | h1
    · have := ih (by omega)
      simp only [sumTo]; omega
    · rw [show i = n + 1 by omega]; exact Nat.le_refl _
theorem maxTo_le (f : Nat → Nat) {i n : Nat} (h : i ≤ n) : maxTo f i ≤ maxTo f n := by
  induction n with
  | zero => rw [Nat.le_zero.1 h]; exact Nat.le_refl _
  | succ n ih =>
    rcases Nat.lt_or_ge i (n + 1) with h1 | h1
    · have := ih (by omega)
      simp only [maxTo]; omega
    · rw [show i = n + 1 by omega]; exact Nat.le_refl _
theorem le_sumTo (f : Nat → Nat) (hf : ∀ i, 0 < f i) (n : Nat) : n ≤ sumTo f n := by
  induction n with
  | zero => exact Nat.zero_le _
  | succ n ih => have := hf n; simp only [sumTo]; omega
theorem PT.len_lt (T : PT) : T.len < T.cnt := by
  have := le_sumTo (fun i => (T.kid i).cnt) (fun i => (T.kid i).cnt_pos) T.len
  rw [T.cnt_eq]; omega
theorem PT.all_length : ∀ T : PT, T.all.length = T.cnt := PT.ind fun T ih => by
  have : ∀ m, m ≤ T.len → (flatTo (fun i => (T.kid i).all) m).length = sumTo (fun i => (T.kid i).cnt) m := by
    intro m
    induction m with
    | zero => intro _; rfl
    | succ m hm => intro h; simp only [flatTo, sumTo, List.length_append, hm (by omega), ih m (by omega)]
  rw [T.all_eq, T.cnt_eq, List.length_cons, this T.len (Nat.le_refl _)]
  omega
/-- A property of all nodes. -/
theorem flatTo_mem {α : Type} {f : Nat → List α} {n : Nat} {x : α} : x ∈ flatTo f n ↔ ∃ i, i < n ∧ x ∈ f i := by
  induction n with
  | zero => simp [flatTo]
  | succ n ih =>
    rw [flatTo, List.mem_append, ih]
    constructor
    · rintro (⟨i, hi, hx⟩ | hx)
      · exact ⟨i, by omega, hx⟩
      · exact ⟨n, by omega, hx⟩
    · rintro ⟨i, hi, hx⟩
      rcases Nat.lt_or_ge i n with h | h
      · exact .inl ⟨i, h, hx⟩
      · exact .inr ((show i = n by omega) ▸ hx)
theorem PT.In.every {w : World} : ∀ {T : PT}, T.In w → ∀ x ∈ T.all, x.In w := fun {T} => PT.ind (P := fun T => T.In w → ∀ x ∈ T.all, x.In w) (fun T ih h x hx => by
  rw [T.all_eq] at hx
  rcases List.mem_cons.1 hx with rfl | hx
  · exact h
  · obtain ⟨i, hi, hx⟩ := flatTo_mem.1 hx
    exact ih i hi (h.kids hi) x hx) T
/-- A name. -/
def letterB (c : UInt8) : Bool := decide (65 ≤ c.toNat) && decide (c.toNat ≤ 90)
def digitB (c : UInt8) : Bool := decide (48 ≤ c.toNat) && decide (c.toNat ≤ 57)
def namedL : List UInt8 → Bool
  | [] => false
  | c :: r => letterB c && r.all fun x => letterB x || digitB x
def named (s : ByteArray) : Bool := decide (s.size ≤ 16) && namedL s.data.toList
/-- What kinds have: nothing, a text, a number, a name; how many kids. -/
def hasK (k : Int) : Int := if k = 1 ∨ (3 ≤ k ∧ k ≤ 7) then 1 else if k = 2 ∨ (8 ≤ k ∧ k ≤ 11) then 2 else if 21 ≤ k ∧ k ≤ 24 then 3 else 0
def leastK (k : Int) : Int := if k = 18 ∨ k = 19 then 2 else if 20 ≤ k ∧ k ≤ 22 then 1 else 0
def mostK (k : Int) : Int := if k = 18 ∨ k = 19 then 4096 else if 20 ≤ k ∧ k ≤ 22 then 1 else 0
/-- What is wrong with a node. -/
def errN (T : PT) : Int :=
  if T.k < 1 ∨ 24 < T.k then 1
  else if hasK T.k = 1 ∧ 65536 < T.t.size then 4
  else if hasK T.k = 1 ∧ T.k ≠ 1 ∧ T.t.size = 0 then 8
  else if hasK T.k = 2 ∧ (T.n < 0 ∨ 65536 < T.n) then 3
  else if hasK T.k = 3 ∧ named T.nm = false then 7
  else if (T.len : Int) < leastK T.k ∨ mostK T.k < T.len then 5
  else 0
/-- What is wrong first. -/
def PT.bad : PT → Int
  | .node k t n nm xa b o len cap kids => if errN (.node k t n nm xa b o len cap kids) = 0 then firstTo (kf len 0 fun i => PT.bad (kids i)) len else errN (.node k t n nm xa b o len cap kids)
theorem PT.bad_eq (T : PT) : T.bad = if errN T = 0 then firstTo (fun i => (T.kid i).bad) T.len else errN T := by
  obtain ⟨k, t, n, nm, xa, b, o, len, cap, kids⟩ := T
  have h := firstTo_congr (f := kf len 0 fun i => PT.bad (kids i)) (g := fun i => ((PT.node k t n nm xa b o len cap kids).kid i).bad) len fun i hi => by rw [kf_at hi, PT.kid_at (T := .node k t n nm xa b o len cap kids) hi]
  show (if errN _ = 0 then firstTo (kf len 0 fun i => PT.bad (kids i)) len else errN _) = _
  rw [h]
def firstL (l : List PT) : Int := match l with
  | [] => 0
  | x :: r => if errN x = 0 then firstL r else errN x
theorem firstL_append (a b : List PT) : firstL (a ++ b) = if firstL a = 0 then firstL b else firstL a := by
  induction a with
  | nil => rfl
  | cons x a ih =>
    show (if errN x = 0 then firstL (a ++ b) else errN x) = if (if errN x = 0 then firstL a else errN x) = 0 then firstL b else (if errN x = 0 then firstL a else errN x)
    by_cases h : errN x = 0
    · rw [if_pos h, if_pos h, ih]
    · rw [if_neg h, if_neg h, if_neg h]
theorem PT.bad_all : ∀ T : PT, firstL T.all = T.bad := PT.ind fun T ih => by
  have : ∀ m, m ≤ T.len → firstL (flatTo (fun i => (T.kid i).all) m) = firstTo (fun i => (T.kid i).bad) m := by
    intro m
    induction m with
    | zero => intro _; rfl
    | succ m hm => intro h; simp only [flatTo, firstTo, firstL_append, hm (by omega), ih m (by omega)]
  rw [T.bad_eq, T.all_eq]
  show (if errN T = 0 then firstL (flatTo (fun i => (T.kid i).all) T.len) else errN T) = _
  rw [this T.len (Nat.le_refl _)]
/-- It is not too large; what is wrong with it. -/
def PT.fits (T : PT) : Bool := decide (T.cnt ≤ 4096) && decide (T.dep ≤ 200)
def PT.wrong (T : PT) : Int := if T.fits then T.bad else 4
end Go.Proofs.YtpphjddljngkmaaDoor
