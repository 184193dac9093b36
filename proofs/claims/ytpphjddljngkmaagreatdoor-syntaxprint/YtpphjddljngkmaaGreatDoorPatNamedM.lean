/- Patterns as trees: how many nodes, how deep, all nodes ahead of their kids, what is wrong first, names. Small facts; letters, digits and names. What pats.Named and the document's Named answer, for every text of at most a million bytes. -/
import Derived.WalkKit
import Derived.Below
import Derived.WalkSpells
import Derived.Test.YtpphjddljngkmaaGreatDoorRows
import Derived.WalkLawsBesides
import Derived.WalkSmall
import Derived.Deep.WholeRow
import Derived.Deep.QuietTactic
import Derived.BigQuiet
import Derived.Laws.IdiomStrings
namespace Go.Proofs.YtpphjddljngkmaaGreatDoor
open Go.RowKit

/-- A pattern as it lies in memory: its kind, text, number and name; where its kids lie, how many, and what they are. -/
structure PT where
  node ::
  k : Int
  t : ByteArray
  n : Int
  nm : ByteArray
  xa : Option Addr
  b : Nat
  o : Nat
  len : Nat
  cap : Nat
  kids : Fin len → PT
def PT.nul : PT := ⟨0, ByteArray.empty, 0, ByteArray.empty, none, 0, 0, 0, 0, fun i => i.elim0⟩
def PT.kid (T : PT) (i : Nat) : PT := if h : i < T.len then T.kids ⟨i, h⟩ else PT.nul
theorem PT.kid_at {T : PT} {i : Nat} (h : i < T.len) : T.kid i = T.kids ⟨i, h⟩ := dif_pos h
theorem PT.ind {P : PT → Prop} (h : ∀ T : PT, (∀ i, i < T.len → P (T.kid i)) → P T) : ∀ T, P T
  | .node k t n nm xa b o len cap kids => h _ fun i hi => by
    rw [PT.kid_at (T := .node k t n nm xa b o len cap kids) hi]
    exact PT.ind h (kids ⟨i, hi⟩)
/-- Its five cells. -/
def PT.kv (T : PT) : Value := .slice T.xa T.len T.cap
/-- A kid by its place; beyond the last one nothing. -/
def kf {α : Type} (n : Nat) (d : α) (f : Fin n → α) (i : Nat) : α := if h : i < n then f ⟨i, h⟩ else d
theorem kf_at {α : Type} {n : Nat} {d : α} {f : Fin n → α} {i : Nat} (h : i < n) : kf n d f i = f ⟨i, h⟩ := dif_pos h
/-- It lies in a world. -/
def PT.In (w : World) : PT → Prop
  | .node k t n nm xa b o len cap kids => (-9223372036854775808 ≤ k ∧ k ≤ 9223372036854775807) ∧ t.size ≤ maxLen ∧ (-9223372036854775808 ≤ n ∧ n ≤ 9223372036854775807) ∧ nm.size ≤ maxLen ∧
      len ≤ maxLen ∧ len ≤ cap ∧ (0 < len → xa = some ⟨b, o, none⟩) ∧
      ∀ i : Fin len, (w.cell? ⟨b, o + i.val * 5, none⟩ = some (.int .i64 (kids i).k) ∧ w.cell? ⟨b, o + i.val * 5 + 1, none⟩ = some (.string (kids i).t) ∧ w.cell? ⟨b, o + i.val * 5 + 2, none⟩ = some (.int .i64 (kids i).n) ∧ w.cell? ⟨b, o + i.val * 5 + 3, none⟩ = some (.string (kids i).nm) ∧ w.cell? ⟨b, o + i.val * 5 + 4, none⟩ = some (kids i).kv) ∧ PT.In w (kids i)
theorem PT.In.kids {w : World} {T : PT} (h : T.In w) {i : Nat} (hi : i < T.len) : (T.kid i).In w := by
  rw [PT.kid_at hi]
  cases T; exact (h.2.2.2.2.2.2.2 ⟨i, hi⟩).2
theorem PT.In.cells {w : World} {T : PT} (h : T.In w) {i : Nat} (hi : i < T.len) :
    w.cell? ⟨T.b, T.o + i * 5, none⟩ = some (.int .i64 (T.kid i).k) ∧ w.cell? ⟨T.b, T.o + i * 5 + 1, none⟩ = some (.string (T.kid i).t) ∧ w.cell? ⟨T.b, T.o + i * 5 + 2, none⟩ = some (.int .i64 (T.kid i).n) ∧ w.cell? ⟨T.b, T.o + i * 5 + 3, none⟩ = some (.string (T.kid i).nm) ∧ w.cell? ⟨T.b, T.o + i * 5 + 4, none⟩ = some (T.kid i).kv := by
  rw [PT.kid_at hi]
  cases T; exact (h.2.2.2.2.2.2.2 ⟨i, hi⟩).1
theorem PT.In.addr {w : World} {T : PT} (h : T.In w) (hi : 0 < T.len) : T.xa = some ⟨T.b, T.o, none⟩ := by
  cases T; exact h.2.2.2.2.2.2.1 hi
theorem PT.In.max {w : World} {T : PT} (h : T.In w) : T.len ≤ maxLen := by cases T; exact h.2.2.2.2.1
theorem PT.In.name {w : World} {T : PT} (h : T.In w) : T.nm.size ≤ maxLen := by cases T; exact h.2.2.2.1
theorem PT.In.num {w : World} {T : PT} (h : T.In w) : -9223372036854775808 ≤ T.n ∧ T.n ≤ 9223372036854775807 := by cases T; exact h.2.2.1
theorem PT.In.later {w w' : World} (hb : Below w.heap.size w w') : ∀ {T : PT}, T.In w → T.In w'
  | .node k t n nm xa b o len cap kids, h => by
    have ih := fun i => PT.In.later hb (T := kids i)
    refine ⟨h.1, h.2.1, h.2.2.1, h.2.2.2.1, h.2.2.2.2.1, h.2.2.2.2.2.1, h.2.2.2.2.2.2.1, fun i => ?_⟩
    obtain ⟨⟨c0, c1, c2, c3, c4⟩, hk⟩ := h.2.2.2.2.2.2.2 i
    exact ⟨⟨cell_later hb c0, cell_later hb c1, cell_later hb c2, cell_later hb c3, cell_later hb c4⟩, ih i hk⟩
/-- Sums, greatest ones, first ones. -/
def sumTo (f : Nat → Nat) : Nat → Nat
  | 0 => 0
  | n + 1 => sumTo f n + f n
def maxTo (f : Nat → Nat) : Nat → Nat
  | 0 => 0
  | n + 1 => max (maxTo f n) (f n)
def firstTo (f : Nat → Int) : Nat → Int
  | 0 => 0
  | n + 1 => if firstTo f n = 0 then f n else firstTo f n
def flatTo {α : Type} (f : Nat → List α) : Nat → List α
  | 0 => []
  | n + 1 => flatTo f n ++ f n
theorem sumTo_congr {f g : Nat → Nat} : ∀ n, (∀ i, i < n → f i = g i) → sumTo f n = sumTo g n
  | 0, _ => rfl
  | n + 1, h => by rw [sumTo, sumTo, sumTo_congr n fun i hi => h i (by omega), h n (by omega)]
theorem maxTo_congr {f g : Nat → Nat} : ∀ n, (∀ i, i < n → f i = g i) → maxTo f n = maxTo g n
  | 0, _ => rfl
  | n + 1, h => by rw [maxTo, maxTo, maxTo_congr n fun i hi => h i (by omega), h n (by omega)]
theorem firstTo_congr {f g : Nat → Int} : ∀ n, (∀ i, i < n → f i = g i) → firstTo f n = firstTo g n
  | 0, _ => rfl
  | n + 1, h => by rw [firstTo, firstTo, firstTo_congr n fun i hi => h i (by omega), h n (by omega)]
theorem flatTo_congr {α : Type} {f g : Nat → List α} : ∀ n, (∀ i, i < n → f i = g i) → flatTo f n = flatTo g n
  | 0, _ => rfl
  | n + 1, h => by rw [flatTo, flatTo, flatTo_congr n fun i hi => h i (by omega), h n (by omega)]
def PT.cnt : PT → Nat
  | .node _ _ _ _ _ _ _ len _ kids => 1 + sumTo (kf len 1 fun i => PT.cnt (kids i)) len
def PT.dep : PT → Nat
  | .node _ _ _ _ _ _ _ len _ kids => 1 + maxTo (kf len 1 fun i => PT.dep (kids i)) len
def PT.all : PT → List PT
  | .node k t n nm xa b o len cap kids => .node k t n nm xa b o len cap kids :: flatTo (kf len [] fun i => PT.all (kids i)) len
theorem PT.cnt_eq (T : PT) : T.cnt = 1 + sumTo (fun i => (T.kid i).cnt) T.len := by
  obtain ⟨k, t, n, nm, xa, b, o, len, cap, kids⟩ := T
  exact congrArg (1 + ·) (sumTo_congr len fun i hi => by rw [kf_at hi, PT.kid_at (T := .node k t n nm xa b o len cap kids) hi])
theorem PT.dep_eq (T : PT) : T.dep = 1 + maxTo (fun i => (T.kid i).dep) T.len := by
  obtain ⟨k, t, n, nm, xa, b, o, len, cap, kids⟩ := T
  exact congrArg (1 + ·) (maxTo_congr len fun i hi => by rw [kf_at hi, PT.kid_at (T := .node k t n nm xa b o len cap kids) hi])
theorem PT.all_eq (T : PT) : T.all = T :: flatTo (fun i => (T.kid i).all) T.len := by
  obtain ⟨k, t, n, nm, xa, b, o, len, cap, kids⟩ := T
  exact congrArg (_ :: ·) (flatTo_congr len fun i hi => by rw [kf_at hi, PT.kid_at (T := .node k t n nm xa b o len cap kids) hi])
theorem PT.cnt_pos (T : PT) : 0 < T.cnt := by rw [T.cnt_eq]; omega
theorem PT.dep_pos (T : PT) : 0 < T.dep := by rw [T.dep_eq]; omega
theorem sumTo_le (f : Nat → Nat) {i n : Nat} (h : i ≤ n) : sumTo f i ≤ sumTo f n := by
  induction n with
  | zero => rw [Nat.le_zero.1 h]; exact Nat.le_refl _
  | succ n ih =>
    rcases Nat.lt_or_ge i (n + 1) with h1 | h1
    · have := ih (by omega)
      simp only [sumTo]; omega
    · rw [show i = n + 1 by omega]; exact Nat.le_refl _
theorem maxTo_le (f : Nat → Nat) {i n : Nat} (h : i ≤ n) : maxTo f i ≤ maxTo f n := by
  induction n with
  | zero => rw [Nat.le_zero.1 h]; exact Nat.le_refl _
  | succ n ih =>
    rcases Nat.lt_or_ge i (n + 1) with h1 | h1
    · have := ih (by omega)
      simp only [maxTo]; omega
    · rw [show i = n + 1 by omega]; exact Nat.le_refl _
theorem le_sumTo (f : Nat → Nat) (hf : ∀ i, 0 < f i) (n : Nat) : n ≤ sumTo f n := by
  induction n with
  | zero => exact Nat.zero_le _
  | succ n ih => have := hf n; simp only [sumTo]; omega
theorem PT.len_lt (T : PT) : T.len < T.cnt := by
  have := le_sumTo (fun i => (T.kid i).cnt) (fun i => (T.kid i).cnt_pos) T.len
  rw [T.cnt_eq]; omega
theorem PT.all_length : ∀ T : PT, T.all.length = T.cnt := PT.ind fun T ih => by
  have : ∀ m, m ≤ T.len → (flatTo (fun i => (T.kid i).all) m).length = sumTo (fun i => (T.kid i).cnt) m := by
    intro m
    induction m with
    | zero => intro _; rfl
    | succ m hm => intro h; simp only [flatTo, sumTo, List.length_append, hm (by omega), ih m (by omega)]
  rw [T.all_eq, T.cnt_eq, List.length_cons, this T.len (Nat.le_refl _)]
  omega
/-- A property of all nodes. -/
theorem flatTo_mem {α : Type} {f : Nat → List α} {n : Nat} {x : α} : x ∈ flatTo f n ↔ ∃ i, i < n ∧ x ∈ f i := by
  induction n with
  | zero => simp [flatTo]
  | succ n ih =>
    rw [flatTo, List.mem_append, ih]
    constructor
    · rintro (⟨i, hi, hx⟩ | hx)
      · exact ⟨i, by omega, hx⟩
      · exact ⟨n, by omega, hx⟩
    · rintro ⟨i, hi, hx⟩
      rcases Nat.lt_or_ge i n with h | h
      · exact .inl ⟨i, h, hx⟩
      · exact .inr ((show i = n by omega) ▸ hx)
theorem PT.In.every {w : World} : ∀ {T : PT}, T.In w → ∀ x ∈ T.all, x.In w := fun {T} => PT.ind (P := fun T => T.In w → ∀ x ∈ T.all, x.In w) (fun T ih h x hx => by
  rw [T.all_eq] at hx
  rcases List.mem_cons.1 hx with rfl | hx
  · exact h
  · obtain ⟨i, hi, hx⟩ := flatTo_mem.1 hx
    exact ih i hi (h.kids hi) x hx) T
/-- A name. -/
def letterB (c : UInt8) : Bool := decide (65 ≤ c.toNat) && decide (c.toNat ≤ 90)
def digitB (c : UInt8) : Bool := decide (48 ≤ c.toNat) && decide (c.toNat ≤ 57)
def namedL : List UInt8 → Bool
  | [] => false
  | c :: r => letterB c && r.all fun x => letterB x || digitB x
def named (s : ByteArray) : Bool := decide (s.size ≤ 16) && namedL s.data.toList
/-- What kinds have: nothing, a text, a number, a name; how many kids. -/
def hasK (k : Int) : Int := if k = 1 ∨ (3 ≤ k ∧ k ≤ 7) then 1 else if k = 2 ∨ (8 ≤ k ∧ k ≤ 11) then 2 else if 21 ≤ k ∧ k ≤ 24 then 3 else 0
def leastK (k : Int) : Int := if k = 18 ∨ k = 19 then 2 else if 20 ≤ k ∧ k ≤ 22 then 1 else 0
def mostK (k : Int) : Int := if k = 18 ∨ k = 19 then 4096 else if 20 ≤ k ∧ k ≤ 22 then 1 else 0
/-- What is wrong with a node. -/
def errN (T : PT) : Int :=
  if T.k < 1 ∨ 24 < T.k then 1
  else if hasK T.k = 1 ∧ 65536 < T.t.size then 4
  else if hasK T.k = 1 ∧ T.k ≠ 1 ∧ T.t.size = 0 then 8
  else if hasK T.k = 2 ∧ (T.n < 0 ∨ 65536 < T.n) then 3
  else if hasK T.k = 3 ∧ named T.nm = false then 7
  else if (T.len : Int) < leastK T.k ∨ mostK T.k < T.len then 5
  else 0
/-- What is wrong first. -/
def PT.bad : PT → Int
  | .node k t n nm xa b o len cap kids => if errN (.node k t n nm xa b o len cap kids) = 0 then firstTo (kf len 0 fun i => PT.bad (kids i)) len else errN (.node k t n nm xa b o len cap kids)
theorem PT.bad_eq (T : PT) : T.bad = if errN T = 0 then firstTo (fun i => (T.kid i).bad) T.len else errN T := by
  obtain ⟨k, t, n, nm, xa, b, o, len, cap, kids⟩ := T
  have h := firstTo_congr (f := kf len 0 fun i => PT.bad (kids i)) (g := fun i => ((PT.node k t n nm xa b o len cap kids).kid i).bad) len fun i hi => by rw [kf_at hi, PT.kid_at (T := .node k t n nm xa b o len cap kids) hi]
  show (if errN _ = 0 then firstTo (kf len 0 fun i => PT.bad (kids i)) len else errN _) = _
  rw [h]
def firstL (l : List PT) : Int := match l with
  | [] => 0
  | x :: r => if errN x = 0 then firstL r else errN x
theorem firstL_append (a b : List PT) : firstL (a ++ b) = if firstL a = 0 then firstL b else firstL a := by
  induction a with
  | nil => rfl
  | cons x a ih =>
    show (if errN x = 0 then firstL (a ++ b) else errN x) = if (if errN x = 0 then firstL a else errN x) = 0 then firstL b else (if errN x = 0 then firstL a else errN x)
    by_cases h : errN x = 0
    · rw [if_pos h, if_pos h, ih]
    · rw [if_neg h, if_neg h, if_neg h]
theorem PT.bad_all : ∀ T : PT, firstL T.all = T.bad := PT.ind fun T ih => by
  have : ∀ m, m ≤ T.len → firstL (flatTo (fun i => (T.kid i).all) m) = firstTo (fun i => (T.kid i).bad) m := by
    intro m
    induction m with
    | zero => intro _; rfl
    | succ m hm => intro h; simp only [flatTo, firstTo, firstL_append, hm (by omega), ih m (by omega)]
  rw [T.bad_eq, T.all_eq]
  show (if errN T = 0 then firstL (flatTo (fun i => (T.kid i).all) T.len) else errN T) = _
  rw [this T.len (Nat.le_refl _)]
/-- It is not too large; what is wrong with it. -/
def PT.fits (T : PT) : Bool := decide (T.cnt ≤ 4096) && decide (T.dep ≤ 200)
def PT.wrong (T : PT) : Int := if T.fits then T.bad else 4
end Go.Proofs.YtpphjddljngkmaaGreatDoor

namespace Go.Proofs.YtpphjddljngkmaaGreatDoor
open Go.RowKit

theorem hide {p : Prop} (h : p) : Hid p := h
theorem unhide {p : Prop} (h : Hid p) : p := h
theorem bn {α : Type} [BEq α] [LawfulBEq α] {a b : α} (h : ¬ a = b := by omega) : (a == b) = false := beq_eq_false_iff_ne.2 h
theorem bt {α : Type} [BEq α] [LawfulBEq α] {a b : α} (h : a = b := by omega) : (a == b) = true := beq_iff_eq.2 h
theorem cr {w : World} {g j : Nat} {cs : Array Value} {t : TypeId} {fr : Nat × Nat} {v : Option Value} (hg : w.heap[g]? = some (.cells cs t fr)) (e : cs[j]? = v := by rfl) : w.cell? ⟨g, j, none⟩ = v := (cell_of_row _ _ _ _ _ _ hg).trans e
theorem ba {w : World} (o : Obj) : Below w.heap.size w (w.alloc o) := (Below.refl _ _).alloc (Nat.le_refl _) o
theorem bnext {w a b : World} (h : Below w.heap.size w a) (k : Below a.heap.size a b) : Below w.heap.size w b := h.trans (k.mono h.size)
theorem bnext2 {w a b : World} (h : Below w.heap.size w a) (k : Below a.heap.size a b) : Below w.heap.size w b := h.trans (k.mono h.size)
theorem at_new {w : World} {o : Obj} {n : Nat} (h : n = w.heap.size) : (w.alloc o).heap[n]? = some o := by subst h; exact heap_alloc_new w o
theorem at_old {w : World} {o x : Obj} {n : Nat} (h : n < w.heap.size) (k : w.heap[n]? = some x) : (w.alloc o).heap[n]? = some x := (Below.heap_alloc _ _ _ h).trans k
theorem ret_bool {a b : Bool} (h : a = b) : Ending.returned (.bool a) = .returned (.bool b) := by rw [h]
theorem own_below {W W' : World} {B e size n : Nat} {v : Value} {xs : List Value} (h : W.ownsRow B e size v n xs) (hb : Below W.heap.size W W') : W'.ownsRow B e size v n xs :=
  h.kept (row := none) ⟨hb.os, hb.tape, hb.output, hb.size, fun k hk _ => hb.block k hk⟩ (Classical.em _)
theorem row_below {W W' : World} {n : Nat} {x : Obj} (h : W.heap[n]? = some x) (hb : Below W.heap.size W W') : W'.heap[n]? = some x :=
  (hb.block n (Array.getElem?_eq_some_iff.1 h).1).trans h
def letterN (b : Nat) : Bool := decide (65 ≤ b ∧ b ≤ 90)
def digitN (b : Nat) : Bool := decide (48 ≤ b ∧ b ≤ 57)
theorem letterB_eq (c : UInt8) : letterB c = letterN c.toNat := by unfold letterB letterN; simp
theorem digitB_eq (c : UInt8) : digitB c = digitN c.toNat := by unfold digitB digitN; simp
set_option maxHeartbeats 400000 in
theorem isLetter_any (b : Nat) (hb : b < 256) (w : World) :
    Calls Tryz.prog 33 #[.int .u8 (b : Int)] w fun e w' => e = .returned (.bool (letterN b)) ∧ w' = w := by
  have hc : (65 ≤ b ∧ b ≤ 90) ∨ b < 65 ∨ (65 ≤ b ∧ 90 < b) := by omega
  rcases hc with ⟨h1, h2⟩ | h | ⟨h1, h2⟩
  · rw [show letterN b = true from decide_eq_true (by omega)]
    go_enter Tryz.func33, Tryz.ntmps33
    go_wp2
    go_ret
    exact ⟨ret_bool (by simp; omega), rfl⟩
  · rw [show letterN b = false from decide_eq_false (by omega)]
    go_enter Tryz.func33, Tryz.ntmps33
    go_wp2
    go_ret
    exact ⟨rfl, rfl⟩
  · rw [show letterN b = false from decide_eq_false (by omega)]
    go_enter Tryz.func33, Tryz.ntmps33
    go_wp2
    go_ret
    exact ⟨ret_bool (by simp; omega), rfl⟩
set_option maxHeartbeats 400000 in
theorem isDigit_any (b : Nat) (hb : b < 256) (w : World) :
    Calls Tryz.prog 34 #[.int .u8 (b : Int)] w fun e w' => e = .returned (.bool (digitN b)) ∧ w' = w := by
  have hc : (48 ≤ b ∧ b ≤ 57) ∨ b < 48 ∨ (48 ≤ b ∧ 57 < b) := by omega
  rcases hc with ⟨h1, h2⟩ | h | ⟨h1, h2⟩
  · rw [show digitN b = true from decide_eq_true (by omega)]
    go_enter Tryz.func34, Tryz.ntmps34
    go_wp2
    go_ret
    exact ⟨ret_bool (by simp; omega), rfl⟩
  · rw [show digitN b = false from decide_eq_false (by omega)]
    go_enter Tryz.func34, Tryz.ntmps34
    go_wp2
    go_ret
    exact ⟨rfl, rfl⟩
  · rw [show digitN b = false from decide_eq_false (by omega)]
    go_enter Tryz.func34, Tryz.ntmps34
    go_wp2
    go_ret
    exact ⟨ret_bool (by simp; omega), rfl⟩
/-- Which byte stands at a place. -/
def bat (s : ByteArray) (i : Nat) : Nat := (s.data.toList.getD i 0).toNat
theorem bat_at (s : ByteArray) (i : Nat) (h : i < s.size) : (s[i]'h).toNat = bat s i := by
  unfold bat
  have : i < s.data.toList.length := by simpa using h
  rw [List.getD, List.getElem?_eq_getElem this]; rfl
theorem bat_lt (s : ByteArray) (i : Nat) : bat s i < 256 := UInt8.toNat_lt _
/-- A name, by places. -/
def wordUp (s : ByteArray) : Nat → Bool
  | 0 => true
  | i + 1 => wordUp s i && (letterN (bat s i) || digitN (bat s i))
theorem wordUp_all (l : List UInt8) : ∀ i, i ≤ l.length → wordUp ⟨l.toArray⟩ i = (l.take i).all fun x => letterB x || digitB x
  | 0, _ => rfl
  | i + 1, h => by
    have hi : i < l.length := by omega
    rw [wordUp, wordUp_all l i (by omega), List.take_succ_eq_append_getElem hi, List.all_append]
    simp [letterB_eq, digitB_eq, bat, List.getD, hi]
theorem named_eq (s : ByteArray) : named s = (decide (1 ≤ s.size) && decide (s.size ≤ 16) && letterN (bat s 0) && wordUp s s.size) := by
  obtain ⟨⟨l⟩⟩ := s
  have hs : (⟨⟨l⟩⟩ : ByteArray).size = l.length := rfl
  have := wordUp_all l l.length (Nat.le_refl _)
  rw [hs]
  unfold named
  rw [hs, this, List.take_length]
  cases l with
  | nil => simp [namedL]
  | cons c r =>
    simp [namedL, letterB_eq, digitB_eq, Bool.and_assoc, bat]
    cases letterN c.toNat <;> simp
end Go.Proofs.YtpphjddljngkmaaGreatDoor

namespace Go.Proofs.YtpphjddljngkmaaGreatDoor
open Go.RowKit

theorem isEmpty_true (t : ByteArray) (h : t.size = 0) : t.toList.isEmpty = true := by
  rw [ByteArray.toList_eq, List.isEmpty_iff]; apply List.eq_nil_of_length_eq_zero; simpa using h
theorem isEmpty_false (t : ByteArray) (h : t.size ≠ 0) : t.toList.isEmpty = false := by
  rw [ByteArray.toList_eq]
  apply Bool.eq_false_iff.2
  intro e
  rw [List.isEmpty_iff] at e
  apply h
  have := congrArg List.length e
  simpa using this
theorem wordUp_step (s : ByteArray) (i : Nat) : wordUp s (i + 1) = (wordUp s i && (letterN (bat s i) || digitN (bat s i))) := rfl
theorem wordUp_stays (s : ByteArray) {i n : Nat} (h : i ≤ n) (hf : wordUp s i = false) : wordUp s n = false := by
  induction n with
  | zero => rw [← hf]; congr 1; omega
  | succ n ih =>
    rcases Nat.lt_or_ge i (n + 1) with h1 | h1
    · rw [wordUp_step, ih (by omega)]; rfl
    · rw [← hf]; congr 1; omega
set_option maxHeartbeats 400000 in
theorem named_any (s : ByteArray) (w : World) (hs : s.size ≤ maxLen) :
    Calls Tryz.prog 16 #[.string s] w fun e w' => e = .returned (.bool (named s)) ∧ w' = w := by
  unfold maxLen at hs
  have HN := hide (named_eq s)
  by_cases h0 : s.size = 0
  · have he := isEmpty_true s h0
    have HF : Hid (named s = false) := hide (by rw [unhide HN]; simp [h0])
    rw [unhide HF]
    go_enter Tryz.func16, Tryz.ntmps16
    go_wp2_with fail
    go_ret
    exact ⟨rfl, rfl⟩
  · have he := isEmpty_false s h0
    have hp : 0 < s.size := by omega
    by_cases h1 : 16 < s.size
    · have HF : Hid (named s = false) := hide (by rw [unhide HN]; simp; omega)
      rw [unhide HF]
      go_enter Tryz.func16, Tryz.ntmps16
      go_wp2_with fail
      go_ret
      exact ⟨rfl, rfl⟩
    · have h2 : s.size ≤ 16 := by omega
      have b0 := bat_at s 0 hp
      cases hl : letterN (bat s 0)
      · have HF : Hid (named s = false) := hide (by rw [unhide HN, hl]; simp)
        rw [unhide HF]
        have H0 := hide b0
        have HL := hide hl
        clear b0 hl
        go_enter Tryz.func16, Tryz.ntmps16
        go_wp2_with (go_at_call 33; rw [unhide H0]; refine (isLetter_any _ (bat_lt _ _) _).mono ?_; rintro e w ⟨rfl, rfl⟩; rw [unhide HL])
        go_ret
        exact ⟨rfl, rfl⟩
      · have HF : Hid (named s = wordUp s s.size) := hide (by rw [unhide HN, hl, decide_eq_true (show 1 ≤ s.size by omega), decide_eq_true h2]; rfl)
        rw [unhide HF]
        have H0 := hide b0
        have HL := hide hl
        clear b0 hl
        go_enter Tryz.func16, Tryz.ntmps16
        go_wp2_with (go_at_call 33; rw [unhide H0]; refine (isLetter_any _ (bat_lt _ _) _).mono ?_; rintro e w ⟨rfl, rfl⟩; rw [unhide HL])
        go_loop [19] (fun i => ∃ k : Nat, k ≤ s.size ∧ i = .int .i64 (k : Int) ∧ wordUp s k = true) (fun i => s.size - (intOf i).toNat)
        case atStart => exact ⟨0, by omega, rfl, rfl⟩
        case round =>
          obtain ⟨k, hk, rfl, hu⟩ := hrel
          have HU := hide hu
          clear hu
          rcases Nat.lt_or_ge k s.size with hkt | hkt
          · have bk := bat_at s k hkt
            have Hk := hide bk
            clear bk
            have HS := hide (wordUp_step s k)
            cases hl : letterN (bat s k)
            · cases hd : digitN (bat s k)
              · have HW : Hid (wordUp s s.size = false) := hide (wordUp_stays s (show k + 1 ≤ s.size by omega) (by rw [unhide HS, hl, hd]; simp))
                have HL := hide hl
                have HD := hide hd
                clear hl hd
                go_wp2_with (first | (go_at_call 33; rw [unhide Hk]; refine (isLetter_any _ (bat_lt _ _) _).mono ?_; rintro e w ⟨rfl, rfl⟩; rw [unhide HL]) | (go_at_call 34; rw [unhide Hk]; refine (isDigit_any _ (bat_lt _ _) _).mono ?_; rintro e w ⟨rfl, rfl⟩; rw [unhide HD]))
                go_ret
                exact ⟨by rw [unhide HW]; rfl, rfl⟩
              · have HW : Hid (wordUp s (k + 1) = true) := hide (by rw [unhide HS, unhide HU, hl, hd]; rfl)
                have HL := hide hl
                have HD := hide hd
                clear hl hd
                go_wp2_with (first | (go_at_call 33; rw [unhide Hk]; refine (isLetter_any _ (bat_lt _ _) _).mono ?_; rintro e w ⟨rfl, rfl⟩; rw [unhide HL]) | (go_at_call 34; rw [unhide Hk]; refine (isDigit_any _ (bat_lt _ _) _).mono ?_; rintro e w ⟨rfl, rfl⟩; rw [unhide HD]))
                exact ⟨⟨k + 1, by omega, rfl, unhide HW⟩, by simp [intOf]; omega⟩
            · have HW : Hid (wordUp s (k + 1) = true) := hide (by rw [unhide HS, unhide HU, hl]; rfl)
              have HL := hide hl
              clear hl
              go_wp2_with (first | (go_at_call 33; rw [unhide Hk]; refine (isLetter_any _ (bat_lt _ _) _).mono ?_; rintro e w ⟨rfl, rfl⟩; rw [unhide HL]))
              exact ⟨⟨k + 1, by omega, rfl, unhide HW⟩, by simp [intOf]; omega⟩
          · have hk' : k = s.size := by omega
            subst hk'
            go_wp2_with fail
            go_ret
            exact ⟨by rw [unhide HU]; rfl, rfl⟩
theorem named_loop (s : ByteArray) (h : s.size ≤ 16) (h1 : 1 ≤ s.size) (hw : letterN (bat s 0) = true) (hu : wordUp s s.size = true) : named s = true := by
  rw [named_eq, hw, hu]; simp [h, h1]
theorem named_not (s : ByteArray) (k : Nat) (hk : k < s.size) (hl : letterN (bat s k) = false) (hd : k = 0 ∨ digitN (bat s k) = false) : named s = false := by
  rw [named_eq]
  rcases hd with rfl | hd
  · rw [hl]; simp
  · rw [wordUp_stays s (show k + 1 ≤ s.size by omega) (by rw [wordUp_step, hl, hd]; simp)]; simp
set_option maxHeartbeats 400000 in
theorem refNamed_any (s : ByteArray) (w : World) (hs : s.size ≤ maxLen) :
    Calls Tryz.prog 22 #[.string s] w fun e w' => e = .returned (.bool (named s)) ∧ Below w.heap.size w w' := by
  unfold maxLen at hs
  have hcv := fun W => run_bytes_of_string (P := Tryz.prog) W 9 50 5 s Tryz.underlying9 Tryz.underlying50 Tryz.underlying5
  go_enter Tryz.func22, Tryz.ntmps22
  go_wp2
  generalize grownCap w s.size 0 5 = G
  obtain ⟨W0, hW0⟩ : ∃ W0, W0 = (w.alloc (.cells (bytesRow s G) 5 ((bytesRow s G).size, (bytesRow s G).size + 1))).drew := ⟨_, rfl⟩
  rw [← hW0]
  have q2 : W0.heap[w.heap.size]? = some (.cells (bytesRow s G) 5 ((bytesRow s G).size, (bytesRow s G).size + 1)) := by rw [hW0, heap_drew]; exact at_new rfl
  have QB : Hid (Below w.heap.size w W0) := hide (by rw [hW0]; exact (ba _).drew)
  have HB := hide (bytesRow_at s G)
  clear hW0 hcv
  generalize bytesRow s G = R at *
  have Q2 := hide q2
  clear q2
  go_loop [10] (fun i => ∃ k : Nat, k ≤ s.size ∧ i = .int .i64 (k : Int) ∧ wordUp s k = true ∧ (0 < k → letterN (bat s 0) = true)) (fun i => s.size - (intOf i).toNat)
  case atStart => exact ⟨0, by omega, rfl, rfl, fun h => by omega⟩
  case round =>
    obtain ⟨k, hk, rfl, hu, hf⟩ := hrel
    have HU := hide hu
    have HF := hide hf
    clear hu hf
    rcases Nat.lt_or_ge k s.size with hlt | hge
    · have c2 : W0.cell? ⟨w.heap.size, k, none⟩ = some (.int .u8 (bat s k : Int)) := by rw [cell_of_row W0 _ _ _ _ _ (unhide Q2), unhide HB k hlt, ← bat_at s k hlt]; rfl
      have hb := bat_lt s k
      have HNot := hide (named_not s k hlt)
      have HS := hide (wordUp_step s k)
      have HL : Hid (letterN (bat s k) = decide (65 ≤ bat s k ∧ bat s k ≤ 90)) := hide (rfl)
      have HD : Hid (digitN (bat s k) = decide (48 ≤ bat s k ∧ bat s k ≤ 57)) := hide (rfl)
      have H0 : Hid (∀ x, bat s k = x → k = 0 → bat s 0 = x) := hide (fun x h e => by rw [← h, e])
      generalize hbk : bat s k = b at *
      have HBK := hide hbk
      clear hbk
      have hc : (65 ≤ b ∧ b ≤ 90) ∨ (48 ≤ b ∧ b ≤ 57 ∧ 0 < k) ∨ (48 ≤ b ∧ b ≤ 57 ∧ k = 0) ∨ b < 48 ∨ (57 < b ∧ b < 65) ∨ 90 < b := by omega
      rcases hc with ⟨h1, h2⟩ | ⟨h1, h2, h3⟩ | ⟨h1, h2, h3⟩ | h | ⟨h1, h2⟩ | h
      · have HW : Hid (wordUp s (k + 1) = true) := hide (by rw [unhide HS, unhide HU, unhide HL, decide_eq_true ⟨h1, h2⟩]; rfl)
        have HX : Hid (letterN (bat s 0) = true) := hide (by
          rcases Nat.eq_zero_or_pos k with h | h
          · rw [unhide H0 b rfl h, unhide HL, decide_eq_true ⟨h1, h2⟩]
          · exact unhide HF h)
        have h3 : 48 ≤ b := by omega
        have h4 : ¬ b ≤ 57 := by omega
        go_wp2
        exact ⟨⟨k + 1, by omega, rfl, unhide HW, fun _ => unhide HX⟩, by simp [intOf]; omega⟩
      · have HW : Hid (wordUp s (k + 1) = true) := hide (by rw [unhide HS, unhide HU, unhide HD, decide_eq_true ⟨h1, h2⟩]; simp)
        have h4 : ¬ 65 ≤ b := by omega
        go_wp2
        exact ⟨⟨k + 1, by omega, rfl, unhide HW, fun _ => unhide HF h3⟩, by simp [intOf]; omega⟩
      · have HW : Hid (named s = false) := hide (unhide HNot (by rw [unhide HL]; exact decide_eq_false (by omega)) (.inl h3))
        have h4 : ¬ 65 ≤ b := by omega
        subst h3
        go_wp2
        go_ret
        exact ⟨by rw [unhide HW]; rfl, unhide QB⟩
      · have HW : Hid (named s = false) := hide (unhide HNot (by rw [unhide HL]; exact decide_eq_false (by omega)) (.inr (by rw [unhide HD]; exact decide_eq_false (by omega))))
        have h4 : ¬ 65 ≤ b := by omega
        go_wp2
        go_ret
        exact ⟨by rw [unhide HW]; rfl, unhide QB⟩
      · have HW : Hid (named s = false) := hide (unhide HNot (by rw [unhide HL]; exact decide_eq_false (by omega)) (.inr (by rw [unhide HD]; exact decide_eq_false (by omega))))
        have h4 : 48 ≤ b := by omega
        go_wp2
        go_ret
        exact ⟨by rw [unhide HW]; rfl, unhide QB⟩
      · have HW : Hid (named s = false) := hide (unhide HNot (by rw [unhide HL]; exact decide_eq_false (by omega)) (.inr (by rw [unhide HD]; exact decide_eq_false (by omega))))
        have h4 : 48 ≤ b := by omega
        have h5 : 65 ≤ b := by omega
        have h6 : ¬ b ≤ 57 := by omega
        have h7 : ¬ b ≤ 90 := by omega
        have h8 : ¬ (b : Int) ≤ 90 := by omega
        have h9 : ¬ (b : Int) ≤ 57 := by omega
        have e8 : decide ((b : Int) ≤ 90) = false := decide_eq_false h8
        have e9 : decide ((b : Int) ≤ 57) = false := decide_eq_false h9
        clear h
        go_wp2
        go_ret
        exact ⟨by rw [unhide HW]; rfl, unhide QB⟩
    · have hk' : k = s.size := by omega
      subst hk'
      rcases Nat.eq_zero_or_pos s.size with h0 | h0
      · have HW : Hid (named s = false) := hide (by rw [named_eq, h0]; rfl)
        have h1 : ¬ (1 : Int) ≤ (s.size : Int) := by omega
        go_wp2
        go_ret
        exact ⟨by rw [unhide HW]; rfl, unhide QB⟩
      · have HW : Hid (named s = decide ((s.size : Int) ≤ 16)) := hide (by
          rcases Nat.lt_or_ge 16 s.size with h | h
          · rw [named_eq, decide_eq_false (show ¬ s.size ≤ 16 by omega), decide_eq_false (show ¬ (s.size : Int) ≤ 16 by omega)]; simp
          · rw [named_loop s h h0 (unhide HF h0) (unhide HU), decide_eq_true (show (s.size : Int) ≤ 16 by omega)])
        have h1 : (1 : Int) ≤ (s.size : Int) := by omega
        go_wp2
        go_ret
        exact ⟨by rw [unhide HW]; rfl, unhide QB⟩
end Go.Proofs.YtpphjddljngkmaaGreatDoor
