/- Patterns as trees: how many nodes, how deep, all nodes ahead of their kids, what is wrong first, names. Small facts; letters, digits and names. -/
import Derived.WalkKit
import Derived.Below
import Derived.WalkSpells
import Derived.Test.YtpkmamgleofimaaGreatDoorRows
import Derived.WalkLawsBesides
import Derived.WalkSmall
import Derived.Deep.WholeRow
import Derived.Deep.QuietTactic
import Derived.BigQuiet
namespace Go.Proofs.YtpkmamgleofimaaGreatDoor
open Go.RowKit

structure PT where
  node ::
  k : Int
  t : ByteArray
  n : Int
  nm : ByteArray
  xa : Option Addr
  b : Nat
  o : Nat
  len : Nat
  cap : Nat
  kids : Fin len → PT
def PT.nul : PT := ⟨0, ByteArray.empty, 0, ByteArray.empty, none, 0, 0, 0, 0, fun i => i.elim0⟩
def PT.kid (T : PT) (i : Nat) : PT := if h : i < T.len then T.kids ⟨i, h⟩ else PT.nul
theorem PT.kid_at {T : PT} {i : Nat} (h : i < T.len) : T.kid i = T.kids ⟨i, h⟩ := dif_pos h
theorem PT.ind {P : PT → Prop} (h : ∀ T : PT, (∀ i, i < T.len → P (T.kid i)) → P T) : ∀ T, P T
  | .node k t n nm xa b o len cap kids => h _ fun i hi => by
    rw [PT.kid_at (T := .node k t n nm xa b o len cap kids) hi]
    exact PT.ind h (kids ⟨i, hi⟩)
def PT.kv (T : PT) : Value := .slice T.xa T.len T.cap
def kf {α : Type} (n : Nat) (d : α) (f : Fin n → α) (i : Nat) : α := if h : i < n then f ⟨i, h⟩ else d
theorem kf_at {α : Type} {n : Nat} {d : α} {f : Fin n → α} {i : Nat} (h : i < n) : kf n d f i = f ⟨i, h⟩ := dif_pos h
def PT.In (w : World) : PT → Prop
  | .node k t n nm xa b o len cap kids => (-9223372036854775808 ≤ k ∧ k ≤ 9223372036854775807) ∧ t.size ≤ maxLen ∧ (-9223372036854775808 ≤ n ∧ n ≤ 9223372036854775807) ∧ nm.size ≤ maxLen ∧
      len ≤ maxLen ∧ len ≤ cap ∧ (0 < len → xa = some ⟨b, o, none⟩) ∧
      ∀ i : Fin len, (w.cell? ⟨b, o + i.val * 5, none⟩ = some (.int .i64 (kids i).k) ∧ w.cell? ⟨b, o + i.val * 5 + 1, none⟩ = some (.string (kids i).t) ∧ w.cell? ⟨b, o + i.val * 5 + 2, none⟩ = some (.int .i64 (kids i).n) ∧ w.cell? ⟨b, o + i.val * 5 + 3, none⟩ = some (.string (kids i).nm) ∧ w.cell? ⟨b, o + i.val * 5 + 4, none⟩ = some (kids i).kv) ∧ PT.In w (kids i)
theorem PT.In.kids {w : World} {T : PT} (h : T.In w) {i : Nat} (hi : i < T.len) : (T.kid i).In w := by
  rw [PT.kid_at hi]
  cases T; exact (h.2.2.2.2.2.2.2 ⟨i, hi⟩).2
theorem PT.In.cells {w : World} {T : PT} (h : T.In w) {i : Nat} (hi : i < T.len) :
    w.cell? ⟨T.b, T.o + i * 5, none⟩ = some (.int .i64 (T.kid i).k) ∧ w.cell? ⟨T.b, T.o + i * 5 + 1, none⟩ = some (.string (T.kid i).t) ∧ w.cell? ⟨T.b, T.o + i * 5 + 2, none⟩ = some (.int .i64 (T.kid i).n) ∧ w.cell? ⟨T.b, T.o + i * 5 + 3, none⟩ = some (.string (T.kid i).nm) ∧ w.cell? ⟨T.b, T.o + i * 5 + 4, none⟩ = some (T.kid i).kv := by
  rw [PT.kid_at hi]
  cases T; exact (h.2.2.2.2.2.2.2 ⟨i, hi⟩).1
theorem PT.In.addr {w : World} {T : PT} (h : T.In w) (hi : 0 < T.len) : T.xa = some ⟨T.b, T.o, none⟩ := by
  cases T; exact h.2.2.2.2.2.2.1 hi
theorem PT.In.max {w : World} {T : PT} (h : T.In w) : T.len ≤ maxLen := by cases T; exact h.2.2.2.2.1
theorem PT.In.name {w : World} {T : PT} (h : T.In w) : T.nm.size ≤ maxLen := by cases T; exact h.2.2.2.1
theorem PT.In.later {w w' : World} (hb : Below w.heap.size w w') : ∀ {T : PT}, T.In w → T.In w'
  | .node k t n nm xa b o len cap kids, h => by
    have ih := fun i => PT.In.later hb (T := kids i)
    refine ⟨h.1, h.2.1, h.2.2.1, h.2.2.2.1, h.2.2.2.2.1, h.2.2.2.2.2.1, h.2.2.2.2.2.2.1, fun i => ?_⟩
    obtain ⟨⟨c0, c1, c2, c3, c4⟩, hk⟩ := h.2.2.2.2.2.2.2 i
    exact ⟨⟨cell_later hb c0, cell_later hb c1, cell_later hb c2, cell_later hb c3, cell_later hb c4⟩, ih i hk⟩
def sumTo (f : Nat → Nat) : Nat → Nat
  | 0 => 0
  | n + 1 => sumTo f n + f n
def maxTo (f : Nat → Nat) : Nat → Nat
  | 0 => 0
  | n + 1 => max (maxTo f n) (f n)
def firstTo (f : Nat → Int) : Nat → Int
  | 0 => 0
  | n + 1 => if firstTo f n = 0 then f n else firstTo f n
def flatTo {α : Type} (f : Nat → List α) : Nat → List α
  | 0 => []
  | n + 1 => flatTo f n ++ f n
theorem sumTo_congr {f g : Nat → Nat} : ∀ n, (∀ i, i < n → f i = g i) → sumTo f n = sumTo g n
  | 0, _ => rfl
  | n + 1, h => by rw [sumTo, sumTo, sumTo_congr n fun i hi => h i (by omega), h n (by omega)]
theorem maxTo_congr {f g : Nat → Nat} : ∀ n, (∀ i, i < n → f i = g i) → maxTo f n = maxTo g n
  | 0, _ => rfl
  | n + 1, h => by rw [maxTo, maxTo, maxTo_congr n fun i hi => h i (by omega), h n (by omega)]
theorem firstTo_congr {f g : Nat → Int} : ∀ n, (∀ i, i < n → f i = g i) → firstTo f n = firstTo g n
  | 0, _ => rfl
  | n + 1, h => by rw [firstTo, firstTo, firstTo_congr n fun i hi => h i (by omega), h n (by omega)]
theorem flatTo_congr {α : Type} {f g : Nat → List α} : ∀ n, (∀ i, i < n → f i = g i) → flatTo f n = flatTo g n
  | 0, _ => rfl
  | n + 1, h => by rw [flatTo, flatTo, flatTo_congr n fun i hi => h i (by omega), h n (by omega)]
def PT.cnt : PT → Nat
  | .node _ _ _ _ _ _ _ len _ kids => 1 + sumTo (kf len 1 fun i => PT.cnt (kids i)) len
def PT.dep : PT → Nat
  | .node _ _ _ _ _ _ _ len _ kids => 1 + maxTo (kf len 1 fun i => PT.dep (kids i)) len
def PT.all : PT → List PT
  | .node k t n nm xa b o len cap kids => .node k t n nm xa b o len cap kids :: flatTo (kf len [] fun i => PT.all (kids i)) len
theorem PT.cnt_eq (T : PT) : T.cnt = 1 + sumTo (fun i => (T.kid i).cnt) T.len := by
  obtain ⟨k, t, n, nm, xa, b, o, len, cap, kids⟩ := T
  exact congrArg (1 + ·) (sumTo_congr len fun i hi => by rw [kf_at hi, PT.kid_at (T := .node k t n nm xa b o len cap kids) hi])
theorem PT.dep_eq (T : PT) : T.dep = 1 + maxTo (fun i => (T.kid i).dep) T.len := by
  obtain ⟨k, t, n, nm, xa, b, o, len, cap, kids⟩ := T
  exact congrArg (1 + ·) (maxTo_congr len fun i hi => by rw [kf_at hi, PT.kid_at (T := .node k t n nm xa b o len cap kids) hi])
theorem PT.all_eq (T : PT) : T.all = T :: flatTo (fun i => (T.kid i).all) T.len := by
  obtain ⟨k, t, n, nm, xa, b, o, len, cap, kids⟩ := T
  exact congrArg (_ :: ·) (flatTo_congr len fun i hi => by rw [kf_at hi, PT.kid_at (T := .node k t n nm xa b o len cap kids) hi])
theorem PT.dep_pos (T : PT) : 0 < T.dep := by rw [T.dep_eq]; omega
theorem sumTo_le (f : Nat → Nat) {i n : Nat} (h : i ≤ n) : sumTo f i ≤ sumTo f n := by
  induction n with
  | zero => rw [Nat.le_zero.1 h]; exact Nat.le_refl _
  | succ n ih =>
    rcases Nat.lt_or_ge i (n + 1) with h1 | h1
    · have := ih (by omega)
      simp only [sumTo]; omega
    · rw [show i = n + 1 by omega]; exact Nat.le_refl _
theorem maxTo_le (f : Nat → Nat) {i n : Nat} (h : i ≤ n) : maxTo f i ≤ maxTo f n := by
  induction n with
  | zero => rw [Nat.le_zero.1 h]; exact Nat.le_refl _
  | succ n ih =>
    rcases Nat.lt_or_ge i (n + 1) with h1 | h1
    · have := ih (by omega)
      simp only [maxTo]; omega
    · rw [show i = n + 1 by omega]; exact Nat.le_refl _
def letterB (c : UInt8) : Bool := decide (65 ≤ c.toNat) && decide (c.toNat ≤ 90)
def digitB (c : UInt8) : Bool := decide (48 ≤ c.toNat) && decide (c.toNat ≤ 57)
def namedL : List UInt8 → Bool
  | [] => false
  | c :: r => letterB c && r.all fun x => letterB x || digitB x
def named (s : ByteArray) : Bool := decide (s.size ≤ 16) && namedL s.data.toList
def hasK (k : Int) : Int := if k = 1 ∨ (3 ≤ k ∧ k ≤ 7) then 1 else if k = 2 ∨ (8 ≤ k ∧ k ≤ 11) then 2 else if 21 ≤ k ∧ k ≤ 24 then 3 else 0
def leastK (k : Int) : Int := if k = 18 ∨ k = 19 then 2 else if 20 ≤ k ∧ k ≤ 22 then 1 else 0
def mostK (k : Int) : Int := if k = 18 ∨ k = 19 then 4096 else if 20 ≤ k ∧ k ≤ 22 then 1 else 0
def errN (T : PT) : Int :=
  if T.k < 1 ∨ 24 < T.k then 1
  else if hasK T.k = 1 ∧ 65536 < T.t.size then 4
  else if hasK T.k = 1 ∧ T.k ≠ 1 ∧ T.t.size = 0 then 8
  else if hasK T.k = 2 ∧ (T.n < 0 ∨ 65536 < T.n) then 3
  else if hasK T.k = 3 ∧ named T.nm = false then 7
  else if (T.len : Int) < leastK T.k ∨ mostK T.k < T.len then 5
  else 0
def PT.bad : PT → Int
  | .node k t n nm xa b o len cap kids => if errN (.node k t n nm xa b o len cap kids) = 0 then firstTo (kf len 0 fun i => PT.bad (kids i)) len else errN (.node k t n nm xa b o len cap kids)
theorem PT.bad_eq (T : PT) : T.bad = if errN T = 0 then firstTo (fun i => (T.kid i).bad) T.len else errN T := by
  obtain ⟨k, t, n, nm, xa, b, o, len, cap, kids⟩ := T
  have h := firstTo_congr (f := kf len 0 fun i => PT.bad (kids i)) (g := fun i => ((PT.node k t n nm xa b o len cap kids).kid i).bad) len fun i hi => by rw [kf_at hi, PT.kid_at (T := .node k t n nm xa b o len cap kids) hi]
  show (if errN _ = 0 then firstTo (kf len 0 fun i => PT.bad (kids i)) len else errN _) = _
  rw [h]
def PT.fits (T : PT) : Bool := decide (T.cnt ≤ 4096) && decide (T.dep ≤ 200)
def PT.wrong (T : PT) : Int := if T.fits then T.bad else 4
end Go.Proofs.YtpkmamgleofimaaGreatDoor

namespace Go.Proofs.YtpkmamgleofimaaGreatDoor
open Go.RowKit

theorem hide {p : Prop} (h : p) : Hid p := h
theorem unhide {p : Prop} (h : Hid p) : p := h
theorem bn {α : Type} [BEq α] [LawfulBEq α] {a b : α} (h : ¬ a = b := by omega) : (a == b) = false := beq_eq_false_iff_ne.2 h
theorem bt {α : Type} [BEq α] [LawfulBEq α] {a b : α} (h : a = b := by omega) : (a == b) = true := beq_iff_eq.2 h
theorem cr {w : World} {g j : Nat} {cs : Array Value} {t : TypeId} {fr : Nat × Nat} {v : Option Value} (hg : w.heap[g]? = some (.cells cs t fr)) (e : cs[j]? = v := by rfl) : w.cell? ⟨g, j, none⟩ = v := (cell_of_row _ _ _ _ _ _ hg).trans e
theorem ba {w : World} (o : Obj) : Below w.heap.size w (w.alloc o) := (Below.refl _ _).alloc (Nat.le_refl _) o
theorem bnext {w a b : World} (h : Below w.heap.size w a) (k : Below a.heap.size a b) : Below w.heap.size w b := h.trans (k.mono h.size)
theorem bnext2 {w a b : World} (h : Below w.heap.size w a) (k : Below a.heap.size a b) : Below w.heap.size w b := h.trans (k.mono h.size)
theorem at_new {w : World} {o : Obj} {n : Nat} (h : n = w.heap.size) : (w.alloc o).heap[n]? = some o := by subst h; exact heap_alloc_new w o
theorem at_old {w : World} {o x : Obj} {n : Nat} (h : n < w.heap.size) (k : w.heap[n]? = some x) : (w.alloc o).heap[n]? = some x := (Below.heap_alloc _ _ _ h).trans k
theorem ret_bool {a b : Bool} (h : a = b) : Ending.returned (.bool a) = .returned (.bool b) := by rw [h]
theorem below_setRow {B : Nat} {a w : World} (h : Below B a w) (g : Nat) (hg : B ≤ g) (cs : Array Value) : Below B a (w.setRow g cs) :=
  ⟨h.os, h.tape, h.output, by simpa using h.size, fun k hk => (setRow_other w g k cs (by omega)).trans (h.block k hk)⟩
theorem own_below {W W' : World} {B e size n : Nat} {v : Value} {xs : List Value} (h : W.ownsRow B e size v n xs) (hb : Below W.heap.size W W') : W'.ownsRow B e size v n xs :=
  h.kept (row := none) ⟨hb.os, hb.tape, hb.output, hb.size, fun k hk _ => hb.block k hk⟩ (Classical.em _)
theorem row_below {W W' : World} {n : Nat} {x : Obj} (h : W.heap[n]? = some x) (hb : Below W.heap.size W W') : W'.heap[n]? = some x :=
  (hb.block n (Array.getElem?_eq_some_iff.1 h).1).trans h
def letterN (b : Nat) : Bool := decide (65 ≤ b ∧ b ≤ 90)
def digitN (b : Nat) : Bool := decide (48 ≤ b ∧ b ≤ 57)
theorem letterB_eq (c : UInt8) : letterB c = letterN c.toNat := by unfold letterB letterN; simp
theorem digitB_eq (c : UInt8) : digitB c = digitN c.toNat := by unfold digitB digitN; simp
set_option maxHeartbeats 400000 in
theorem isLetter_any (b : Nat) (hb : b < 256) (w : World) :
    Calls Tryz.prog 91 #[.int .u8 (b : Int)] w fun e w' => e = .returned (.bool (letterN b)) ∧ w' = w := by
  have hc : (65 ≤ b ∧ b ≤ 90) ∨ b < 65 ∨ (65 ≤ b ∧ 90 < b) := by omega
  rcases hc with ⟨h1, h2⟩ | h | ⟨h1, h2⟩
  · rw [show letterN b = true from decide_eq_true (by omega)]
    go_enter Tryz.func91, Tryz.ntmps91
    go_wp2
    go_ret
    exact ⟨ret_bool (by simp; omega), rfl⟩
  · rw [show letterN b = false from decide_eq_false (by omega)]
    go_enter Tryz.func91, Tryz.ntmps91
    go_wp2
    go_ret
    exact ⟨rfl, rfl⟩
  · rw [show letterN b = false from decide_eq_false (by omega)]
    go_enter Tryz.func91, Tryz.ntmps91
    go_wp2
    go_ret
    exact ⟨ret_bool (by simp; omega), rfl⟩
set_option maxHeartbeats 400000 in
theorem isDigit_any (b : Nat) (hb : b < 256) (w : World) :
    Calls Tryz.prog 92 #[.int .u8 (b : Int)] w fun e w' => e = .returned (.bool (digitN b)) ∧ w' = w := by
  have hc : (48 ≤ b ∧ b ≤ 57) ∨ b < 48 ∨ (48 ≤ b ∧ 57 < b) := by omega
  rcases hc with ⟨h1, h2⟩ | h | ⟨h1, h2⟩
  · rw [show digitN b = true from decide_eq_true (by omega)]
    go_enter Tryz.func92, Tryz.ntmps92
    go_wp2
    go_ret
    exact ⟨ret_bool (by simp; omega), rfl⟩
  · rw [show digitN b = false from decide_eq_false (by omega)]
    go_enter Tryz.func92, Tryz.ntmps92
    go_wp2
    go_ret
    exact ⟨rfl, rfl⟩
  · rw [show digitN b = false from decide_eq_false (by omega)]
    go_enter Tryz.func92, Tryz.ntmps92
    go_wp2
    go_ret
    exact ⟨ret_bool (by simp; omega), rfl⟩
def bat (s : ByteArray) (i : Nat) : Nat := (s.data.toList.getD i 0).toNat
theorem bat_at (s : ByteArray) (i : Nat) (h : i < s.size) : (s[i]'h).toNat = bat s i := by
  unfold bat
  have : i < s.data.toList.length := by simpa using h
  rw [List.getD, List.getElem?_eq_getElem this]; rfl
theorem bat_lt (s : ByteArray) (i : Nat) : bat s i < 256 := UInt8.toNat_lt _
def wordUp (s : ByteArray) : Nat → Bool
  | 0 => true
  | i + 1 => wordUp s i && (letterN (bat s i) || digitN (bat s i))
theorem wordUp_all (l : List UInt8) : ∀ i, i ≤ l.length → wordUp ⟨l.toArray⟩ i = (l.take i).all fun x => letterB x || digitB x
  | 0, _ => rfl
  | i + 1, h => by
    have hi : i < l.length := by omega
    rw [wordUp, wordUp_all l i (by omega), List.take_succ_eq_append_getElem hi, List.all_append]
    simp [letterB_eq, digitB_eq, bat, List.getD, hi]
theorem named_eq (s : ByteArray) : named s = (decide (1 ≤ s.size) && decide (s.size ≤ 16) && letterN (bat s 0) && wordUp s s.size) := by
  obtain ⟨⟨l⟩⟩ := s
  have hs : (⟨⟨l⟩⟩ : ByteArray).size = l.length := rfl
  have := wordUp_all l l.length (Nat.le_refl _)
  rw [hs]
  unfold named
  rw [hs, this, List.take_length]
  cases l with
  | nil => simp [namedL]
  | cons c r =>
    simp [namedL, letterB_eq, digitB_eq, Bool.and_assoc, bat]
    cases letterN c.toNat <;> simp
end Go.Proofs.YtpkmamgleofimaaGreatDoor
