/- Small facts; letters, digits and names. -/
import Derived.Test.YtpphjddljngkmaaDoorRows
import Derived.Test.YtpphjddljngkmaaDoorPatPlainP
import Derived.WalkKit
import Derived.WalkSpells
import Derived.WalkLawsBesides
import Derived.WalkSmall
import Derived.Deep.WholeRow
import Derived.Deep.QuietTactic
import Derived.BigQuiet
namespace Go.Proofs.YtpphjddljngkmaaDoor
open Go.RowKit

theorem hide {p : Prop} (h : p) : Hid p := h
theorem unhide {p : Prop} (h : Hid p) : p := h
theorem bn {α : Type} [BEq α] [LawfulBEq α] {a b : α} (h : ¬ a = b := by omega) : (a == b) = false := beq_eq_false_iff_ne.2 h
theorem bt {α : Type} [BEq α] [LawfulBEq α] {a b : α} (h : a = b := by omega) : (a == b) = true := beq_iff_eq.2 h
theorem cr {w : World} {g j : Nat} {cs : Array Value} {t : TypeId} {fr : Nat × Nat} {v : Option Value} (hg : w.heap[g]? = some (.cells cs t fr)) (e : cs[j]? = v := by rfl) : w.cell? ⟨g, j, none⟩ = v := (cell_of_row _ _ _ _ _ _ hg).trans e
theorem ba {w : World} (o : Obj) : Below w.heap.size w (w.alloc o) := (Below.refl _ _).alloc (Nat.le_refl _) o
theorem bnext {w a b : World} (h : Below w.heap.size w a) (k : Below a.heap.size a b) : Below w.heap.size w b := h.trans (k.mono h.size)
theorem bnext2 {w a b : World} (h : Below w.heap.size w a) (k : Below a.heap.size a b) : Below w.heap.size w b := h.trans (k.mono h.size)
theorem at_new {w : World} {o : Obj} {n : Nat} (h : n = w.heap.size) : (w.alloc o).heap[n]? = some o := by subst h; exact heap_alloc_new w o
theorem at_old {w : World} {o x : Obj} {n : Nat} (h : n < w.heap.size) (k : w.heap[n]? = some x) : (w.alloc o).heap[n]? = some x := (Below.heap_alloc _ _ _ h).trans k
theorem ret_bool {a b : Bool} (h : a = b) : Ending.returned (.bool a) = .returned (.bool b) := by rw [h]
theorem own_below {W W' : World} {B e size n : Nat} {v : Value} {xs : List Value} (h : W.ownsRow B e size v n xs) (hb : Below W.heap.size W W') : W'.ownsRow B e size v n xs :=
  h.kept (row := none) ⟨hb.os, hb.tape, hb.output, hb.size, fun k hk _ => hb.block k hk⟩ (Classical.em _)
theorem row_below {W W' : World} {n : Nat} {x : Obj} (h : W.heap[n]? = some x) (hb : Below W.heap.size W W') : W'.heap[n]? = some x :=
  (hb.block n (Array.getElem?_eq_some_iff.1 h).1).trans h
def letterN (b : Nat) : Bool := decide (65 ≤ b ∧ b ≤ 90)
def digitN (b : Nat) : Bool := decide (48 ≤ b ∧ b ≤ 57)
theorem letterB_eq (c : UInt8) : letterB c = letterN c.toNat := by unfold letterB letterN; simp
theorem digitB_eq (c : UInt8) : digitB c = digitN c.toNat := by unfold digitB digitN; simp
set_option maxHeartbeats 400000 in
theorem isLetter_any (b : Nat) (hb : b < 256) (w : World) :
    Calls Tryd.prog 61 #[.int .u8 (b : Int)] w fun e w' => e = .returned (.bool (letterN b)) ∧ w' = w := by
  have hc : (65 ≤ b ∧ b ≤ 90) ∨ b < 65 ∨ (65 ≤ b ∧ 90 < b) := by omega
  rcases hc with ⟨h1, h2⟩ | h | ⟨h1, h2⟩
  · rw [show letterN b = true from decide_eq_true (by omega)]
    go_enter Tryd.func61, Tryd.ntmps61
    go_wp2
    go_ret
    exact ⟨ret_bool (by simp; omega), rfl⟩
  · rw [show letterN b = false from decide_eq_false (by omega)]
    go_enter Tryd.func61, Tryd.ntmps61
    go_wp2
    go_ret
    exact ⟨rfl, rfl⟩
  · rw [show letterN b = false from decide_eq_false (by omega)]
    go_enter Tryd.func61, Tryd.ntmps61
    go_wp2
    go_ret
    exact ⟨ret_bool (by simp; omega), rfl⟩
set_option maxHeartbeats 400000 in
theorem isDigit_any (b : Nat) (hb : b < 256) (w : World) :
    Calls Tryd.prog 62 #[.int .u8 (b : Int)] w fun e w' => e = .returned (.bool (digitN b)) ∧ w' = w := by
  have hc : (48 ≤ b ∧ b ≤ 57) ∨ b < 48 ∨ (48 ≤ b ∧ 57 < b) := by omega
  rcases hc with ⟨h1, h2⟩ | h | ⟨h1, h2⟩
  · rw [show digitN b = true from decide_eq_true (by omega)]
    go_enter Tryd.func62, Tryd.ntmps62
    go_wp2
    go_ret
    exact ⟨ret_bool (by simp; omega), rfl⟩
  · rw [show digitN b = false from decide_eq_false (by omega)]
    go_enter Tryd.func62, Tryd.ntmps62
    go_wp2
    go_ret
    exact ⟨rfl, rfl⟩
  · rw [show digitN b = false from decide_eq_false (by omega)]
    go_enter Tryd.func62, Tryd.ntmps62
    go_wp2
    go_ret
    exact ⟨ret_bool (by simp; omega), rfl⟩
/-- Which byte stands at a place. -/
def bat (s : ByteArray) (i : Nat) : Nat := (s.data.toList.getD i 0).toNat
theorem bat_at (s : ByteArray) (i : Nat) (h : i < s.size) : (s[i]'h).toNat = bat s i := by
  unfold bat
  have : i < s.data.toList.length := by simpa using h
  rw [List.getD, List.getElem?_eq_getElem this]; rfl
theorem bat_lt (s : ByteArray) (i : Nat) : bat s i < 256 := UInt8.toNat_lt _
/-- A name, by places. -/
def wordUp (s : ByteArray) : Nat → Bool
  | 0 => true
  | i + 1 => wordUp s i && (letterN (bat s i) || digitN (bat s i))
theorem wordUp_all (l : List UInt8) : ∀ i, i ≤ l.length → wordUp ⟨l.toArray⟩ i = (l.take i).all fun x => letterB x || digitB x
  | 0, _ => rfl
  | i + 1, h => by
    have hi : i < l.length := by omega
    rw [wordUp, wordUp_all l i (by omega), List.take_succ_eq_append_getElem hi, List.all_append]
    simp [letterB_eq, digitB_eq, bat, List.getD, hi]
theorem named_eq (s : ByteArray) : named s = (decide (1 ≤ s.size) && decide (s.size ≤ 16) && letterN (bat s 0) && wordUp s s.size) := by
  obtain ⟨⟨l⟩⟩ := s
  have hs : (⟨⟨l⟩⟩ : ByteArray).size = l.length := rfl
  have := wordUp_all l l.length (Nat.le_refl _)
  rw [hs]
  unfold named
  rw [hs, this, List.take_length]
  cases l with
  | nil => simp [namedL]
  | cons c r =>
    simp [namedL, letterB_eq, digitB_eq, Bool.and_assoc, bat]
    cases letterN c.toNat <;> simp
end Go.Proofs.YtpphjddljngkmaaDoor
