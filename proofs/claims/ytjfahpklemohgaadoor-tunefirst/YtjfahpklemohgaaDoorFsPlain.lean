/- With which bytes a pattern may begin, and whether it may be empty: what is said of it. -/
import Derived.Test.YtjfahpklemohgaaDoorExtPlain
namespace Go.Proofs.YtjfahpklemohgaaDoor
open Go.RowKit

/-- The bytes it may begin with; may it be empty. -/
abbrev Fs := (Nat → Bool) × Bool
def fsCat (a b : Fs) : Fs := if a.2 = false then a else (fun x => a.1 x || b.1 x, b.2)
def fsAlt (a b : Fs) : Fs := (fun x => a.1 x || b.1 x, a.2 || b.2)
def fsCatTo (f : Nat → Fs) : Nat → Fs
  | 0 => (fun _ => false, true)
  | n + 1 => fsCat (fsCatTo f n) (f n)
def fsAltTo (f : Nat → Fs) : Nat → Fs
  | 0 => (fun _ => false, false)
  | n + 1 => fsAlt (fsAltTo f n) (f n)
def fsNo : Fs := (fun _ => false, false)
def fsOne (f : Nat → Fs) (len : Nat) : Fs := if len = 0 then fsNo else f 0
def fsN (k n : Int) (t : ByteArray) (f : Nat → Fs) (len : Nat) : Fs :=
  if k = 1 then (fun x => decide (t.size ≠ 0) && decide (x = byt t 0), decide (t.size = 0))
  else if k = 2 then (if n = 0 then (fun _ => false, true) else (fun _ => true, false))
  else if k = 3 ∨ k = 5 then (fun x => inB t x, false)
  else if k = 4 then (fun x => !inB t x, false)
  else if k = 6 then (fun x => !inB t x, true)
  else if k = 10 ∨ k = 11 ∨ k = 16 ∨ k = 23 then (fun _ => false, true)
  else if k = 14 then (fun x => decide (x ≠ 41), false)
  else if k = 15 ∨ k = 17 then fsNo
  else if k = 18 then fsCatTo f len
  else if k = 19 then fsAltTo f len
  else if k = 20 then ((fsOne f len).1, true)
  else if k = 21 ∨ k = 22 then fsOne f len
  else (fun _ => true, true)
theorem fsCatTo_congr {f g : Nat → Fs} : ∀ n, (∀ i, i < n → f i = g i) → fsCatTo f n = fsCatTo g n
  | 0, _ => rfl
  | n + 1, h => by rw [fsCatTo, fsCatTo, fsCatTo_congr n fun i hi => h i (by omega), h n (by omega)]
theorem fsAltTo_congr {f g : Nat → Fs} : ∀ n, (∀ i, i < n → f i = g i) → fsAltTo f n = fsAltTo g n
  | 0, _ => rfl
  | n + 1, h => by rw [fsAltTo, fsAltTo, fsAltTo_congr n fun i hi => h i (by omega), h n (by omega)]
theorem fsN_congr {f g : Nat → Fs} (k n : Int) (t : ByteArray) (len : Nat) (h : ∀ i, i < len → f i = g i) : fsN k n t f len = fsN k n t g len := by
  have h1 : fsOne f len = fsOne g len := by
    unfold fsOne
    split
    · rfl
    · exact h 0 (by omega)
  unfold fsN
  rw [fsCatTo_congr len h, fsAltTo_congr len h, h1]
def PT.fst : PT → Fs
  | .node k t n _ _ _ _ len _ kids => fsN k n t (kf len fsNo fun i => PT.fst (kids i)) len
theorem PT.fst_eq (T : PT) : T.fst = fsN T.k T.n T.t (fun i => (T.kid i).fst) T.len := by
  obtain ⟨k, t, n, nm, xa, b, o, len, cap, kids⟩ := T
  exact fsN_congr k n t len fun i hi => by rw [kf_at hi, PT.kid_at (T := .node k t n nm xa b o len cap kids) hi]

/-- A way from i to a that begins as is said. -/
def Bg (s : ByteArray) (x : Fs) (i a : Nat) : Prop := (a = i → x.2 = true) ∧ (i < a → x.1 (byt s i) = true)
theorem bg_any {s : ByteArray} {i a : Nat} : Bg s (fun _ => true, true) i a := ⟨fun _ => rfl, fun _ => rfl⟩
theorem bg_cat {s : ByteArray} {x y : Fs} {i0 i a : Nat} (h0 : i0 ≤ i) (hi : i ≤ a) (hx : Bg s x i0 i) (hy : Bg s y i a) : Bg s (fsCat x y) i0 a := by
  unfold fsCat
  by_cases h : x.2 = false
  · rw [if_pos h]
    have hne : i ≠ i0 := fun e => by have := hx.1 e; rw [h] at this; cases this
    exact ⟨fun e => by omega, fun _ => hx.2 (by omega)⟩
  · rw [if_neg h]
    refine ⟨fun e => hy.1 (by omega), fun hlt => ?_⟩
    show (x.1 _ || y.1 _) = true
    by_cases e : i = i0
    · subst e
      rw [hy.2 hlt, Bool.or_true]
    · rw [hx.2 (by omega), Bool.true_or]
theorem bg_alt1 {s : ByteArray} {x y : Fs} {i a : Nat} (h : Bg s x i a) : Bg s (fsAlt x y) i a :=
  ⟨fun e => by show (x.2 || y.2) = true; rw [h.1 e, Bool.true_or], fun e => by show (x.1 _ || y.1 _) = true; rw [h.2 e, Bool.true_or]⟩
theorem bg_alt2 {s : ByteArray} {x y : Fs} {i a : Nat} (h : Bg s y i a) : Bg s (fsAlt x y) i a :=
  ⟨fun e => by show (x.2 || y.2) = true; rw [h.1 e, Bool.or_true], fun e => by show (x.1 _ || y.1 _) = true; rw [h.2 e, Bool.or_true]⟩
theorem bg_altTo {s : ByteArray} {f : Nat → Fs} {i a k : Nat} (h : Bg s (f k) i a) : ∀ n, k < n → Bg s (fsAltTo f n) i a
  | 0, hk => by omega
  | n + 1, hk => by
    rw [fsAltTo]
    rcases Nat.lt_or_ge k n with h1 | h1
    · exact bg_alt1 (bg_altTo h n h1)
    · obtain rfl : k = n := by omega
      exact bg_alt2 h
section
variable {T : PT}
theorem fst_1 (h : T.k = 1) : T.fst = (fun x => decide (T.t.size ≠ 0) && decide (x = byt T.t 0), decide (T.t.size = 0)) := by rw [T.fst_eq, fsN, if_pos h]
theorem fst_2 (h : T.k = 2) : T.fst = if T.n = 0 then (fun _ => false, true) else (fun _ => true, false) := by rw [T.fst_eq, fsN, if_neg (by omega), if_pos h]
theorem fst_3 (h : T.k = 3 ∨ T.k = 5) : T.fst = (fun x => inB T.t x, false) := by rw [T.fst_eq, fsN, if_neg (by omega), if_neg (by omega), if_pos h]
theorem fst_4 (h : T.k = 4) : T.fst = (fun x => !inB T.t x, false) := by rw [T.fst_eq, fsN, if_neg (by omega), if_neg (by omega), if_neg (by omega), if_pos h]
theorem fst_6 (h : T.k = 6) : T.fst = (fun x => !inB T.t x, true) := by rw [T.fst_eq, fsN, if_neg (by omega), if_neg (by omega), if_neg (by omega), if_neg (by omega), if_pos h]
theorem fst_10 (h : T.k = 10 ∨ T.k = 11 ∨ T.k = 16 ∨ T.k = 23) : T.fst = (fun _ => false, true) := by rw [T.fst_eq, fsN, if_neg (by omega), if_neg (by omega), if_neg (by omega), if_neg (by omega), if_neg (by omega), if_pos h]
theorem fst_14 (h : T.k = 14) : T.fst = (fun x => decide (x ≠ 41), false) := by rw [T.fst_eq, fsN, if_neg (by omega), if_neg (by omega), if_neg (by omega), if_neg (by omega), if_neg (by omega), if_neg (by omega), if_pos h]
theorem fst_15 (h : T.k = 15 ∨ T.k = 17) : T.fst = fsNo := by rw [T.fst_eq, fsN, if_neg (by omega), if_neg (by omega), if_neg (by omega), if_neg (by omega), if_neg (by omega), if_neg (by omega), if_neg (by omega), if_pos h]
theorem fst_18 (h : T.k = 18) : T.fst = fsCatTo (fun i => (T.kid i).fst) T.len := by rw [T.fst_eq, fsN, if_neg (by omega), if_neg (by omega), if_neg (by omega), if_neg (by omega), if_neg (by omega), if_neg (by omega), if_neg (by omega), if_neg (by omega), if_pos h]
theorem fst_19 (h : T.k = 19) : T.fst = fsAltTo (fun i => (T.kid i).fst) T.len := by rw [T.fst_eq, fsN, if_neg (by omega), if_neg (by omega), if_neg (by omega), if_neg (by omega), if_neg (by omega), if_neg (by omega), if_neg (by omega), if_neg (by omega), if_neg (by omega), if_pos h]
theorem fst_20 (h : T.k = 20) (hl : T.len = 1) : T.fst = ((T.kid 0).fst.1, true) := by
  have h1 : fsOne (fun i => (T.kid i).fst) T.len = (T.kid 0).fst := by rw [fsOne, if_neg (by omega)]
  rw [T.fst_eq, fsN, if_neg (by omega), if_neg (by omega), if_neg (by omega), if_neg (by omega), if_neg (by omega), if_neg (by omega), if_neg (by omega), if_neg (by omega), if_neg (by omega), if_neg (by omega), if_pos h, h1]
theorem fst_21 (h : T.k = 21 ∨ T.k = 22) (hl : T.len = 1) : T.fst = (T.kid 0).fst := by
  have h1 : fsOne (fun i => (T.kid i).fst) T.len = (T.kid 0).fst := by rw [fsOne, if_neg (by omega)]
  rw [T.fst_eq, fsN, if_neg (by omega), if_neg (by omega), if_neg (by omega), if_neg (by omega), if_neg (by omega), if_neg (by omega), if_neg (by omega), if_neg (by omega), if_neg (by omega), if_neg (by omega), if_neg (by omega), if_pos h, h1]
theorem fst_rest (h : T.k = 7 ∨ T.k = 8 ∨ T.k = 9 ∨ T.k = 12 ∨ T.k = 13 ∨ T.k = 24) : T.fst = (fun _ => true, true) := by rw [T.fst_eq, fsN, if_neg (by omega), if_neg (by omega), if_neg (by omega), if_neg (by omega), if_neg (by omega), if_neg (by omega), if_neg (by omega), if_neg (by omega), if_neg (by omega), if_neg (by omega), if_neg (by omega), if_neg (by omega)]
end
end Go.Proofs.YtjfahpklemohgaaDoor
