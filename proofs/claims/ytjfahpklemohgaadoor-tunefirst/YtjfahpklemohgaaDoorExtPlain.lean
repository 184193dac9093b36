/- How few and how many bytes a pattern matches: what is said of it. -/
import Derived.Test.YtjfahpklemohgaaDoorScanSimR
namespace Go.Proofs.YtjfahpklemohgaaDoor
open Go.RowKit

/-- May it match; how few bytes; how many (-1: not said). -/
abbrev Ex := Bool × Int × Int
def exNo : Ex := (false, 0, 0)
def exCat (a b : Ex) : Ex := if a.1 = false ∨ b.1 = false then exNo else (true, min (a.2.1 + b.2.1) 65537, if a.2.2 = -1 ∨ b.2.2 = -1 ∨ 65536 < a.2.2 + b.2.2 then -1 else a.2.2 + b.2.2)
def exAlt (a b : Ex) : Ex := if b.1 = false then a else if a.1 = false then b else (true, min a.2.1 b.2.1, if a.2.2 = -1 ∨ b.2.2 = -1 then -1 else max a.2.2 b.2.2)
def catTo (f : Nat → Ex) : Nat → Ex
  | 0 => (true, 0, 0)
  | n + 1 => exCat (catTo f n) (f n)
def altTo (f : Nat → Ex) : Nat → Ex
  | 0 => exNo
  | n + 1 => exAlt (altTo f n) (f n)
def exOne (f : Nat → Ex) (len : Nat) : Ex := if len = 0 then exNo else f 0
def exN (k n : Int) (t : Nat) (f : Nat → Ex) (len : Nat) : Ex :=
  if k = 1 then (true, (t : Int), (t : Int))
  else if k = 2 then (true, n, n)
  else if k = 3 ∨ k = 4 then (true, 1, 1)
  else if k = 5 ∨ k = 14 then (true, 1, -1)
  else if k = 10 ∨ k = 11 ∨ k = 16 ∨ k = 23 then (true, 0, 0)
  else if k = 15 ∨ k = 17 then exNo
  else if k = 18 then catTo f len
  else if k = 19 then altTo f len
  else if k = 21 ∨ k = 22 then exOne f len
  else if k = 20 then (if (exOne f len).1 = false ∨ (exOne f len).2.2 = 0 then (true, 0, 0) else (true, 0, -1))
  else (true, 0, -1)
theorem catTo_congr {f g : Nat → Ex} : ∀ n, (∀ i, i < n → f i = g i) → catTo f n = catTo g n
  | 0, _ => rfl
  | n + 1, h => by rw [catTo, catTo, catTo_congr n fun i hi => h i (by omega), h n (by omega)]
theorem altTo_congr {f g : Nat → Ex} : ∀ n, (∀ i, i < n → f i = g i) → altTo f n = altTo g n
  | 0, _ => rfl
  | n + 1, h => by rw [altTo, altTo, altTo_congr n fun i hi => h i (by omega), h n (by omega)]
theorem exN_congr {f g : Nat → Ex} (k n : Int) (t len : Nat) (h : ∀ i, i < len → f i = g i) : exN k n t f len = exN k n t g len := by
  have h1 : exOne f len = exOne g len := by
    unfold exOne
    split
    · rfl
    · exact h 0 (by omega)
  unfold exN
  rw [catTo_congr len h, altTo_congr len h, h1]
def PT.ext : PT → Ex
  | .node k t n _ _ _ _ len _ kids => exN k n t.size (kf len exNo fun i => PT.ext (kids i)) len
theorem PT.ext_eq (T : PT) : T.ext = exN T.k T.n T.t.size (fun i => (T.kid i).ext) T.len := by
  obtain ⟨k, t, n, nm, xa, b, o, len, cap, kids⟩ := T
  exact exN_congr k n t.size len fun i hi => by rw [kf_at hi, PT.kid_at (T := .node k t n nm xa b o len cap kids) hi]
section
variable {T : PT}
theorem ext_1 (h : T.k = 1) : T.ext = (true, (T.t.size : Int), (T.t.size : Int)) := by rw [T.ext_eq, exN, if_pos h]
theorem ext_2 (h : T.k = 2) : T.ext = (true, T.n, T.n) := by rw [T.ext_eq, exN, if_neg (by omega), if_pos h]
theorem ext_3 (h : T.k = 3 ∨ T.k = 4) : T.ext = (true, 1, 1) := by rw [T.ext_eq, exN, if_neg (by omega), if_neg (by omega), if_pos h]
theorem ext_5 (h : T.k = 5 ∨ T.k = 14) : T.ext = (true, 1, -1) := by rw [T.ext_eq, exN, if_neg (by omega), if_neg (by omega), if_neg (by omega), if_pos h]
theorem ext_10 (h : T.k = 10 ∨ T.k = 11 ∨ T.k = 16 ∨ T.k = 23) : T.ext = (true, 0, 0) := by rw [T.ext_eq, exN, if_neg (by omega), if_neg (by omega), if_neg (by omega), if_neg (by omega), if_pos h]
theorem ext_15 (h : T.k = 15 ∨ T.k = 17) : T.ext = exNo := by rw [T.ext_eq, exN, if_neg (by omega), if_neg (by omega), if_neg (by omega), if_neg (by omega), if_neg (by omega), if_pos h]
theorem ext_18 (h : T.k = 18) : T.ext = catTo (fun i => (T.kid i).ext) T.len := by rw [T.ext_eq, exN, if_neg (by omega), if_neg (by omega), if_neg (by omega), if_neg (by omega), if_neg (by omega), if_neg (by omega), if_pos h]
theorem ext_19 (h : T.k = 19) : T.ext = altTo (fun i => (T.kid i).ext) T.len := by rw [T.ext_eq, exN, if_neg (by omega), if_neg (by omega), if_neg (by omega), if_neg (by omega), if_neg (by omega), if_neg (by omega), if_neg (by omega), if_pos h]
theorem ext_21 (h : T.k = 21 ∨ T.k = 22) (hl : T.len = 1) : T.ext = (T.kid 0).ext := by
  rw [T.ext_eq, exN, if_neg (by omega), if_neg (by omega), if_neg (by omega), if_neg (by omega), if_neg (by omega), if_neg (by omega), if_neg (by omega), if_neg (by omega), if_pos h, exOne, if_neg (by omega)]
theorem ext_20 (h : T.k = 20) (hl : T.len = 1) : T.ext = if (T.kid 0).ext.1 = false ∨ (T.kid 0).ext.2.2 = 0 then (true, 0, 0) else (true, 0, -1) := by
  have h1 : exOne (fun i => (T.kid i).ext) T.len = (T.kid 0).ext := by rw [exOne, if_neg (by omega)]
  rw [T.ext_eq, exN, if_neg (by omega), if_neg (by omega), if_neg (by omega), if_neg (by omega), if_neg (by omega), if_neg (by omega), if_neg (by omega), if_neg (by omega), if_neg (by omega), if_pos h, h1]
theorem ext_rest (h : T.k = 6 ∨ T.k = 7 ∨ T.k = 8 ∨ T.k = 9 ∨ T.k = 12 ∨ T.k = 13 ∨ T.k = 24) : T.ext = (true, 0, -1) := by
  rw [T.ext_eq, exN, if_neg (by omega), if_neg (by omega), if_neg (by omega), if_neg (by omega), if_neg (by omega), if_neg (by omega), if_neg (by omega), if_neg (by omega), if_neg (by omega), if_neg (by omega)]
end

theorem catTo_stop {f : Nat → Ex} {k : Nat} (h : (f k).1 = false) : ∀ n, k < n → catTo f n = exNo
  | 0, hk => by omega
  | n + 1, hk => by
    rw [catTo]
    rcases Nat.lt_or_ge k n with h1 | h1
    · rw [catTo_stop h n h1, exCat, if_pos (.inl rfl)]
    · obtain rfl : k = n := by omega
      rw [exCat, if_pos (.inr h)]

/-- Within what can be reckoned with. -/
def ExB (e : Ex) : Prop := 0 ≤ e.2.1 ∧ e.2.1 ≤ 65537 ∧ -1 ≤ e.2.2 ∧ e.2.2 ≤ 65536 ∧ (e.1 = false → e = exNo)
theorem exB_no : ExB exNo := ⟨by decide, by decide, by decide, by decide, fun _ => rfl⟩
theorem exB_cat {a b : Ex} (ha : ExB a) (hb : ExB b) : ExB (exCat a b) := by
  unfold exCat
  split
  · exact exB_no
  · obtain ⟨a1, a2, a3, a4, -⟩ := ha
    obtain ⟨b1, b2, b3, b4, -⟩ := hb
    refine ⟨?_, ?_, ?_, ?_, fun h => by cases h⟩
    · show 0 ≤ min _ _; omega
    · show min _ _ ≤ 65537; omega
    · show -1 ≤ ite _ _ _; split <;> omega
    · show ite _ _ _ ≤ 65536; split <;> omega
theorem exB_alt {a b : Ex} (ha : ExB a) (hb : ExB b) : ExB (exAlt a b) := by
  unfold exAlt
  split
  · exact ha
  split
  · exact hb
  · obtain ⟨a1, a2, a3, a4, -⟩ := ha
    obtain ⟨b1, b2, b3, b4, -⟩ := hb
    refine ⟨?_, ?_, ?_, ?_, fun h => by cases h⟩
    · show 0 ≤ min _ _; omega
    · show min _ _ ≤ 65537; omega
    · show -1 ≤ ite _ _ _; split <;> omega
    · show ite _ _ _ ≤ 65536; split <;> omega
theorem exB_catTo {f : Nat → Ex} : ∀ n, (∀ i, i < n → ExB (f i)) → ExB (catTo f n)
  | 0, _ => show ExB (true, 0, 0) from ⟨by decide, by decide, by decide, by decide, fun h => by cases h⟩
  | n + 1, h => exB_cat (exB_catTo n fun i hi => h i (by omega)) (h n (by omega))
theorem exB_altTo {f : Nat → Ex} : ∀ n, (∀ i, i < n → ExB (f i)) → ExB (altTo f n)
  | 0, _ => exB_no
  | n + 1, h => exB_alt (exB_altTo n fun i hi => h i (by omega)) (h n (by omega))
theorem kinds24 {k : Int} (h : 1 ≤ k ∧ k ≤ 24) : k = 1 ∨ k = 2 ∨ (k = 3 ∨ k = 4) ∨ (k = 5 ∨ k = 14) ∨ (k = 10 ∨ k = 11 ∨ k = 16 ∨ k = 23) ∨ (k = 15 ∨ k = 17) ∨ k = 18 ∨ k = 19 ∨ (k = 21 ∨ k = 22) ∨ k = 20 ∨ (k = 6 ∨ k = 7 ∨ k = 8 ∨ k = 9 ∨ k = 12 ∨ k = 13 ∨ k = 24) := by omega
theorem ext_B : ∀ T : PT, FineS T → ExB T.ext := PT.ind fun T ih hT => by
  have ho := hT.ok
  have hk : ∀ i, i < T.len → ExB (T.kid i).ext := fun i hi => ih i hi (hT.kid hi)
  rcases kinds24 ho.1 with q | q | q | q | q | q | q | q | q | q | q
  · rw [ext_1 q]
    have := ho.2.1 (.inl q)
    exact ⟨by show (0 : Int) ≤ (T.t.size : Int); omega, by show (T.t.size : Int) ≤ 65537; omega, by show (-1 : Int) ≤ (T.t.size : Int); omega, by show (T.t.size : Int) ≤ 65536; omega, fun h => by cases h⟩
  · rw [ext_2 q]
    have := ho.2.2.1 (.inl q)
    exact ⟨by show (0 : Int) ≤ T.n; omega, by show T.n ≤ 65537; omega, by show (-1 : Int) ≤ T.n; omega, by show T.n ≤ 65536; omega, fun h => by cases h⟩
  · rw [ext_3 q]; exact ⟨by decide, by decide, by decide, by decide, fun h => by cases h⟩
  · rw [ext_5 q]; exact ⟨by decide, by decide, by decide, by decide, fun h => by cases h⟩
  · rw [ext_10 q]; exact ⟨by decide, by decide, by decide, by decide, fun h => by cases h⟩
  · rw [ext_15 q]; exact exB_no
  · rw [ext_18 q]; exact exB_catTo _ hk
  · rw [ext_19 q]; exact exB_altTo _ hk
  · have hl := ho.2.2.2.2 (by omega)
    rw [ext_21 q hl]; exact hk 0 (by omega)
  · have hl := ho.2.2.2.2 (by omega)
    rw [ext_20 q hl]
    split <;> exact ⟨by decide, by decide, by decide, by decide, fun h => by cases h⟩
  · rw [ext_rest q]; exact ⟨by decide, by decide, by decide, by decide, fun h => by cases h⟩
end Go.Proofs.YtjfahpklemohgaaDoor
