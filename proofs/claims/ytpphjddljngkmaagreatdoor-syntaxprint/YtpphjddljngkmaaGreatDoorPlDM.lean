/- Expressions that are written: their pieces; reading level by level, plain. Expressions that are written are read, plain. Expressions that are written are read: each kind. -/
import Derived.Test.YtpphjddljngkmaaGreatDoorPatRightM
import Derived.Test.YtpphjddljngkmaaGreatDoorExWrongP
namespace Go.Proofs.YtpphjddljngkmaaGreatDoor
open Go.RowKit

def inP (b : Bool) (l : List It) : List It := if b then sg 40 :: (l ++ [sg 41]) else l
def argI (f : Nat → List It) : Nat → List It
  | 0 => []
  | i + 1 => argI f i ++ ((if 0 < i then [sg 44, bl] else []) ++ f i)
def opB (k : Int) : UInt8 := if k = 8 then 38 else if k = 9 then 43 else if k = 10 then 45 else if k = 11 then 42 else if k = 12 then 47 else 37
def exN (k : Int) (t : ByteArray) (n : Int) (nm : ByteArray) (len : Nat) (ki : Int → Nat → List It) : List It :=
  if k = 1 then [tx t] else if k = 2 then [nu ⟨(Lib.itoa n).toArray⟩] else if k = 3 then [wd nm]
  else if k = 4 then wd nm :: sg 60 :: (ki 0 0 ++ [sg 62])
  else if k = 5 then sg 36 :: ki 5 0
  else if k = 6 then wd nm :: sg 40 :: (argI (ki 0) len ++ [sg 41])
  else if k = 7 then sg 45 :: ki 4 0
  else ki (levelX k) 0 ++ bl :: sg (opB k) :: bl :: ki (levelX k + 1) 1
/-- An expression's pieces, without brackets around it; and where only what is so tight stands without. -/
def PT.exI : PT → List It
  | .node k t n nm _ _ _ len _ kids => exN k t n nm len fun lv => kf len [] fun i => inP (decide (levelX (kids i).k < lv)) (PT.exI (kids i))
def PT.atl (T : PT) (lv : Int) : List It := inP (decide (levelX T.k < lv)) T.exI
def PT.kidI (T : PT) (lv : Int) (i : Nat) : List It := if i < T.len then (T.kid i).atl lv else []
theorem PT.exI_eq (T : PT) : T.exI = exN T.k T.t T.n T.nm T.len T.kidI := by
  obtain ⟨k, t, n, nm, xa, b, o, len, cap, kids⟩ := T
  have h : (fun lv => kf len [] fun i => inP (decide (levelX (kids i).k < lv)) (PT.exI (kids i))) = PT.kidI (PT.node k t n nm xa b o len cap kids) := by
    funext lv i
    unfold PT.kidI
    by_cases h : i < len
    · rw [if_pos h, PT.kid_at (T := .node k t n nm xa b o len cap kids) h, kf_at h]; rfl
    · rw [if_neg h]; unfold kf; rw [dif_neg h]
  show exN k t n nm len (fun lv => kf len [] fun i => inP (decide (levelX (kids i).k < lv)) (PT.exI (kids i))) = _
  rw [h]
/-- Its numbers are some. -/
def PT.ns : PT → Prop
  | .node _ _ n _ _ _ _ _ _ kids => n ≤ 9223372036854775807 ∧ ∀ i, PT.ns (kids i)
theorem ns_node {T : PT} (h : T.ns) : T.n ≤ 9223372036854775807 := by cases T; exact h.1
theorem ns_of {w : World} : ∀ T : PT, T.In w → T.ns := PT.ind fun T ih h => by
  have h1 := h.num.2
  have h2 : ∀ i, i < T.len → (T.kid i).ns := fun i hi => ih i hi (h.kids hi)
  obtain ⟨k, t, n, nm, xa, b, o, len, cap, kids⟩ := T
  exact ⟨h1, fun i => by have := h2 i.1 i.2; rwa [PT.kid_at (T := .node k t n nm xa b o len cap kids) i.2] at this⟩
/-! Reading, level by level. -/
/-! Tokens that are met. -/
end Go.Proofs.YtpphjddljngkmaaGreatDoor

namespace Go.Proofs.YtpphjddljngkmaaGreatDoor
open Go.RowKit

theorem levelX_in (k : Int) : ∃ L : Nat, levelX k = (L : Int) ∧ 1 ≤ L ∧ L ≤ 5 := by
  unfold levelX
  split
  · exact ⟨4, rfl, by omega, by omega⟩
  · split
    · exact ⟨1, rfl, by omega, by omega⟩
    · split
      · exact ⟨2, rfl, by omega, by omega⟩
      · split
        · exact ⟨3, rfl, by omega, by omega⟩
        · exact ⟨5, rfl, by omega, by omega⟩
section
variable {E d : Nat} {T : PT}
theorem atl_bare {lv : Int} (h : ¬ levelX T.k < lv) : T.atl lv = T.exI := by unfold PT.atl inP; rw [if_neg (by rw [decide_eq_false h]; decide)]
theorem atl_any (T : PT) : T.atl 0 = T.exI := atl_bare (by obtain ⟨L, e, _, _⟩ := levelX_in T.k; omega)
end
/-! Arguments. -/
end Go.Proofs.YtpphjddljngkmaaGreatDoor

namespace Go.Proofs.YtpphjddljngkmaaGreatDoor
open Go.RowKit

theorem badX_node {T : PT} (h : T.badX = 0) : errX T = 0 ∧ ∀ i, i < T.len → (T.kid i).badX = 0 := by
  rw [T.badX_eq] at h
  by_cases q : errX T = 0
  · rw [if_pos q] at h
    exact ⟨q, firstTo_zero h⟩
  · rw [if_neg q] at h; exact absurd h q
theorem errX_zero {T : PT} (h : errX T = 0) : (1 ≤ T.k ∧ T.k ≤ 13) ∧ (T.k = 1 → T.t.size ≤ 65536) ∧ (T.k = 2 → 0 ≤ T.n) ∧ (namedX T.k = true → named T.nm = true) ∧ leastX T.k ≤ (T.len : Int) ∧ (T.len : Int) ≤ mostX T.k := by
  unfold errX at h
  by_cases h1 : T.k < 1 ∨ 13 < T.k
  · rw [if_pos h1] at h; omega
  · rw [if_neg h1] at h
    by_cases h2 : T.k = 1 ∧ 65536 < T.t.size
    · rw [if_pos h2] at h; omega
    · rw [if_neg h2] at h
      by_cases h3 : T.k = 2 ∧ T.n < 0
      · rw [if_pos h3] at h; omega
      · rw [if_neg h3] at h
        by_cases h4 : namedX T.k = true ∧ named T.nm = false
        · rw [if_pos h4] at h; omega
        · rw [if_neg h4] at h
          by_cases h5 : (T.len : Int) < leastX T.k ∨ mostX T.k < T.len
          · rw [if_pos h5] at h; omega
          · refine ⟨by omega, fun q => ?_, fun q => ?_, fun q => ?_, by omega, by omega⟩
            · rcases Nat.lt_or_ge 65536 T.t.size with z | z
              · exact absurd ⟨q, z⟩ h2
              · exact z
            · by_cases z : T.n < 0
              · exact absurd ⟨q, z⟩ h3
              · omega
            · cases z : named T.nm with
              | true => rfl
              | false => exact absurd ⟨q, z⟩ h4
theorem kidI_at {T : PT} {lv : Int} {i : Nat} (h : i < T.len) : T.kidI lv i = (T.kid i).atl lv := if_pos h
section
variable {E : Nat} {T : PT}
theorem exI_two (h1 : 8 ≤ T.k) (h2 : T.len = 2) : T.exI = (T.kid 0).atl (levelX T.k) ++ bl :: sg (opB T.k) :: bl :: (T.kid 1).atl (levelX T.k + 1) := by
  rw [T.exI_eq]
  unfold exN
  rw [if_neg (by omega), if_neg (by omega), if_neg (by omega), if_neg (by omega), if_neg (by omega), if_neg (by omega), if_neg (by omega), kidI_at (by omega), kidI_at (by omega)]
end
end Go.Proofs.YtpphjddljngkmaaGreatDoor
