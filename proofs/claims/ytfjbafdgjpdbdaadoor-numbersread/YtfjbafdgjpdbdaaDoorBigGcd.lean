/- What Abs, Set and GCD do on the document's numbers (GCD: of two that are not below nought, without the factors). -/
import Derived.Test.YtfjbafdgjpdbdaaDoorBigQuo
namespace Go.Proofs.YtfjbafdgjpdbdaaDoor
open Go.RowKit

set_option maxHeartbeats 400000 in
theorem iabs_any (z x : Nat) (n : Int) (w : World) (hz : IntBlock w z) (hx : IntAt w x n) (lm : (wordsOf n.natAbs).length ≤ 10000000) :
    Calls Tryd.prog 29 #[ptr z, ptr x] w fun e w' => e = .returned (ptr z) ∧ IntAt w' z (n.natAbs : Int) ∧ But z w w' := by
  obtain ⟨u, hxr, hu⟩ := hx
  have x1 : w.cell? ⟨x, 1, none⟩ = some u := by rw [cell_row hxr]; rfl
  have C := hide (twin_any n.natAbs u w hu (by omega))
  have HS := hide (show signedOf false n.natAbs = (n.natAbs : Int) from rfl)
  generalize n.natAbs = m at *
  clear hxr hu
  go_enter Tryd.func29, Tryd.ntmps29
  go_wp2_with fail
  refine (unhide C).mono ?_
  rintro e w1 ⟨⟨v, rfl, hv⟩, hb⟩
  have C2 := hide (give_any z m false v w1 (hz.below hb) hv (by omega))
  rw [unhide HS] at C2
  go_wp2_with fail
  refine (unhide C2).mono ?_
  rintro e w2 ⟨rfl, hi, hb2⟩
  go_wp2
  go_ret
  exact ⟨rfl, hi, (But.of_below hb).trans hb2⟩

abbrev newObj : Obj := .cells #[.bool false, .slice none 0 0] 48
theorem one_fresh (w : World) : IntAt (w.alloc newObj) w.heap.size 0 ∧ Below w.heap.size w (w.alloc newObj) ∧ (w.alloc newObj).heap.size = w.heap.size + 1 :=
  ⟨fresh_int w, (Below.refl _ _).alloc (Nat.le_refl _) _, by simp⟩
theorem two_fresh (w : World) : IntAt ((w.alloc newObj).alloc newObj) w.heap.size 0 ∧ IntAt ((w.alloc newObj).alloc newObj) (w.heap.size + 1) 0 ∧ Below w.heap.size w ((w.alloc newObj).alloc newObj) ∧ ((w.alloc newObj).alloc newObj).heap.size = w.heap.size + 2 := by
  have h1 := one_fresh w
  have h2 := one_fresh (w.alloc newObj)
  rw [h1.2.2] at h2
  refine ⟨h1.1.below (by rw [h1.2.2]; exact h2.2.1), h2.1, h1.2.1.trans (h2.2.1.mono (by omega)), by omega⟩

/-- The bound on the factors, one round on. -/
theorem factor_step (P Q C : Nat) (s t : Int) (h : P * t.natAbs + Q * s.natAbs ≤ C) : Q * (s - ((P / Q : Nat) : Int) * t).natAbs + P % Q * t.natAbs ≤ C := by
  have h1 : (s - ((P / Q : Nat) : Int) * t).natAbs ≤ s.natAbs + P / Q * t.natAbs := by
    have := Int.natAbs_sub_le s (((P / Q : Nat) : Int) * t)
    rw [Int.natAbs_mul, Int.natAbs_natCast] at this
    exact this
  have h2 := Nat.mul_le_mul_left Q h1
  have h3 : Q * (P / Q) + P % Q = P := Nat.div_add_mod P Q
  have h4 : Q * (P / Q * t.natAbs) + P % Q * t.natAbs = P * t.natAbs := by rw [← Nat.mul_assoc, ← Nat.add_mul, h3]
  rw [Nat.mul_add] at h2
  omega
theorem factor_small {P Q C : Nat} {s t : Int} (h : P * t.natAbs + Q * s.natAbs ≤ C) (hP : 0 < P) (hQ : 0 < Q) (hC : C < 18446744073709551616) : t.natAbs < 18446744073709551616 ∧ s.natAbs < 18446744073709551616 := by
  have h1 := Nat.le_mul_of_pos_left t.natAbs hP
  have h2 := Nat.le_mul_of_pos_left s.natAbs hQ
  omega

/-- What words in a world are worth: for a measure alone. -/
def worthAt (w : World) : Value → Nat
  | .slice (some a) len _ => val ((List.range len).map fun j => match w.cell? ⟨a.block, j, none⟩ with | some (.int _ x) => x.toNat | _ => 0)
  | _ => 0
def sizeAt (w : World) : Value → Nat
  | .pointer (some a) => match w.cell? ⟨a.block, 1, none⟩ with | some v => worthAt w v | none => 0
  | _ => 0
theorem NumAt.worth {w : World} {v : Value} {n : Nat} (h : NumAt w v n) : worthAt w v = n := by
  rcases h with ⟨rfl, h⟩ | ⟨b, cap, rfl, _, hc⟩
  · have := (wordsOf_len_zero n).1 (by rw [h]; rfl)
    subst this; rfl
  · have e : ((List.range (wordsOf n).length).map fun j => match w.cell? ⟨b, j, none⟩ with | some (.int _ x) => x.toNat | _ => 0) = wordsOf n := by
      apply List.ext_getElem
      · simp
      · intro i h1 h2
        have := hc i h2
        simp only [List.getElem_map, List.getElem_range, this, Int.toNat_natCast]
        rw [List.getD_eq_getElem?_getD, List.getElem?_eq_getElem h2]; rfl
    show val _ = n
    rw [e, val_wordsOf]
theorem IntAt.worth {w : World} {z : Nat} {n : Int} (h : IntAt w z n) : sizeAt w (ptr z) = n.natAbs := by
  obtain ⟨v, h1, h2⟩ := h
  have : w.cell? ⟨z, 1, none⟩ = some v := by rw [cell_row h1]; rfl
  show (match w.cell? ⟨z, 1, none⟩ with | some v => worthAt w v | none => 0) = _
  rw [this]
  exact h2.worth

end Go.Proofs.YtfjbafdgjpdbdaaDoor
