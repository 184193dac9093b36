/- The document's signs of a text: plain, and what Signs answers. -/
import Derived.Test.YtimbfelbalfmiaaDoorRdRow
namespace Go.Proofs.YtimbfelbalfmiaaDoor
open Go.RowKit

/-- A sign: its kind, its text, where it begins and ends. -/
structure Sg where
  k : Nat
  t : ByteArray
  a : Nat
  e : Nat
def sgF (s : ByteArray) : Nat → Nat → List Sg → List Sg
  | 0, _, l => l
  | f + 1, i, l =>
    if i < s.size then
      (if bat s i = 32 then sgF s f (i + 1) l
       else if bat s i = 39 then (if cq s (i + 1) < s.size then sgF s f (cq s (i + 1) + 1) (l ++ [⟨302, ⟨(ct s (i + 1)).toArray⟩, i, cq s (i + 1) + 1⟩]) else l ++ [⟨301, ⟨#[]⟩, i, s.size⟩])
       else if letterN (bat s i) = true then sgF s f (wdE s i) (l ++ [⟨303, s.extract i (wdE s i), i, wdE s i⟩])
       else if digitN (bat s i) = true then sgF s f (dgE s i) (l ++ [⟨304, s.extract i (dgE s i), i, dgE s i⟩])
       else sgF s f (i + 1) (l ++ [⟨bat s i, s.extract i (i + 1), i, i + 1⟩]))
    else l ++ [⟨305, ⟨#[]⟩, s.size, s.size⟩]
def sgs (s : ByteArray) (i : Nat) : List Sg := sgF s (s.size + 1 - i) i []
theorem sgF_step (s : ByteArray) (f i : Nat) (l : List Sg) : sgF s (f + 1) i l =
    if i < s.size then
      (if bat s i = 32 then sgF s f (i + 1) l
       else if bat s i = 39 then (if cq s (i + 1) < s.size then sgF s f (cq s (i + 1) + 1) (l ++ [⟨302, ⟨(ct s (i + 1)).toArray⟩, i, cq s (i + 1) + 1⟩]) else l ++ [⟨301, ⟨#[]⟩, i, s.size⟩])
       else if letterN (bat s i) = true then sgF s f (wdE s i) (l ++ [⟨303, s.extract i (wdE s i), i, wdE s i⟩])
       else if digitN (bat s i) = true then sgF s f (dgE s i) (l ++ [⟨304, s.extract i (dgE s i), i, dgE s i⟩])
       else sgF s f (i + 1) (l ++ [⟨bat s i, s.extract i (i + 1), i, i + 1⟩]))
    else l ++ [⟨305, ⟨#[]⟩, s.size, s.size⟩] := rfl
theorem sgF_acc (s : ByteArray) : ∀ f i l, sgF s f i l = l ++ sgF s f i []
  | 0, i, l => by rw [sgF, sgF, List.append_nil]
  | f + 1, i, l => by
    rw [sgF_step, sgF_step]
    by_cases h : i < s.size
    · rw [if_pos h, if_pos h]
      by_cases h1 : bat s i = 32
      · rw [if_pos h1, if_pos h1]; exact sgF_acc s f _ l
      · rw [if_neg h1, if_neg h1]
        by_cases h2 : bat s i = 39
        · rw [if_pos h2, if_pos h2]
          by_cases h3 : cq s (i + 1) < s.size
          · rw [if_pos h3, if_pos h3, sgF_acc s f _ (l ++ _), sgF_acc s f _ ([] ++ _), List.append_assoc, List.nil_append]
          · rw [if_neg h3, if_neg h3, List.nil_append]
        · rw [if_neg h2, if_neg h2]
          by_cases h3 : letterN (bat s i) = true
          · rw [if_pos h3, if_pos h3, sgF_acc s f _ (l ++ _), sgF_acc s f _ ([] ++ _), List.append_assoc, List.nil_append]
          · rw [if_neg h3, if_neg h3]
            by_cases h4 : digitN (bat s i) = true
            · rw [if_pos h4, if_pos h4, sgF_acc s f _ (l ++ _), sgF_acc s f _ ([] ++ _), List.append_assoc, List.nil_append]
            · rw [if_neg h4, if_neg h4, sgF_acc s f _ (l ++ _), sgF_acc s f _ ([] ++ _), List.append_assoc, List.nil_append]
    · rw [if_neg h, if_neg h, List.nil_append]
theorem sgF_fuel (s : ByteArray) : ∀ f g i l, i ≤ s.size → s.size < i + f → s.size < i + g → sgF s f i l = sgF s g i l
  | 0, g, i, l, hi, hf, _ => by omega
  | f + 1, 0, i, l, hi, _, hg => by omega
  | f + 1, g + 1, i, l, hi, hf, hg => by
    rw [sgF_step, sgF_step]
    by_cases h : i < s.size
    · rw [if_pos h, if_pos h]
      have hc := cq_le s (i + 1) (by omega)
      by_cases h3 : cq s (i + 1) < s.size
      · rw [if_pos h3, if_pos h3, sgF_fuel s f g (cq s (i + 1) + 1) _ (by omega) (by omega) (by omega), sgF_fuel s f g (i + 1) l (by omega) (by omega) (by omega), sgF_fuel s f g (i + 1) _ (by omega) (by omega) (by omega)]
        by_cases hl : letterN (bat s i) = true
        · have := wdE_adv hl
          rw [if_pos hl, if_pos hl, sgF_fuel s f g (wdE s i) _ (by omega) (by omega) (by omega)]
        · rw [if_neg hl, if_neg hl]
          by_cases hd : digitN (bat s i) = true
          · have := dgE_adv hd
            rw [if_pos hd, if_pos hd, sgF_fuel s f g (dgE s i) _ (by omega) (by omega) (by omega)]
          · rw [if_neg hd, if_neg hd]
      · rw [if_neg h3, if_neg h3, sgF_fuel s f g (i + 1) l (by omega) (by omega) (by omega), sgF_fuel s f g (i + 1) _ (by omega) (by omega) (by omega)]
        by_cases hl : letterN (bat s i) = true
        · have := wdE_adv hl
          rw [if_pos hl, if_pos hl, sgF_fuel s f g (wdE s i) _ (by omega) (by omega) (by omega)]
        · rw [if_neg hl, if_neg hl]
          by_cases hd : digitN (bat s i) = true
          · have := dgE_adv hd
            rw [if_pos hd, if_pos hd, sgF_fuel s f g (dgE s i) _ (by omega) (by omega) (by omega)]
          · rw [if_neg hd, if_neg hd]
    · rw [if_neg h, if_neg h]
/-- The signs from a place on, by what stands there. -/
theorem sgs_eq (s : ByteArray) (i : Nat) (hi : i ≤ s.size) : sgs s i =
    if i < s.size then
      (if bat s i = 32 then sgs s (i + 1)
       else if bat s i = 39 then (if cq s (i + 1) < s.size then ⟨302, ⟨(ct s (i + 1)).toArray⟩, i, cq s (i + 1) + 1⟩ :: sgs s (cq s (i + 1) + 1) else [⟨301, ⟨#[]⟩, i, s.size⟩])
       else if letterN (bat s i) = true then ⟨303, s.extract i (wdE s i), i, wdE s i⟩ :: sgs s (wdE s i)
       else if digitN (bat s i) = true then ⟨304, s.extract i (dgE s i), i, dgE s i⟩ :: sgs s (dgE s i)
       else ⟨bat s i, s.extract i (i + 1), i, i + 1⟩ :: sgs s (i + 1))
    else [⟨305, ⟨#[]⟩, s.size, s.size⟩] := by
  have key : ∀ j l, i < j → j ≤ s.size → sgF s (s.size - i) j l = l ++ sgs s j := fun j l h1 h2 => by
    rw [sgF_acc, sgs, sgF_fuel s (s.size - i) (s.size + 1 - j) j [] h2 (by omega) (by omega)]
  have e : sgs s i = sgF s (s.size - i + 1) i [] := by rw [sgs, show s.size + 1 - i = s.size - i + 1 by omega]
  rw [e, sgF_step]
  by_cases h : i < s.size
  · rw [if_pos h, if_pos h, key (i + 1) [] (by omega) (by omega), key (i + 1) _ (by omega) (by omega)]
    have hc := cq_le s (i + 1) (by omega)
    by_cases h1 : bat s i = 32
    · rw [if_pos h1, if_pos h1]; rfl
    · rw [if_neg h1, if_neg h1]
      by_cases h2 : bat s i = 39
      · rw [if_pos h2, if_pos h2]
        by_cases h3 : cq s (i + 1) < s.size
        · rw [if_pos h3, if_pos h3, key _ _ (by omega) (by omega)]; rfl
        · rw [if_neg h3, if_neg h3]; rfl
      · rw [if_neg h2, if_neg h2]
        by_cases hl : letterN (bat s i) = true
        · have := wdE_adv hl
          rw [if_pos hl, if_pos hl, key _ _ (by omega) (by omega)]; rfl
        · rw [if_neg hl, if_neg hl]
          by_cases hd : digitN (bat s i) = true
          · have := dgE_adv hd
            rw [if_pos hd, if_pos hd, key _ _ (by omega) (by omega)]; rfl
          · rw [if_neg hd, if_neg hd]; rfl
  · rw [if_neg h, if_neg h]; rfl
theorem sgs_sk (s : ByteArray) : ∀ n i, i ≤ s.size → s.size < n + i → sgs s i = sgs s (sk s i)
  | 0, i, hi, h => by omega
  | n + 1, i, hi, h => by
    by_cases q : bat s i = 32
    · have hlt := bat_in (s := s) (i := i) (by omega)
      have e : sk s i = sk s (i + 1) := pas_step hlt (decide_eq_true q)
      rw [e, ← sgs_sk s n (i + 1) (by omega) (by omega), sgs_eq s i hi, if_pos hlt, if_pos q]
    · rw [sk_same q]
def sgV (x : Sg) : List Value := [.int .i64 (x.k : Int), .string x.t, .int .i64 (x.a : Int), .int .i64 (x.e : Int)]
theorem sgV_len (x : Sg) : (sgV x).length = 4 := rfl
theorem sgV_one (x : Sg) : ∀ u ∈ sgV x, u.oneCell' = true := by
  intro u hu
  simp only [sgV, List.mem_cons, List.not_mem_nil, or_false] at hu
  rcases hu with rfl | rfl | rfl | rfl <;> rfl
theorem info_sign : (Tryd.prog.info? 42).map (fun i => (i.zero, i.size, i.bytes)) = some (some (.agg #[.int .i64 0, .string ⟨#[]⟩, .int .i64 0, .int .i64 0]), 4, 40) := by kernel_rfl
def sgO (x : Sg) : Array Value := #[.int .i64 (x.k : Int), .string x.t, .int .i64 (x.a : Int), .int .i64 (x.e : Int)]
theorem new_sign {w : World} {x : Sg} : ∀ k u, (sgV x)[k]? = some u → (w.alloc (.cells (sgO x) 42)).cell? ⟨w.heap.size, k, none⟩ = some u := fun k u h => by
  rw [cell_of_row _ _ _ _ _ _ (at_new rfl), ← Array.getElem?_toList]
  exact h
end Go.Proofs.YtimbfelbalfmiaaDoor
