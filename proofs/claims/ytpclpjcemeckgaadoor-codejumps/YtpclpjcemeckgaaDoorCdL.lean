/- CodeJumps: how many statements have begun; which places are marked: plain. -/
import Derived.Test.YtpclpjcemeckgaaDoorCdK
import Derived.Test.YtpclpjcemeckgaaDoorCdS
namespace Go.Proofs.YtpclpjcemeckgaaDoor
open Go.RowKit

/-- So many statements begin ahead of a place. -/
def Cnt (st : List Nat) (k m : Nat) : Prop := m ≤ st.length ∧ ∀ (i s : Nat), st[i]? = some s → (s < k ↔ i < m)
section
variable {N : Nat} {L : List IN} {st : List Nat}
theorem Jmp.rises (h : Jmp N L st) {i : Nat} : ∀ {j s t : Nat}, i < j → st[i]? = some s → st[j]? = some t → s < t
  | 0, s, t, q, _, _ => absurd q (Nat.not_lt_zero _)
  | j + 1, s, t, q, hs, ht => by
    rcases Nat.lt_or_ge i j with r | r
    · have hj : j < st.length := by have := (List.getElem?_eq_some_iff.1 ht).1; omega
      have h1 := h.rises r hs (List.getElem?_eq_getElem hj)
      have h2 := h.rise j _ t (List.getElem?_eq_getElem hj) ht
      omega
    · obtain rfl : i = j := by omega
      exact h.rise i s t hs ht
theorem Cnt.start (st : List Nat) : Cnt st 0 0 := ⟨Nat.zero_le _, fun i s _ => by omega⟩
theorem Cnt.step (h : Jmp N L st) {k m : Nat} {x : IN} (hc : Cnt st k m) (hx : L[k]? = some x) (h1 : x.op = 1) : st[m]? = some k ∧ Cnt st (k + 1) (m + 1) := by
  obtain ⟨i, hi⟩ := h.step k x hx h1
  have hil : i < st.length := (List.getElem?_eq_some_iff.1 hi).1
  have e1 : ¬ i < m := fun q => by have := (hc.2 i k hi).2 q; omega
  have e2 : ¬ m < i := fun q => by
    have hm : m < st.length := by omega
    have h2 := h.rises q (List.getElem?_eq_getElem hm) hi
    have := (hc.2 m _ (List.getElem?_eq_getElem hm)).1 h2
    omega
  obtain rfl : i = m := by omega
  refine ⟨hi, by omega, fun j s hj => ⟨fun q => ?_, fun q => ?_⟩⟩
  · rcases Nat.lt_or_ge s k with r | r
    · have := (hc.2 j s hj).1 r; omega
    · rcases Nat.lt_or_ge i j with u | u
      · have := h.rises u hi hj; omega
      · omega
  · rcases Nat.lt_or_ge j i with r | r
    · have := (hc.2 j s hj).2 r; omega
    · obtain rfl : j = i := by omega
      rw [hi] at hj
      have := Option.some.inj hj
      omega
theorem Cnt.other (h : Jmp N L st) {k m : Nat} {x : IN} (hc : Cnt st k m) (hx : L[k]? = some x) (h1 : x.op ≠ 1) : Cnt st (k + 1) m := by
  refine ⟨hc.1, fun j s hj => ⟨fun q => ?_, fun q => by have := (hc.2 j s hj).2 q; omega⟩⟩
  rcases Nat.lt_or_ge s k with r | r
  · exact (hc.2 j s hj).1 r
  · obtain rfl : s = k := by omega
    obtain ⟨-, y, hy, h2, -⟩ := h.begins j s hj
    rw [hx] at hy
    exact absurd ((Option.some.inj hy) ▸ h2) h1
theorem Cnt.done (h : Jmp N L st) {m : Nat} (hc : Cnt st L.length m) : m = N := by
  have h1 := h.len
  have h2 := hc.1
  rcases Nat.lt_or_ge m N with q | q
  · have hm : m < st.length := by omega
    have h3 := (h.begins m _ (List.getElem?_eq_getElem hm)).1
    have := (hc.2 m _ (List.getElem?_eq_getElem hm)).1 (by omega)
    omega
  · omega
/-- Which places are marked. -/
def Mrk (L : List IN) (st : List Nat) (k : Nat) (B : List Bool) : Prop := B.length = L.length + 1 ∧ ∀ j : Nat, B[j]? = some true ↔ (j = L.length - 1 ∨ ∃ i, i < k ∧ st[i]? = some j)
theorem Mrk.start (h : Jmp N L st) : Mrk L st 0 ((List.replicate (L.length + 1) false).set (L.length - 1) true) := by
  refine ⟨by simp, fun j => ?_⟩
  have hp := h.pos
  rw [List.getElem?_set]
  constructor
  · intro q
    split at q
    · left; omega
    · rw [List.getElem?_replicate] at q
      split at q <;> simp at q
  · rintro (rfl | ⟨i, hi, -⟩)
    · rw [if_pos rfl, if_pos (by rw [List.length_replicate]; omega)]
    · omega
theorem Mrk.next {k s : Nat} {B : List Bool} (h : Mrk L st k B) (hs : st[k]? = some s) (hl : s < L.length) : Mrk L st (k + 1) (B.set s true) := by
  refine ⟨by rw [List.length_set]; exact h.1, fun j => ?_⟩
  rw [List.getElem?_set]
  constructor
  · intro q
    split at q
    · rename_i e; subst e; exact .inr ⟨k, by omega, hs⟩
    · rcases (h.2 j).1 q with r | ⟨i, hi, r⟩
      · exact .inl r
      · exact .inr ⟨i, by omega, r⟩
  · intro q
    by_cases e : s = j
    · subst e; rw [if_pos rfl, if_pos (by rw [h.1]; omega)]
    · rw [if_neg e, h.2 j]
      rcases q with r | ⟨i, hi, r⟩
      · exact .inl r
      · rcases Nat.lt_or_ge i k with u | u
        · exact .inr ⟨i, u, r⟩
        · obtain rfl : i = k := by omega
          rw [hs] at r
          exact absurd (Option.some.inj r) e
theorem Mrk.jump (h : Jmp N L st) {B : List Bool} (hm : Mrk L st N B) {k : Nat} {x : IN} (hx : L[k]? = some x) (h19 : x.op = 19) : ∃ t : Nat, x.tg = (t : Int) ∧ t < L.length ∧ B[t]? = some true := by
  obtain ⟨t, e, ht⟩ := h.jump k x hx h19
  have hp := h.pos
  refine ⟨t, e, ?_, (hm.2 t).2 ?_⟩
  · rcases ht with rfl | ⟨i, hi⟩
    · omega
    · have := (h.begins i t hi).1; omega
  · rcases ht with rfl | ⟨i, hi⟩
    · exact .inl rfl
    · exact .inr ⟨i, by have := (List.getElem?_eq_some_iff.1 hi).1; have := h.len; omega, hi⟩
theorem Mrk.ends (h : Jmp N L st) {B : List Bool} (hm : Mrk L st N B) {k : Nat} {x : IN} (hx : L[k]? = some x) (h19 : x.op < 19) : B[k + 1]? = some false := by
  obtain ⟨h1, h2, h3⟩ := h.ends k x hx h19
  have hl : k + 1 < B.length := by rw [hm.1]; omega
  have := hm.2 (k + 1)
  rw [List.getElem?_eq_getElem hl] at this ⊢
  cases hb : B[k + 1] with
  | false => rfl
  | true =>
    rw [hb] at this
    rcases this.1 rfl with q | ⟨i, -, q⟩
    · exact absurd q h2
    · exact absurd q (h3 i)
end
/-- A list of marks, in memory. -/
theorem bV_set (B : List Bool) (s : Nat) : (bV B).setIfInBounds s (.bool true) = bV (B.set s true) := by
  unfold bV
  apply Array.ext'
  rw [Array.toList_setIfInBounds]
  show (B.map Value.bool).set s (.bool true) = (B.set s true).map Value.bool
  rw [List.map_set]
theorem bV_cell {w : World} {y : Nat} {B : List Bool} (h : w.heap[y]? = some (.cells (bV B) 4 (0, 0))) {j : Nat} {b : Bool} (hb : B[j]? = some b) : w.cell? ⟨y, j, none⟩ = some (.bool b) := by
  rw [cell_of_row _ _ _ _ _ _ h]
  unfold bV
  rw [List.getElem?_toArray, List.getElem?_map, hb]; rfl
theorem make_marks (n : Nat) (hn : n ≤ 90000001) (W : World) : (Instr.makeSlice 34 (.int .i64 (n : Int)) (.int .i64 (n : Int))).run Tryd.prog W = .ok (.slice (some ⟨W.heap.size, 0, none⟩) n n) (W.alloc (.cells (bV (List.replicate n false)) 4)) := by
  have := run_make_row' (P := Tryd.prog) 34 4 (.bool false) 1 Tryd.underlying34 boolRow rfl .i64 .i64 n (by omega) (by omega) W
  rw [made_bools] at this
  exact this
end Go.Proofs.YtpclpjcemeckgaaDoor
