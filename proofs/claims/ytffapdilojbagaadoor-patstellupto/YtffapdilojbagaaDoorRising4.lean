/- What pats.risingOnce and Names do. -/
import Derived.Test.YtffapdilojbagaaDoorPatNames
import Derived.Test.YtffapdilojbagaaDoorNamesPlain
import Derived.Test.YtffapdilojbagaaDoorSortLib
import Derived.Deep.AppendLies
import Derived.Laws.OwnMore
namespace Go.Proofs.YtffapdilojbagaaDoor
open Go.RowKit

/-- A text's bytes, and back. -/
def bytesL (s : ByteArray) : BL := s.data.toList
def mkB (l : BL) : ByteArray := ⟨l.toArray⟩
theorem mkB_bytesL (s : ByteArray) : mkB (bytesL s) = s := rfl
theorem bytesL_mkB (l : BL) : bytesL (mkB l) = l := rfl
def namesOf (xs : List ByteArray) : List ByteArray := (putAll [] (xs.map bytesL)).map mkB

/-- A list of texts that lies in memory, from its block's beginning on. -/
def StrsAt (w : World) (v : Value) (xs : List ByteArray) : Prop :=
  ∃ a cap g, v = .slice a xs.length cap ∧ (0 < xs.length → a = some ⟨g, 0, none⟩ ∧ v.ownBlock = some g) ∧ ∀ j, j < xs.length → w.cell? ⟨g, j, none⟩ = some (.string (xs.getD j ByteArray.empty))
theorem StrsAt.later {w w' : World} {v : Value} {xs : List ByteArray} (h : StrsAt w v xs) (hb : Below w.heap.size w w') : StrsAt w' v xs := by
  obtain ⟨a, cap, g, h1, h2, h3⟩ := h
  exact ⟨a, cap, g, h1, h2, fun j hj => cell_later hb (h3 j hj)⟩
theorem StrsAt.kept {w w' : World} {v : Value} {xs : List ByteArray} {row : Option Nat} (h : StrsAt w v xs) (hg : w.grownBy w' row) (hne : v.ownBlock = none ∨ row = none ∨ v.ownBlock ≠ row) : StrsAt w' v xs := by
  obtain ⟨a, cap, g, h1, h2, h3⟩ := h
  refine ⟨a, cap, g, h1, h2, fun j hj => hg.cell (h3 j hj) ?_⟩
  have h4 := (h2 (by omega)).2
  rcases hne with e | e | e
  · rw [h4] at e; cases e
  · rw [e]; simp
  · rw [h4] at e; exact e
theorem StrsAt.of_own {w : World} {B : Nat} {v : Value} {xs : List ByteArray} (h : Own w B v xs) : StrsAt w v xs := by
  rcases h.2 with ⟨rfl, h0⟩ | ⟨g, cap, cur, rfl, _, _, hc, _, _, _⟩
  · exact ⟨none, 0, 0, by rw [h0], fun hx => by omega, fun j hj => by omega⟩
  · refine ⟨_, cap, g, rfl, fun _ => ⟨rfl, rfl⟩, fun j hj => ?_⟩
    rw [World.ownsRow.cellAt h j (by omega)]
    simp [hj]

open Go.Sort in
theorem grown_row {w : World} {g n : Nat} {d : Array BL} {os : Array Obj} : w.grownBy (grow (putRow encStr (Sort.ahead w n) g 0 d) os) (some g) := by
  refine ⟨rfl, rfl, rfl, by simp [putRow, mapBlock, Sort.ahead], fun k hk hne => ?_⟩
  have hkg : g ≠ k := fun e => hne (by rw [e])
  show ((Sort.ahead w n).heap.modify g _ ++ os)[k]? = _
  rw [Array.getElem?_append_left (by simpa [Sort.ahead] using hk), Array.getElem?_modify]
  simp [hkg, Sort.ahead]

open Go.Sort in
theorem holds_own {w : World} {B g cap : Nat} {xs : List ByteArray} (h : Own w B (.slice (some ⟨g, 0, none⟩) xs.length cap) xs) : Holds encStr w g 0 (xs.map bytesL).toArray := by
  intro j hj
  have hj' : j < xs.length := by simpa using hj
  rw [Nat.zero_add]
  refine ⟨?_, World.ownsRow.frozenAt h j⟩
  rw [World.ownsRow.cellAt h j (by omega), getElem!_pos _ j hj]
  simp [hj']
  rfl

set_option maxRecDepth 100000 in
set_option maxHeartbeats 1000000 in
open Go.Sort in
theorem rising_any (B : Nat) (v : Value) (xs : List ByteArray) (w : World) (hv : Own w B v xs) (hx : xs.length ≤ 5000) :
    Calls Tryd.prog 30 #[v] w fun e w' => ∃ v', e = .returned v' ∧ v'.ownBlock = v.ownBlock ∧ StrsAt w' v' (namesOf xs) ∧ w.grownBy w' v.ownBlock := by
  by_cases h0 : xs = []
  · subst h0
    have hvv : ∃ a cap, v = .slice a 0 cap := by
      rcases hv.2 with ⟨rfl, _⟩ | ⟨g, cap, cur, rfl, _⟩
      · exact ⟨_, _, rfl⟩
      · exact ⟨_, _, rfl⟩
    obtain ⟨a, cap, rfl⟩ := hvv
    clear hv hx
    go_enter Tryd.func30, Tryd.ntmps30
    go_wp2_with fail
    refine (Tryd.slices_Sort_string_none a cap _).mono ?_
    rintro e w ⟨rfl, rfl⟩
    go_wp2_with fail
    refine (Tryd.slices_Compact_string_empty a cap _).mono ?_
    rintro e w ⟨rfl, rfl⟩
    go_wp2_with fail
    go_ret
    exact ⟨_, rfl, rfl, ⟨a, cap, 0, rfl, fun h => absurd h (Nat.lt_irrefl 0), fun j hj => absurd hj (Nat.not_lt_zero j)⟩, World.grownBy.refl _ _⟩
  · have hpos : 0 < xs.length := List.length_pos_iff.2 h0
    obtain ⟨g, cap, rfl, hg1, hgl⟩ := World.ownsRow.form hv hpos
    have hcap : xs.length ≤ cap := by
      rcases hv.2 with ⟨h, _⟩ | ⟨g', cap', cur, h, _, _, hc, _⟩
      · cases h
      · cases h; exact hc
    have hH := holds_own hv
    have hS := fun W (hW : Holds encStr W g 0 (xs.map bytesL).toArray) (hl : g < W.heap.size) => Tryd.slices_Sort_string g 0 cap (xs.map bytesL) W hW hl (by rw [List.length_map]; omega)
    rw [List.length_map] at hS
    have hC := fun W (hW : Holds encStr W g 0 ((xs.map bytesL).mergeSort fun x y => decide (x ≤ y)).toArray) => Tryd.slices_Compact_string g 0 cap ((xs.map bytesL).mergeSort fun x y => decide (x ≤ y)) W hW (by rw [List.length_mergeSort, List.length_map]; omega) (by rw [List.length_mergeSort, List.length_map]; exact hcap)
    rw [List.length_mergeSort, List.length_map, names_eq] at hC
    have hlen : (putAll [] (xs.map bytesL)).length ≤ xs.length := by have := putAll_len (xs.map bytesL) []; simpa using this
    have hsl : ((xs.map bytesL).mergeSort fun x y => decide (x ≤ y)).toArray.size = (xs.map bytesL).toArray.size := by simp
    have hnl : (namesOf xs).length = (putAll [] (xs.map bytesL)).length := by unfold namesOf; rw [List.length_map]
    have hnm : ∀ j, (namesOf xs).getD j ByteArray.empty = mkB ((putAll [] (xs.map bytesL)).getD j []) := fun j => by
      unfold namesOf
      simp only [List.getD, List.getElem?_map]
      cases (putAll [] (xs.map bytesL))[j]? <;> rfl
    generalize ((xs.map bytesL).mergeSort fun x y => decide (x ≤ y)) = ys at *
    generalize namesOf xs = ns at *
    generalize putAll [] (xs.map bytesL) = ps at *
    have HH := hide (And.intro hH (And.intro hS (And.intro hC (And.intro hlen (And.intro hsl (And.intro hnl hnm))))))
    clear hH hS hC hlen hsl hnl hnm hv
    go_enter Tryd.func30, Tryd.ntmps30
    go_wp2_with fail
    refine ((unhide HH).2.1 _ (unhide HH).1 hgl).mono ?_
    rintro e w1 ⟨rfl, n, os, hw1⟩
    have HW1 := hide hw1
    clear hw1
    go_wp2_with fail
    have hold1 : Holds encStr w1 g 0 ys.toArray := by
      rw [unhide HW1]
      have h2 := holds_putRow encStr (Sort.ahead w n) g 0 _ ys.toArray (holds_ahead encStr w n g 0 _ (unhide HH).1) (unhide HH).2.2.2.2.1
      intro j hj
      obtain ⟨a, b⟩ := h2 j hj
      have hlt := World.block_lt_of_cell? _ _ a
      have hb : (grow (putRow encStr (Sort.ahead w n) g 0 ys.toArray) os).heap[g]? = (putRow encStr (Sort.ahead w n) g 0 ys.toArray).heap[g]? := Array.getElem?_append_left hlt
      exact ⟨(World.cell?_of_block (w := putRow encStr (Sort.ahead w n) g 0 ys.toArray) hb).trans a, (World.frozen?_of_block (w := putRow encStr (Sort.ahead w n) g 0 ys.toArray) hb).trans b⟩
    refine ((unhide HH).2.2.1 _ hold1).mono ?_
    rintro e w2 ⟨rfl, q, hw2⟩
    have HO := hide hold1
    have HW2 := hide hw2
    clear hold1 hw2
    go_wp2_with fail
    go_ret
    obtain ⟨-, -, -, hlen, hsl, hnl, hnm⟩ := unhide HH
    have hgr1 : w.grownBy w1 (some g) := by rw [unhide HW1]; exact grown_row
    have hgr2 : w1.grownBy w2 (some g) := by
      have := grown_row (w := w1) (g := g) (n := q) (d := (ps ++ List.replicate (xs.length - ps.length) []).toArray) (os := #[])
      rw [grow_empty] at this
      rw [unhide HW2]; exact this
    refine ⟨_, rfl, rfl, ⟨some ⟨g, 0, none⟩, cap, g, by rw [hnl]; rfl, fun _ => ⟨rfl, rfl⟩, fun j hj => ?_⟩, hgr1.trans hgr2⟩
    rw [hnl] at hj
    have h3 := holds_putRow encStr (Sort.ahead w1 q) g 0 _ (ps ++ List.replicate (xs.length - ps.length) []).toArray (holds_ahead encStr w1 q g 0 _ (unhide HO)) (by rw [hsl]; simp; omega)
    rw [← unhide HW2] at h3
    have h4 := (h3 j (by simp; omega)).1
    rw [Nat.zero_add] at h4
    rw [h4, hnm, getElem!_pos _ j (by simp; omega)]
    simp [hj, List.getElem_append_left]
    rfl
end Go.Proofs.YtffapdilojbagaaDoor
