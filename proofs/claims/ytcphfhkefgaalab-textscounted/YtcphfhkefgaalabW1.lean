/- What texts.tooLong, texts.Reverse and alive do, for every input: contracts of their calls. -/
import Derived.Test.YtcphfhkefgaalabRows
import Derived.Test.YtcphfhkefgaalabPlain
import Derived.WalkKit
import Derived.WalkSpells
import Derived.WalkLawsBesides
namespace Go.Proofs.Ytcphfhkefgaalab
open Go.RowKit

/-- One of the texts is longer than a text may be. -/
def anyLong (ts : List ByteArray) : Bool := ts.any fun t => decide (65536 < t.size)
theorem anyLong_of (ts : List ByteArray) (k : Nat) (h : k < ts.length) (hl : 65536 < ((ts.getD k ByteArray.empty).size : Int)) : anyLong ts = true := by
  unfold anyLong
  rw [List.any_eq_true]
  refine ⟨ts.getD k ByteArray.empty, ?_, by simp only [decide_eq_true_eq]; omega⟩
  rw [List.getD_eq_getElem?_getD, List.getElem?_eq_getElem h]; exact List.getElem_mem h
theorem anyLong_no (ts : List ByteArray) (h : ∀ j, j < ts.length → ((ts.getD j ByteArray.empty).size : Int) ≤ 65536) : anyLong ts = false := by
  unfold anyLong
  rw [List.any_eq_false]
  intro t ht
  obtain ⟨j, hj, rfl⟩ := List.getElem_of_mem ht
  have := h j hj
  rw [List.getD_eq_getElem?_getD, List.getElem?_eq_getElem hj] at this
  simp at this ⊢; omega

set_option maxHeartbeats 400000 in
theorem tooLong_any (ts : List ByteArray) (b : Nat) (w : World) (hn : ts.length ≤ 1000) (hs : ∀ j, j < ts.length → (ts.getD j ByteArray.empty).size ≤ maxLen)
    (hc : ∀ j, j < ts.length → w.cell? ⟨b, j, none⟩ = some (.string (ts.getD j ByteArray.empty))) :
    Calls Try.prog 18 #[.slice (some ⟨b, 0, none⟩) ts.length ts.length] w fun e w' => e = .returned (.bool (anyLong ts)) ∧ w' = w := by
  have H0 : Hid (∀ j, j < ts.length → w.cell? ⟨b, j, none⟩ = some (.string (ts.getD j ByteArray.empty))) := hc
  have H1 : Hid (∀ j, j < ts.length → (ts.getD j ByteArray.empty).size ≤ maxLen) := hs
  clear hc hs
  go_enter Try.func18, Try.ntmps18
  go_wp2
  go_loop [7] (fun i => ∃ k : Nat, k ≤ ts.length ∧ i = .int .i64 k ∧ Hid (∀ j, j < k → ((ts.getD j ByteArray.empty).size : Int) ≤ 65536)) (fun i => ts.length - (intOf i).toNat)
  case atStart => exact ⟨0, Nat.zero_le _, rfl, fun j hj => absurd hj (Nat.not_lt_zero _)⟩
  case round =>
    obtain ⟨k, hk, rfl, hb⟩ := hrel
    by_cases hlt : k < ts.length
    · have hcell := H0.out k hlt
      have hsz := H1.out k hlt
      obtain ⟨t, ht⟩ : ∃ t, t = ts.getD k ByteArray.empty := ⟨_, rfl⟩
      rw [← ht] at hcell hsz
      unfold maxLen at hsz
      have HT : Hid (t = ts.getD k ByteArray.empty) := ht
      clear ht
      by_cases hl : 65536 < (t.size : Int)
      · have e1 : anyLong ts = true := anyLong_of ts k hlt (by rw [← HT.out]; exact hl)
        have HE : Hid (anyLong ts = true) := e1
        clear e1
        go_wp2
        go_ret
        exact ⟨by rw [HE.out]; rfl, rfl⟩
      · go_wp2
        go_round
        case rel => 
          refine ⟨k + 1, by omega, by go_num, fun j hj => ?_⟩
          by_cases e : j = k
          · subst e; rw [← HT.out]; omega
          · exact hb.out j (by omega)
        case measure => simp [intOf]; omega
    · have e1 : anyLong ts = false := anyLong_no ts (fun j hj => hb.out j (by omega))
      have HE : Hid (anyLong ts = false) := e1
      clear e1
      go_wp2
      go_ret
      exact ⟨by rw [HE.out]; rfl, rfl⟩

theorem tooLong_one (t : ByteArray) (b : Nat) (w : World) (hs : t.size ≤ maxLen) (hc : w.cell? ⟨b, 0, none⟩ = some (.string t)) :
    Calls Try.prog 18 #[.slice (some ⟨b, 0, none⟩) 1 1] w fun e w' => e = .returned (.bool (anyLong [t])) ∧ w' = w := by
  refine tooLong_any [t] b w (by simp) ?_ ?_
  · intro j hj
    obtain rfl : j = 0 := by simp at hj; omega
    exact hs
  · intro j hj
    obtain rfl : j = 0 := by simp at hj; omega
    exact hc
theorem tooLong_two (t u : ByteArray) (b : Nat) (w : World) (ht : t.size ≤ maxLen) (hu : u.size ≤ maxLen) (hc : w.cell? ⟨b, 0, none⟩ = some (.string t)) (hd : w.cell? ⟨b, 1, none⟩ = some (.string u)) :
    Calls Try.prog 18 #[.slice (some ⟨b, 0, none⟩) 2 2] w fun e w' => e = .returned (.bool (anyLong [t, u])) ∧ w' = w := by
  refine tooLong_any [t, u] b w (by simp) ?_ ?_
  · intro j hj
    match j, hj with
    | 0, _ => exact ht
    | 1, _ => exact hu
    | n + 2, hj => exact absurd hj (by simp)
  · intro j hj
    match j, hj with
    | 0, _ => exact hc
    | 1, _ => exact hd
    | n + 2, hj => exact absurd hj (by simp)
theorem tooLong_three (t u v : ByteArray) (b : Nat) (w : World) (ht : t.size ≤ maxLen) (hu : u.size ≤ maxLen) (hv : v.size ≤ maxLen) (hc : w.cell? ⟨b, 0, none⟩ = some (.string t)) (hd : w.cell? ⟨b, 1, none⟩ = some (.string u)) (he : w.cell? ⟨b, 2, none⟩ = some (.string v)) :
    Calls Try.prog 18 #[.slice (some ⟨b, 0, none⟩) 3 3] w fun e w' => e = .returned (.bool (anyLong [t, u, v])) ∧ w' = w := by
  refine tooLong_any [t, u, v] b w (by simp) ?_ ?_
  · intro j hj
    match j, hj with
    | 0, _ => exact ht
    | 1, _ => exact hu
    | 2, _ => exact hv
    | n + 3, hj => exact absurd hj (by simp)
  · intro j hj
    match j, hj with
    | 0, _ => exact hc
    | 1, _ => exact hd
    | 2, _ => exact he
    | n + 3, hj => exact absurd hj (by simp)
theorem anyLong_two (t u : ByteArray) : anyLong [t, u] = (decide (65536 < t.size) || decide (65536 < u.size)) := by simp [anyLong]
theorem anyLong_three (t u v : ByteArray) : anyLong [t, u, v] = (decide (65536 < t.size) || (decide (65536 < u.size) || decide (65536 < v.size))) := by simp [anyLong]
theorem anyLong_one (t : ByteArray) : anyLong [t] = decide (65536 < t.size) := by simp [anyLong]

theorem info5 : (Try.prog.info? 5).map (fun i => (i.zero, i.size, i.bytes)) = some (some (.int .u8 0), 1, 1) := by kernel_rfl

set_option maxHeartbeats 400000 in
theorem reverse_much (t : ByteArray) (w : World) (hs : t.size ≤ maxLen) (hl : 65536 < t.size) :
    Calls Try.prog 15 #[.string t] w fun e w' => e = .returned (.tuple #[.string ⟨#[]⟩, .int .i64 4]) ∧ Below w.heap.size w w' := by
  have e1 : anyLong [t] = true := by rw [anyLong_one]; simpa using hl
  have HE : Hid (anyLong [t] = true) := e1
  clear e1
  go_enter Try.func15, Try.ntmps15
  go_wp2_with (go_at_call 18; refine (tooLong_one t _ _ hs (by simp)).mono ?_; rintro e w' ⟨rfl, rfl⟩; rw [HE.out])
  go_ret2
  exact ⟨rfl, (Below.refl _ _).alloc (Nat.le_refl _) _⟩

set_option maxHeartbeats 400000 in
theorem reverse_ok (t : ByteArray) (w : World) (hl : t.size ≤ 65536) :
    Calls Try.prog 15 #[.string t] w fun e w' => e = .returned (.tuple #[.string (rev t), .int .i64 0]) ∧ Below w.heap.size w w' := by
  have e1 : anyLong [t] = false := by rw [anyLong_one]; simpa using hl
  have HE : Hid (anyLong [t] = false) := e1
  clear e1
  obtain ⟨i0, hi, hz0, hz1, hz2⟩ := info_parts info5
  go_enter Try.func15, Try.ntmps15
  go_wp2_with (first
    | (go_at_call 18; refine (tooLong_one t _ _ (by unfold maxLen; omega) (by simp)).mono ?_; rintro e w' ⟨rfl, rfl⟩; rw [HE.out])
    | (at_make; refine wpList_make_full _ rfl _ _ 38 rfl (w.heap.size + 1) 5 i0 (.int .u8 0) 1 Try.underlying38 hi hz0 hz1 .i64 .i64 _ _ t.size rfl rfl (by omega) (by omega) (by rw [hz2]; omega) (by unfold maxLen; omega) (by simp) ?_; intro w1 hown hgrow))
  simp only [Nat.mul_one, Value.cells] at hown
  rw [toList_madeCells_one, ← revCells_zero] at hown
  have hb0 : Below w.heap.size w w1 := ((Below.refl _ _).alloc (Nat.le_refl _) _).grown hgrow (by simp) (fun k hk => by cases hk)
  simp only [World.size_alloc] at hown
  clear hgrow
  go_loopw [14] (fun i wr => ∃ k : Nat, k ≤ t.size ∧ i = .int .i64 k ∧ wr.ownsRow (w.heap.size + 1) 5 1 (.slice (some ⟨w.heap.size + 1, 0, none⟩) t.size t.size) t.size (revCells t k) ∧ Below w.heap.size w wr) (fun i _ => t.size - (intOf i).toNat)
  case atStart => exact ⟨0, Nat.zero_le _, rfl, hown, hb0⟩
  case round =>
    obtain ⟨k, hk, rfl, ho, hbl⟩ := hrel
    by_cases hlt : k < t.size
    · have hcell : wr.cell? ⟨w.heap.size + 1, t.size - 1 - k, none⟩ = some (.int .u8 0) := (ho.cellAt _ (by omega)).trans (revCells_at t k hlt)
      have hfr := ho.frozenAt (t.size - 1 - k)
      have hst := ho.stored (t.size - 1 - k) (.int .u8 (t[k].toNat : Int))
      rw [revCells_step t k hlt] at hst
      have HS := hst.1
      have HB : Below w.heap.size w (wr.setCell ⟨w.heap.size + 1, t.size - 1 - k, none⟩ (.int .u8 (t[k].toNat : Int))) := hbl.setCell (by simp) _
      clear hst ho hown hb0
      go_wp2
      go_roundw
      case rel => exact ⟨k + 1, by omega, by go_num, HS, HB⟩
      case measure => simp [intOf]; omega
    · obtain rfl : k = t.size := by omega
      rw [revCells_end] at ho
      have hcv : (convert 38 9 (.slice (some ⟨w.heap.size + 1, 0, none⟩) t.size t.size)).run Try.prog wr = .ok (.string (rev t)) wr := by
        have h := run_convert_bytes_back (P := Try.prog) wr 38 9 5 ⟨w.heap.size + 1, 0, none⟩ t.size (rev t).data.toList Try.underlying38 Try.underlying5 Try.underlying9 (fun j hj => ho.cells rfl j _ (by simp only [List.getElem?_map, List.getElem?_eq_getElem hj, Option.map_some, bc]))
        have e : (rev t).data.toList.length = t.size := by rw [← rev_size t]; simp
        rw [e] at h
        simpa using h
      clear ho hown hb0
      go_wp2
      go_ret2
      exact ⟨rfl, hbl⟩

theorem ret_bool {a b : Bool} (h : a = b) : Ending.returned (.bool a) = .returned (.bool b) := by rw [h]

theorem lit_rev : rev ⟨#[97, 98, 99]⟩ = ⟨#[99, 98, 97]⟩ := by simp [rev]

theorem bnext {w a b : World} (h : Below w.heap.size w a) (k : Below a.heap.size a b) : Below w.heap.size w b := h.trans (k.mono h.size)

set_option maxHeartbeats 400000 in
theorem alive_any (w : World) : Calls Try.prog 8 #[] w fun e w' => e = .returned (.bool true) ∧ Below w.heap.size w w' := by
  go_enter Try.func8, Try.ntmps8
  go_wp2_with (go_at_call 15; refine (reverse_ok _ _ (by decide)).mono ?_; rintro e w' ⟨rfl, hb⟩; rw [lit_rev])
  go_ret
  exact ⟨rfl, hb⟩

end Go.Proofs.Ytcphfhkefgaalab
