/- What the document's whole numbers of any size do: laid, copied, added, taken away, multiplied. -/
import Derived.Test.YtfjbafdgjpdbdaaDoorBigDiv
import Derived.Laws.Rows
import Derived.Deep.RegionHeld3
namespace Go.Proofs.YtfjbafdgjpdbdaaDoor
open Go.RowKit

/-- A block that holds one of the document's numbers. -/
def IntBlock (w : World) (z : Nat) : Prop := ∃ s v, w.heap[z]? = some (.cells #[.bool s, v] 48 (0, 0))
/-- The number that a block holds. -/
def IntAt (w : World) (z : Nat) (n : Int) : Prop := ∃ v, w.heap[z]? = some (.cells #[.bool (decide (n < 0)), v] 48 (0, 0)) ∧ NumAt w v n.natAbs
theorem IntAt.block {w : World} {z : Nat} {n : Int} (h : IntAt w z n) : IntBlock w z := by obtain ⟨v, h, _⟩ := h; exact ⟨_, v, h⟩
theorem IntBlock.lt {w : World} {z : Nat} (h : IntBlock w z) : z < w.heap.size := by
  obtain ⟨s, v, h⟩ := h
  exact (Array.getElem?_eq_some_iff.1 h).1
/-- Nothing but one block and what is new has changed. -/
structure But (z : Nat) (w w' : World) : Prop where
  os : w'.os = w.os
  tape : w'.tape = w.tape
  output : w'.output = w.output
  size : w.heap.size ≤ w'.heap.size
  block : ∀ k, k < w.heap.size → k ≠ z → w'.heap[k]? = w.heap[k]?
theorem But.of_below {z : Nat} {w w' : World} (h : Below w.heap.size w w') : But z w w' := ⟨h.os, h.tape, h.output, h.size, fun k hk _ => h.block k hk⟩
theorem But.trans {z : Nat} {a b c : World} (h : But z a b) (k : But z b c) : But z a c :=
  ⟨k.os.trans h.os, k.tape.trans h.tape, k.output.trans h.output, Nat.le_trans h.size k.size, fun i hi hz => (k.block i (Nat.lt_of_lt_of_le hi h.size) hz).trans (h.block i hi hz)⟩
theorem But.below {z : Nat} {a b c : World} (h : Below a.heap.size a b) (k : But z b c) (hz : a.heap.size ≤ z) : Below a.heap.size a c :=
  ⟨k.os.trans h.os, k.tape.trans h.tape, k.output.trans h.output, Nat.le_trans h.size k.size, fun i hi => (k.block i (Nat.lt_of_lt_of_le hi h.size) (by omega)).trans (h.block i hi)⟩
theorem But.belowz {z B : Nat} {b c : World} (k : But z b c) (hz : B ≤ z) (hB : B ≤ b.heap.size) : Below B b c :=
  ⟨k.os, k.tape, k.output, k.size, fun i hi => k.block i (by omega) (by omega)⟩
theorem cell_row {w : World} {z j : Nat} {C : Array Value} {t : TypeId} {fz : Nat × Nat} (h : w.heap[z]? = some (.cells C t fz)) : w.cell? ⟨z, j, none⟩ = C[j]? := by
  unfold World.cell?; simp [h]
theorem NumAt.but {w w' : World} {z n : Nat} {v : Value} (h : NumAt w v n) (hb : But z w w') (hz : IntBlock w z) : NumAt w' v n := by
  rcases h with h | ⟨b, cap, rfl, hc, hcell⟩
  · exact .inl h
  · refine .inr ⟨b, cap, rfl, hc, fun j hj => ?_⟩
    have h0 := hcell 0 (by omega)
    have hj' := hcell j hj
    have hne : b ≠ z := by
      rintro rfl
      obtain ⟨s, v, hz⟩ := hz
      rw [cell_row hz] at h0
      simp at h0
    rw [World.cell?_of_block (w := w) (hb.block b (lt_of_cell h0) hne)]
    exact hj'
theorem IntAt.but {w w' : World} {z x : Nat} {n : Int} (h : IntAt w x n) (hb : But z w w') (hz : IntBlock w z) (hx : x ≠ z) : IntAt w' x n := by
  have hl := h.block.lt
  obtain ⟨v, h1, h2⟩ := h
  exact ⟨v, (hb.block x hl hx).trans h1, h2.but hb hz⟩
theorem IntAt.below {w w' : World} {x : Nat} {n : Int} (h : IntAt w x n) (hb : Below w.heap.size w w') : IntAt w' x n := by
  have hl := h.block.lt
  obtain ⟨v, h1, h2⟩ := h
  exact ⟨v, (hb.block x hl).trans h1, h2.below hb⟩
theorem IntBlock.below {w w' : World} {x : Nat} (h : IntBlock w x) (hb : Below w.heap.size w w') : IntBlock w' x := by
  have hl := h.lt
  obtain ⟨s, v, h⟩ := h
  exact ⟨s, v, (hb.block x hl).trans h⟩
theorem IntBlock.but {w w' : World} {x z : Nat} (h : IntBlock w x) (hb : But z w w') (hx : x ≠ z) : IntBlock w' x := by
  have hl := h.lt
  obtain ⟨s, v, h⟩ := h
  exact ⟨s, v, (hb.block x hl hx).trans h⟩
abbrev ptr (z : Nat) : Value := .pointer (some ⟨z, 0, none⟩)
/-- A sign and a size. -/
def signedOf (s : Bool) (m : Nat) : Int := if s then -(m : Int) else m
theorem signedOf_abs (s : Bool) (m : Nat) : (signedOf s m).natAbs = m := by cases s <;> simp [signedOf]
theorem signedOf_neg (s : Bool) (m : Nat) : decide (signedOf s m < 0) = (s && decide (m ≠ 0)) := by
  cases s
  · have : ¬ signedOf false m < 0 := by simp [signedOf]
    simp [this]
  · by_cases h : m = 0
    · subst h; simp [signedOf]
    · have : signedOf true m < 0 := by simp [signedOf]; omega
      simp [this, h]
theorem signedOf_self (n : Int) : signedOf (decide (n < 0)) n.natAbs = n := by
  unfold signedOf
  by_cases h : n < 0
  · simp [h]; omega
  · simp [h]; omega

theorem given {w : World} {z m : Nat} {s s' s0 : Bool} {u v0 : Value} (hz : w.heap[z]? = some (.cells #[.bool s0, v0] 48 (0, 0))) (hu : NumAt w u m) (hs : s' = (s && decide (m ≠ 0))) :
    IntAt ((w.setCell ⟨z, 1, none⟩ u).setCell ⟨z, 0, none⟩ (.bool s')) z (signedOf s m) ∧ But z w ((w.setCell ⟨z, 1, none⟩ u).setCell ⟨z, 0, none⟩ (.bool s')) := by
  have h1 := heap_setCell_same w z 1 _ _ u hz
  have h2 := heap_setCell_same _ z 0 _ _ (.bool s') h1
  have hb : But z w ((w.setCell ⟨z, 1, none⟩ u).setCell ⟨z, 0, none⟩ (.bool s')) := by
    have hb0 : Below 0 w ((w.setCell ⟨z, 1, none⟩ u).setCell ⟨z, 0, none⟩ (.bool s')) := ((Below.refl 0 w).setCell (Nat.zero_le _) _).setCell (Nat.zero_le _) _
    refine ⟨hb0.os, hb0.tape, hb0.output, hb0.size, fun k hk hne => ?_⟩
    rw [heap_setCell_other _ _ _ _ (by simpa using hne), heap_setCell_other _ _ _ _ (by simpa using hne)]
  refine ⟨⟨u, ?_, ?_⟩, hb⟩
  · rw [signedOf_neg, ← hs]; exact h2
  · rw [signedOf_abs]; exact hu.but hb ⟨_, _, hz⟩

set_option maxHeartbeats 400000 in
theorem give_any (z m : Nat) (s : Bool) (u : Value) (w : World) (hz : IntBlock w z) (hu : NumAt w u m) (lm : (wordsOf m).length ≤ 1000000000) :
    Calls Tryd.prog 46 #[ptr z, .bool s, u] w fun e w' => e = .returned (ptr z) ∧ IntAt w' z (signedOf s m) ∧ But z w w' := by
  have H := hide hu
  obtain ⟨s0, v0, hz0⟩ := hz
  obtain ⟨a, ca, rfl, hca, _⟩ := hu.slice
  have Z := wordsOf_len_zero m
  generalize (wordsOf m).length = p at *
  have c0 : w.cell? ⟨z, 0, none⟩ = some (.bool s0) := by rw [cell_row hz0]; rfl
  have c1 : w.cell? ⟨z, 1, none⟩ = some v0 := by rw [cell_row hz0]; rfl
  have f0 := frozen_of_row w z 0 _ _ hz0
  have f1 := frozen_of_row w z 1 _ _ hz0
  have H0 := hide hz0
  clear hu hz0
  cases s
  · go_enter Tryd.func46, Tryd.ntmps46
    go_wp2
    go_ret
    exact ⟨rfl, given (unhide H0) (unhide H) (by simp)⟩
  · by_cases hp : p = 0
    · subst hp
      have HM := hide (Z.1 rfl)
      clear Z
      go_enter Tryd.func46, Tryd.ntmps46
      go_wp2
      go_ret
      exact ⟨rfl, given (unhide H0) (unhide H) (by rw [unhide HM]; rfl)⟩
    · have hd : decide (0 < p) = true := decide_eq_true (by omega)
      have HM := hide (show m ≠ 0 from fun e => hp (Z.2 e))
      clear Z
      go_enter Tryd.func46, Tryd.ntmps46
      go_wp2
      go_ret
      exact ⟨rfl, given (unhide H0) (unhide H) (by simp [unhide HM])⟩

theorem NumAt.drew {w : World} {v : Value} {n : Nat} (h : NumAt w v n) : NumAt w.drew v n := h
theorem IntBlock.drew {w : World} {z : Nat} (h : IntBlock w z) : IntBlock w.drew z := h
theorem small_len {m k : Nat} (h : m < 4294967296 ^ k) (hk : k ≤ 10000000) : (wordsOf m).length ≤ 10000000 := Nat.le_trans (wordsOf_length_le m k h) hk

set_option maxHeartbeats 400000 in
theorem setInt_any (z : Nat) (n : Int) (w : World) (hz : IntBlock w z) (hn : in64 n) :
    Calls Tryd.prog 66 #[ptr z, .int .i64 n] w fun e w' => e = .returned (ptr z) ∧ IntAt w' z n ∧ But z w w' := by
  have hl : n.natAbs < 18446744073709551616 := by unfold in64 at hn; omega
  have W := hide (words_any n.natAbs w hl)
  have hl2 := wordsOf_len_two hl
  have HS := hide (signedOf_self n)
  by_cases h0 : n < 0
  · have e := u64_negs n h0 hn.1
    have hd : decide (n < 0) = true := decide_eq_true h0
    rw [hd] at HS
    go_enter Tryd.func66, Tryd.ntmps66
    go_wp2_with fail
    refine (unhide W).mono ?_
    rintro e w1 ⟨⟨v, rfl, hv⟩, hb⟩
    have C := hide (give_any z n.natAbs true v w1 (hz.below hb) hv (by omega))
    rw [unhide HS] at C
    go_wp2_with fail
    refine (unhide C).mono ?_
    rintro e w2 ⟨rfl, hi, hb2⟩
    go_wp2
    go_ret
    exact ⟨rfl, hi, (But.of_below hb).trans hb2⟩
  · have hd : decide (n < 0) = false := decide_eq_false h0
    have hw : (n : Int) = (n.natAbs : Int) := by omega
    rw [hd] at HS
    have hn1 : 0 ≤ n := by omega
    have hn2 : n ≤ 9223372036854775807 := hn.2
    rw [← hw] at W
    clear hw
    go_enter Tryd.func66, Tryd.ntmps66
    go_wp2_with fail
    refine (unhide W).mono ?_
    rintro e w1 ⟨⟨v, rfl, hv⟩, hb⟩
    have C := hide (give_any z n.natAbs false v w1 (hz.below hb) hv (by omega))
    rw [unhide HS] at C
    go_wp2_with fail
    refine (unhide C).mono ?_
    rintro e w2 ⟨rfl, hi, hb2⟩
    go_wp2
    go_ret
    exact ⟨rfl, hi, (But.of_below hb).trans hb2⟩

theorem zero_int : (Tryd.prog.info? 48).map (fun i => (i.zero, i.size)) = some (some (.agg #[.bool false, .slice none 0 0]), 2) := by kernel_rfl
theorem fresh_int (w : World) : IntAt (w.alloc (.cells #[.bool false, .slice none 0 0] 48)) w.heap.size 0 := by
  refine ⟨.slice none 0 0, ?_, NumAt.nil _⟩
  exact heap_alloc_new w _

set_option maxHeartbeats 400000 in
theorem newInt_any (n : Int) (w : World) (hn : in64 n) :
    Calls Tryd.prog 50 #[.int .i64 n] w fun e w' => e = .returned (ptr w.heap.size) ∧ IntAt w' w.heap.size n ∧ Below w.heap.size w w' := by
  have C := hide (setInt_any w.heap.size n (w.alloc (.cells #[.bool false, .slice none 0 0] 48)) (fresh_int w).block hn)
  go_enter Tryd.func50, Tryd.ntmps50
  go_wp2_with fail
  refine (unhide C).mono ?_
  rintro e w1 ⟨rfl, hi, hb⟩
  have hb2 := But.below ((Below.refl w.heap.size w).alloc (Nat.le_refl _) _) hb (Nat.le_refl _)
  go_wp2
  go_ret
  exact ⟨rfl, hi, hb2⟩

end Go.Proofs.YtfjbafdgjpdbdaaDoor
