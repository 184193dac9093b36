/- What texts.Split and the document's Same answer. -/
import Derived.Test.YtmplbdapehmciaaDoorClone
import Derived.Test.YtmplbdapehmciaaDoorSplitPlain
import Derived.Test.YtmplbdapehmciaaDoorSplitLib
import Derived.Deep.QuietTactic
import Derived.BigQuiet
namespace Go.Proofs.YtmplbdapehmciaaDoor
open Go.RowKit

theorem info_str : (Tryd.prog.info? 9).map (fun i => (i.zero, i.size, i.bytes)) = some (some (.string ⟨#[]⟩), 1, 16) := by kernel_rfl

/-- What is wrong with a splitting. -/
def splitE (t s : ByteArray) : Int := if 65536 < t.size then 4 else if s.size ≠ 1 then 8 else 0

/-- A slice of texts that lies in memory: its cells. -/
def StrsAt (w : World) (v : Value) (xs : List ByteArray) : Prop :=
  ∃ a cap, v = .slice a xs.length cap ∧ xs.length ≤ cap ∧ (xs = [] ∨ ∃ b off, a = some ⟨b, off, none⟩ ∧ ∀ j, j < xs.length → w.cell? ⟨b, off + j, none⟩ = some (.string (xs.getD j ByteArray.empty)))
theorem StrsAt.later {w w' : World} {v : Value} {xs : List ByteArray} (h : StrsAt w v xs) (hb : Below w.heap.size w w') : StrsAt w' v xs := by
  obtain ⟨a, cap, rfl, hc, hx⟩ := h
  refine ⟨a, cap, rfl, hc, ?_⟩
  rcases hx with hx | ⟨b, off, rfl, hx⟩
  · exact .inl hx
  · exact .inr ⟨b, off, rfl, fun j hj => cell_later hb (hx j hj)⟩

set_option maxHeartbeats 400000 in
theorem split_much (t s : ByteArray) (w : World) (ht : t.size ≤ maxLen) (hl : 65536 < t.size) :
    Calls Tryd.prog 4 #[.string t, .string s] w fun e w' => e = .returned (.tuple #[.slice none 0 0, .int .i64 4]) ∧ Below w.heap.size w w' := by
  have HE := hide (show anyLong [t] = true by rw [anyLong_one]; simpa using hl)
  go_enter Tryd.func4, Tryd.ntmps4
  go_wp2_with (go_at_call 9; refine (tooLong_one t _ _ ht (by simp)).mono ?_; rintro e w' ⟨rfl, rfl⟩; rw [unhide HE])
  go_ret2
  exact ⟨rfl, (Below.refl _ _).alloc (Nat.le_refl _) _⟩

set_option maxHeartbeats 400000 in
theorem split_fit (t s : ByteArray) (w : World) (hl : t.size ≤ 65536) (hs : s.size ≠ 1) :
    Calls Tryd.prog 4 #[.string t, .string s] w fun e w' => e = .returned (.tuple #[.slice none 0 0, .int .i64 8]) ∧ Below w.heap.size w w' := by
  have HE := hide (show anyLong [t] = false by rw [anyLong_one]; simpa using hl)
  have h2 : ((s.size : Int) != 1) = true := by rw [bne_iff_ne]; omega
  clear hs
  go_enter Tryd.func4, Tryd.ntmps4
  go_wp2_with (go_at_call 9; refine (tooLong_one t _ _ (by unfold maxLen; omega) (by simp)).mono ?_; rintro e w' ⟨rfl, rfl⟩; rw [unhide HE])
  go_ret2
  exact ⟨rfl, (Below.refl _ _).alloc (Nat.le_refl _) _⟩

theorem pieces_length (c : UInt8) (t : ByteArray) : (pieces c t).length = Lib.countB t ⟨#[c]⟩ + 1 := by
  unfold pieces
  rw [List.length_map, pcs_length]
  show _ = Lib.count t.data.toList [c] + 1
  rw [Lib.count_one]

theorem strs_alloc (W : World) (xs : List ByteArray) : StrsAt (W.alloc (.cells (xs.map Value.string).toArray 9)) (.slice (some ⟨W.heap.size, 0, none⟩) xs.length xs.length) xs := by
  refine ⟨_, _, rfl, Nat.le_refl _, .inr ⟨_, _, rfl, fun j hj => ?_⟩⟩
  rw [World.cell?_alloc_at _ _ _ _ rfl]
  simp [hj]
theorem strs_own {w : World} {B : Nat} {v : Value} {xs : List ByteArray} (h : w.ownsRow B 9 1 v xs.length (xs.map Value.string)) : StrsAt w v xs := by
  rcases h.2 with ⟨rfl, h0⟩ | ⟨g, cap, cur, rfl, _, _, hc, _, _, _⟩
  · have : xs = [] := List.eq_nil_of_length_eq_zero h0
    subst this
    exact ⟨none, 0, rfl, Nat.le_refl _, .inl rfl⟩
  · refine ⟨_, cap, rfl, hc, .inr ⟨g, 0, rfl, fun j hj => ?_⟩⟩
    have := h.cellAt (g := g) (cap := cap) j (by omega)
    rw [Nat.zero_add, this]
    simp [hj]

set_option maxHeartbeats 400000 in
theorem split_ok (t : ByteArray) (c : UInt8) (m : Int) (w : World) (hl : t.size ≤ 65536) (hm : w.cell? ⟨0, 0, none⟩ = some (.int .i64 m)) :
    Calls Tryd.prog 4 #[.string t, .string ⟨#[c]⟩] w fun e w' => ∃ v, e = .returned (.tuple #[v, .int .i64 0]) ∧ StrsAt w' v (pieces c t) ∧ Below w.heap.size w w' := by
  have HE := hide (show anyLong [t] = false by rw [anyLong_one]; simpa using hl)
  have hsp := fun W hW => Tryd.strings_Split t ⟨#[c]⟩ m W (by omega) hW (Nat.le_refl 1)
  rw [split_eq c _ t rfl, ← pieces_length] at hsp
  have h2 : (((⟨#[c]⟩ : ByteArray).size : Int) != 1) = false := rfl
  generalize pieces c t = ps at *
  have HSP := hide hsp
  have HM := hide hm
  clear hsp hm
  go_enter Tryd.func4, Tryd.ntmps4
  go_wp2_with (first | (go_at_call 9; refine (tooLong_one t _ _ (by unfold maxLen; omega) (by simp)).mono ?_; rintro e w' ⟨rfl, rfl⟩; rw [unhide HE]) | (go_at_call 11; refine (clone_any t _ (by omega)).mono ?_; rintro e w1 ⟨rfl, hb1⟩))
  refine (unhide HSP _ (cell_later (bnext ((Below.refl _ _).alloc (Nat.le_refl _) _) hb1) (unhide HM))).mono ?_
  rintro e w2 ⟨rfl, rfl⟩
  have hs := strs_alloc w1 ps
  have hb2 := (bnext ((Below.refl _ w).alloc (Nat.le_refl _) (.cells #[.string t] 9)) hb1).alloc (by have := hb1.size; simp at this; omega) (.cells (ps.map Value.string).toArray 9)
  generalize w1.alloc (.cells (ps.map Value.string).toArray 9) = w2 at *
  generalize (Value.slice (some ⟨w1.heap.size, 0, none⟩) ps.length ps.length) = v at *
  go_wp2
  go_ret2
  exact ⟨v, rfl, hs, hb2⟩

/-- A list of bytes as a text. -/
def mkT (l : List UInt8) : ByteArray := ⟨l.toArray⟩
theorem strs_nil (w : World) : StrsAt w (.slice none 0 0) [] := ⟨none, 0, rfl, Nat.le_refl _, .inl rfl⟩

set_option maxHeartbeats 1000000 in
theorem same_true (xs : List ByteArray) (va vb : Value) (w : World) (hn : xs.length ≤ 1000000000000000) (ha : StrsAt w va xs) (hb : StrsAt w vb xs) :
    Calls Tryd.prog 6 #[va, vb] w fun e w' => e = .returned (.bool true) ∧ Below w.heap.size w w' := by
  obtain ⟨a, ca, rfl, hca, hxa⟩ := ha
  obtain ⟨b, cb, rfl, hcb, hxb⟩ := hb
  have hne : ((xs.length : Int) != (xs.length : Int)) = false := by simp
  by_cases h0 : xs = []
  · subst h0
    clear hxa hxb hca hcb hn
    go_enter Tryd.func6, Tryd.ntmps6
    go_wp2
    refine wp_loop_rounds 1 ?_
    rw [rounds_succ]
    go_wp2
    go_ret
    exact ⟨rfl, Below.refl _ _⟩
  · rcases hxa with hx | ⟨ba, oa, rfl, hxa⟩
    · exact absurd hx h0
    · rcases hxb with hx | ⟨bb, ob, rfl, hxb⟩
      · exact absurd hx h0
      · have HA := hide hxa
        have HB := hide hxb
        clear hxa hxb h0
        generalize xs.length = n at *
        go_enter Tryd.func6, Tryd.ntmps6
        go_wp2
        go_loopw [13] (fun i wr => ∃ k : Nat, k ≤ n ∧ i = .int .i64 (k : Int) ∧ Below w.heap.size w wr) (fun i _ => n - (intOf i).toNat)
        case atStart => exact ⟨0, Nat.zero_le _, rfl, Below.refl _ _⟩
        case round =>
          obtain ⟨k, hk, rfl, hbl⟩ := hrel
          by_cases hlt : k < n
          · have c1 := cell_later hbl (unhide HA k hlt)
            have c2 := cell_later hbl (unhide HB k hlt)
            generalize xs.getD k ByteArray.empty = x at *
            have g1 : (k : Int) < (n : Int) := by omega
            go_wp2
            go_quiet (fail)
            go_wp2
            go_roundw
            case rel => exact ⟨k + 1, by omega, by go_num, below_drewN hbl _⟩
            case measure => simp [intOf]; omega
          · go_wp2
            go_ret
            exact ⟨rfl, hbl⟩
end Go.Proofs.YtmplbdapehmciaaDoor
