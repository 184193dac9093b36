/- What the words' functions trim and words do: the document's numbers of any size. -/
import Derived.Test.YtfjbafdgjpdbdaaDoorRows
import Derived.Test.YtfjbafdgjpdbdaaDoorBigPlain
import Derived.Test.YtfjbafdgjpdbdaaDoorNums
import Derived.WalkKit
import Derived.WalkSpells
import Derived.WalkLawsBesides
import Derived.Below
import Derived.OpenShut
import Derived.Deep.QuietTactic
import Derived.BigQuiet
import Derived.Deep.RegionWith
namespace Go.Proofs.YtfjbafdgjpdbdaaDoor
open Go.RowKit

/-- A slice of words as it lies in a world. -/
def WordsAt (w : World) (v : Value) (ws : List Nat) : Prop :=
  (v = .slice none 0 0 ∧ ws = []) ∨ ∃ b cap, v = .slice (some ⟨b, 0, none⟩) ws.length cap ∧ ws.length ≤ cap ∧ ∀ j, j < ws.length → w.cell? ⟨b, j, none⟩ = some (.int .u32 ((ws.getD j 0 : Nat) : Int))
/-- A number's words as they lie in a world. -/
def NumAt (w : World) (v : Value) (n : Nat) : Prop := WordsAt w v (wordsOf n)
theorem lt_of_cell {w : World} {p : Addr} {v : Value} (h : w.cell? p = some v) : p.block < w.heap.size := by
  by_cases hh : p.block < w.heap.size
  · exact hh
  · exfalso
    unfold World.cell? at h
    rw [Array.getElem?_eq_none (by omega)] at h
    simp at h
theorem WordsAt.below {w w' : World} {v : Value} {ws : List Nat} (h : WordsAt w v ws) (hb : Below w.heap.size w w') : WordsAt w' v ws := by
  rcases h with h | ⟨b, cap, rfl, hc, hcell⟩
  · exact .inl h
  · refine .inr ⟨b, cap, rfl, hc, fun j hj => ?_⟩
    have := hcell j hj
    rw [hb.cell (lt_of_cell this), this]
theorem NumAt.below {w w' : World} {v : Value} {n : Nat} (h : NumAt w v n) (hb : Below w.heap.size w w') : NumAt w' v n := WordsAt.below h hb
theorem NumAt.nil (w : World) : NumAt w (.slice none 0 0) 0 := .inl ⟨rfl, wordsOf_zero⟩
theorem WordsAt.slice {w : World} {v : Value} {ws : List Nat} (h : WordsAt w v ws) : ∃ a cap, v = .slice a ws.length cap ∧ ws.length ≤ cap ∧ ∀ j, j < ws.length → ∃ b, a = some ⟨b, 0, none⟩ ∧ w.cell? ⟨b, j, none⟩ = some (.int .u32 ((ws.getD j 0 : Nat) : Int)) := by
  rcases h with ⟨rfl, rfl⟩ | ⟨b, cap, rfl, hc, hcell⟩
  · exact ⟨none, 0, rfl, Nat.le_refl _, fun j hj => by simp at hj⟩
  · exact ⟨_, cap, rfl, hc, fun j hj => ⟨b, rfl, hcell j hj⟩⟩

theorem trimmed {ws : List Nat} {b cap k : Nat} {w : World} (hs : small ws) (hc : ws.length ≤ cap) (hcell : ∀ j, j < ws.length → w.cell? ⟨b, j, none⟩ = some (.int .u32 ((ws.getD j 0 : Nat) : Int)))
    (hk : k ≤ ws.length) (hz : ∀ j, k ≤ j → j < ws.length → ws.getD j 0 = 0) (hl : k = 0 ∨ ∃ m, k = m + 1 ∧ ws.getD m 0 ≠ 0) : NumAt w (.slice (some ⟨b, 0, none⟩) k cap) (val ws) := by
  have e : wordsOf (val ws) = ws.take k := by
    rw [← val_take ws k hz hk]
    apply wordsOf_val
    · intro x hx; exact hs x (List.mem_of_mem_take hx)
    · rcases hl with rfl | ⟨m, rfl, hm⟩
      · simp
      · rw [List.getLast?_take]
        simp only [Nat.add_one_ne_zero, if_false, Nat.add_sub_cancel]
        rw [List.getElem?_eq_getElem (by omega)]
        rw [List.getD_eq_getElem?_getD, List.getElem?_eq_getElem (by omega)] at hm
        simp at hm ⊢; exact hm
  have hlen : (ws.take k).length = k := by simp; omega
  unfold NumAt
  rw [e]
  refine .inr ⟨b, cap, by rw [hlen], by omega, fun j hj => ?_⟩
  rw [hlen] at hj
  rw [hcell j (by omega)]
  congr 3
  rw [List.getD_eq_getElem?_getD, List.getD_eq_getElem?_getD, List.getElem?_take, if_pos hj]

set_option maxHeartbeats 400000 in
theorem trim_any (ws : List Nat) (b cap : Nat) (w : World) (hs : small ws) (hc : ws.length ≤ cap) (hcap : cap ≤ 1000000000)
    (hcell : ∀ j, j < ws.length → w.cell? ⟨b, j, none⟩ = some (.int .u32 ((ws.getD j 0 : Nat) : Int))) :
    Calls Tryd.prog 71 #[.slice (some ⟨b, 0, none⟩) ws.length cap] w fun e w' => (∃ v, e = .returned v ∧ NumAt w v (val ws)) ∧ w' = w := by
  have H0 := hide hcell
  have HS := hide hs
  clear hcell hs
  go_enter Tryd.func71, Tryd.ntmps71
  go_wp2
  go_loop [3] (fun i => ∃ k : Nat, k ≤ ws.length ∧ i = .int .i64 k ∧ Hid (∀ j, k ≤ j → j < ws.length → ws.getD j 0 = 0)) (fun i => (intOf i).toNat)
  case atStart => exact ⟨ws.length, Nat.le_refl _, rfl, hide (fun j h1 h2 => by omega)⟩
  case round =>
    obtain ⟨k, hk, rfl, hz⟩ := hrel
    by_cases h0 : k = 0
    · subst h0
      go_wp2
      go_ret
      exact ⟨⟨_, rfl, trimmed (unhide HS) hc (unhide H0) (by omega) (unhide hz) (.inl rfl)⟩, rfl⟩
    · obtain ⟨m, rfl⟩ : ∃ m, k = m + 1 := ⟨k - 1, by omega⟩
      have hcell := unhide H0 m (by omega)
      by_cases hx : ws.getD m 0 = 0
      · rw [hx] at hcell
        go_wp2
        go_round
        case rel =>
          refine ⟨m, by omega, rfl, hide (fun j h1 h2 => ?_)⟩
          by_cases e : j = m
          · subst e; exact hx
          · exact unhide hz j (by omega) h2
        case measure => simp [intOf]
      · have HX := hide hx
        obtain ⟨x, hxx⟩ : ∃ x, x = ws.getD m 0 := ⟨_, rfl⟩
        rw [← hxx] at hcell hx
        clear hxx
        go_wp2
        go_ret
        exact ⟨⟨_, rfl, trimmed (unhide HS) hc (unhide H0) (by omega) (unhide hz) (.inr ⟨m, rfl, unhide HX⟩)⟩, rfl⟩

theorem words_two (x : Nat) (h : x < 18446744073709551616) : val [x % 4294967296, x / 4294967296] = x ∧ small [x % 4294967296, x / 4294967296] := by
  refine ⟨by simp [val]; omega, fun y hy => ?_⟩
  simp at hy; omega

set_option maxHeartbeats 400000 in
theorem words_any (x : Nat) (w : World) (h : x < 18446744073709551616) :
    Calls Tryd.prog 69 #[.int .u64 x] w fun e w' => (∃ v, e = .returned v ∧ NumAt w' v x) ∧ Below w.heap.size w w' := by
  go_enter Tryd.func69, Tryd.ntmps69
  go_wp2_with fail
  have hw := words_two x h
  have C := trim_any [x % 4294967296, x / 4294967296] w.heap.size 2 (w.alloc (Obj.cells #[Value.int IntKind.u32 ((x : Int) % 4294967296), Value.int IntKind.u32 ((x : Int) / 4294967296)] 93)) hw.2 (by simp) (by simp) (by
    intro j hj
    match j, hj with
    | 0, _ => rw [World.cell?_alloc_at _ _ _ _ (by simp)]; rfl
    | 1, _ => rw [World.cell?_alloc_at _ _ _ _ (by simp)]; rfl
    | n + 2, hj => exact absurd hj (by simp))
  rw [hw.1] at C
  refine C.mono ?_
  rintro e w1 ⟨⟨v, rfl, hv⟩, rfl⟩
  have hb : Below w.heap.size w (w.alloc (Obj.cells #[Value.int IntKind.u32 ((x : Int) % 4294967296), Value.int IntKind.u32 ((x : Int) / 4294967296)] 93)) := (Below.refl _ _).alloc (Nat.le_refl _) _
  generalize w.alloc (Obj.cells #[Value.int IntKind.u32 ((x : Int) % 4294967296), Value.int IntKind.u32 ((x : Int) / 4294967296)] 93) = w1 at *
  go_wp2
  go_ret
  exact ⟨⟨v, rfl, hv⟩, hb⟩
end Go.Proofs.YtfjbafdgjpdbdaaDoor
