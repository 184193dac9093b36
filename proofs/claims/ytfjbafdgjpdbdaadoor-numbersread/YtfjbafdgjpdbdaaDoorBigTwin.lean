/- What twin does: a number's words copied. -/
import Derived.Test.YtfjbafdgjpdbdaaDoorBigCmp
import Derived.Laws.AppendOwn
import Derived.Laws.AppendOwnNone
import Derived.Laws.OwnMore
namespace Go.Proofs.YtfjbafdgjpdbdaaDoor
open Go.RowKit

/-- A word as a cell. -/
def wc (x : Nat) : Value := .int .u32 (x : Int)
theorem owned_words {w : World} {base n : Nat} {v : Value} {ws : List Nat} (h : w.ownsRow base 93 1 v n (ws.map wc)) : WordsAt w v ws := by
  obtain ⟨hl, h⟩ := h
  have hn : ws.length = n := by simpa using hl
  rcases h with ⟨rfl, rfl⟩ | ⟨g, cap, cur, rfl, hb, hg, hc, hm, hz, ht⟩
  · exact .inl ⟨rfl, List.eq_nil_of_length_eq_zero hn⟩
  · refine .inr ⟨g, cap, by rw [hn], by omega, fun j hj => ?_⟩
    have hcur : cur[j]? = some (wc (ws.getD j 0)) := by
      have := congrArg (·[j]?) ht
      simp only [Nat.mul_one, List.getElem?_take, List.getElem?_map] at this
      rw [if_pos (by omega), List.getElem?_eq_getElem hj] at this
      rw [List.getD_eq_getElem?_getD, List.getElem?_eq_getElem hj]
      simpa using this
    unfold World.cell?
    simp only [hg]
    exact hcur
theorem add_zero_none (b j : Nat) : (⟨b, 0, none⟩ : Addr).add j = ⟨b, j, none⟩ := by
  unfold Addr.add
  split
  · rename_i h; subst h; rfl
  · simp
theorem info32 : (Tryd.prog.info? 93).map (fun i => (i.zero, i.size, i.bytes)) = some (some (.int .u32 0), 1, 4) := by kernel_rfl

set_option maxHeartbeats 400000 in
theorem twin_any (m : Nat) (u : Value) (w : World) (hu : NumAt w u m) (lm : (wordsOf m).length ≤ 1000000000) :
    Calls Tryd.prog 47 #[u] w fun e w' => (∃ v, e = .returned v ∧ NumAt w' v m) ∧ Below w.heap.size w w' := by
  obtain ⟨i0, hi, hz0, hz1, hz2⟩ := info_parts info32
  rcases hu with ⟨rfl, h0⟩ | ⟨b, cap, rfl, hc, hcell⟩
  · go_enter Tryd.func47, Tryd.ntmps47
    go_wp2_with (at_builtin; refine wpList_append_own_none rfl _ _ 46 rfl w.heap.size 93 i0 1 Tryd.underlying46 hi _ 0 [] rfl (World.ownsRow_nil w _ _ _) rfl ?_)
    go_ret
    exact ⟨⟨_, rfl, .inl ⟨rfl, h0⟩⟩, Below.refl _ _⟩
  · obtain ⟨ws, hws⟩ : ∃ ws, ws = wordsOf m := ⟨_, rfl⟩
    rw [← hws] at hcell hc lm
    rw [← hws]
    have HW := hide hws
    clear hws
    go_enter Tryd.func47, Tryd.ntmps47
    go_wp2_with (at_builtin; refine wpList_append_own _ rfl _ _ 46 rfl w.heap.size 93 i0 (.int .u32 0) 1 4 Tryd.underlying46 hi hz0 hz1 hz2 rfl (by decide) _ 0 [] rfl (World.ownsRow_nil w _ _ _) ⟨b, 0, none⟩ ws.length cap (ws.map wc) rfl (by simp) ?_ ?_ (by unfold maxLen; omega) (by omega) (Nat.le_refl _) ?_)
    · intro j u hj
      rw [List.getElem?_map] at hj
      obtain ⟨x, hx, rfl⟩ := Option.map_eq_some_iff.1 hj
      have hlt : j < ws.length := (List.getElem?_eq_some_iff.1 hx).1
      have := hcell j hlt
      rw [List.getD_eq_getElem?_getD, hx] at this
      rw [add_zero_none]; exact this
    · intro u hu
      obtain ⟨x, _, rfl⟩ := List.mem_map.1 hu
      rfl
    · intro v' w1 hown hgrow _
      have hb : Below w.heap.size w w1 := (Below.refl _ _).grown hgrow (Nat.le_refl _) (fun k hk => by cases hk)
      have hv := owned_words hown
      rw [unhide HW] at hv
      clear hown hgrow
      go_wp2
      go_ret
      exact ⟨⟨_, rfl, hv⟩, hb⟩
end Go.Proofs.YtfjbafdgjpdbdaaDoor
