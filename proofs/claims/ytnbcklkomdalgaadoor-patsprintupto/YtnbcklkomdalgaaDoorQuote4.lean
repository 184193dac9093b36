/- What pats.Quote and needsBrackets do. -/
import Derived.Test.YtnbcklkomdalgaaDoorPrintRows4
import Derived.Test.YtnbcklkomdalgaaDoorPrintLib
namespace Go.Proofs.YtnbcklkomdalgaaDoor
open Go.RowKit

theorem rep_one (c : UInt8) (new : List UInt8) : ∀ s : List UInt8, Lib.replaceK [c] new (s.count c) s = s.flatMap fun x => if x = c then new else [x]
  | [] => rfl
  | b :: l => by
    have ih := rep_one c new l
    rw [List.flatMap_cons]
    by_cases hb : b = c
    · subst hb
      have h0 : Lib.index (b :: l) [b] = ((0 : Nat) : Int) := by simp [Lib.index]
      rw [List.count_cons_self, Lib.replaceK_hit [b] new _ _ 0 h0, if_pos rfl]
      show [] ++ new ++ Lib.replaceK [b] new (l.count b) l = _
      rw [ih]; rfl
    · rw [List.count_cons_of_ne hb, if_neg hb]
      cases hk : l.count c with
      | zero =>
        rw [hk] at ih
        show b :: l = [b] ++ _
        rw [← ih]; rfl
      | succ k =>
        obtain ⟨i, hi⟩ := Lib.index_of_count (s := l) (old := [c]) (by rw [Lib.count_one]; omega)
        have h1 : Lib.index (b :: l) [c] = ((i + 1 : Nat) : Int) := by
          have hp : [c].isPrefixOf (b :: l) = false := by simp [List.isPrefixOf]; exact fun e => hb e.symm
          rw [Lib.index, hp, hi]
          have : ((i : Int) == -1) = false := by rw [beq_eq_false_iff_ne]; omega
          simp [this]
        rw [Lib.replaceK_hit [c] new k _ _ h1]
        rw [hk, Lib.replaceK_hit [c] new k l i hi] at ih
        rw [← ih]
        rfl
theorem replace_quote (l : List UInt8) : Lib.replaceAll l [39] [39, 39] = l.flatMap fun c => if c = 39 then [39, 39] else [c] := by
  unfold Lib.replaceAll Lib.replace Lib.replaceNum
  rw [if_neg (by decide), if_pos (.inl (by decide)), Lib.count_one]
  exact rep_one 39 [39, 39] l

def quoteB (s : ByteArray) : ByteArray := ⟨(quoteL s.data.toList).toArray⟩
set_option maxHeartbeats 400000 in
theorem quote_any (s : ByteArray) (w : World) (hs : s.size ≤ 65536) (m : Int) (hm : w.cell? ⟨1, 0, none⟩ = some (.int .i64 m)) :
    Calls Tryd.prog 27 #[.string s] w fun e w' => e = .returned (.string (quoteB s)) ∧ Below w.heap.size w w' := by
  have hr := fun W hW => Tryd.strings_ReplaceAll s ⟨#[39]⟩ ⟨#[39, 39]⟩ m W (by omega) hW (by decide) (by have := Lib.countB_le ⟨#[39]⟩ (by decide) s.size s (Nat.le_refl _); show s.size + _ * 2 ≤ _; omega)
  have HR := hide hr
  have HM := hide hm
  clear hr hm
  go_enter Tryd.func27, Tryd.ntmps27
  go_wp2_with fail
  refine (unhide HR _ (unhide HM)).mono ?_
  rintro e w1 ⟨rfl, hb⟩
  obtain ⟨r, hrr⟩ : ∃ r, r = (⟨(Lib.replaceAll s.data.toList (⟨#[39]⟩ : ByteArray).data.toList (⟨#[39, 39]⟩ : ByteArray).data.toList).toArray⟩ : ByteArray) := ⟨_, rfl⟩
  rw [← hrr]
  have hq : quoteB s = ⟨#[39]⟩ ++ r ++ ⟨#[39]⟩ := by
    rw [hrr]
    show quoteB s = ⟨#[39]⟩ ++ ⟨(Lib.replaceAll s.data.toList [39] [39, 39]).toArray⟩ ++ ⟨#[39]⟩
    rw [replace_quote]
    apply ByteArray.ext
    apply Array.ext'
    simp [quoteB, quoteL]
  have hsz : (quoteB s).size = r.size + 2 := by rw [hq, ByteArray.size_append, ByteArray.size_append]; show 1 + r.size + 1 = _; omega
  have hsq : (quoteB s).size ≤ 131074 := by
    have h1 := quoteL_len s.data.toList
    have h2 : s.data.toList.length = s.size := by simp
    have h3 : (quoteB s).size = (quoteL s.data.toList).length := by simp [quoteB, ByteArray.size]
    omega
  have g1 : ¬ 9223372036854775807 < 1 + r.size := by omega
  have g2 : ¬ 9223372036854775807 < 1 + r.size + 1 := by omega
  have HQ := hide hq
  have HB := hide hb
  clear hrr hq hsz hsq hb
  go_wp2_with fail
  go_ret
  exact ⟨by rw [unhide HQ]; rfl, unhide HB⟩

theorem quoteB_size (s : ByteArray) (hs : s.size ≤ 65536) : (quoteB s).size ≤ 131074 := by
  have h1 := quoteL_len s.data.toList
  have h2 : s.data.toList.length = s.size := by simp
  have h3 : (quoteB s).size = (quoteL s.data.toList).length := by simp [quoteB, ByteArray.size]
  omega

set_option maxHeartbeats 400000 in
theorem brackets_any (p k : Int) (w : World) : Calls Tryd.prog 44 #[.int .i64 p, .int .i64 k] w fun e w' => e = .returned (.bool (brk p k)) ∧ w' = w := by
  by_cases h1 : k = 19
  · have e1 : (k == 19) = true := by rw [beq_iff_eq]; exact h1
    have HB := hide (show brk p k = true by unfold brk; simp [h1])
    clear h1
    go_enter Tryd.func44, Tryd.ntmps44
    go_wp2_with fail
    go_ret
    exact ⟨by rw [unhide HB]; rfl, rfl⟩
  · have e1 : (k == 19) = false := by rw [beq_eq_false_iff_ne]; exact h1
    by_cases h2 : k = 18
    · have e2 : (k == 18) = true := by rw [beq_iff_eq]; exact h2
      by_cases h3 : p = 19
      · have e3 : (p != 19) = false := by rw [bne_eq_false_iff_eq]; exact h3
        have HB := hide (show brk p k = false by unfold brk; simp [h1, h3])
        clear h1 h2 h3
        go_enter Tryd.func44, Tryd.ntmps44
        go_wp2_with fail
        go_ret
        exact ⟨by rw [unhide HB]; rfl, rfl⟩
      · have e3 : (p != 19) = true := by rw [bne_iff_ne]; exact h3
        have HB := hide (show brk p k = true by unfold brk; simp [h2, h3])
        clear h1 h2 h3
        go_enter Tryd.func44, Tryd.ntmps44
        go_wp2_with fail
        go_ret
        exact ⟨by rw [unhide HB]; rfl, rfl⟩
    · have e2 : (k == 18) = false := by rw [beq_eq_false_iff_ne]; exact h2
      have HB := hide (show brk p k = false by unfold brk; simp [h1, h2])
      clear h1 h2
      go_enter Tryd.func44, Tryd.ntmps44
      go_wp2_with fail
      go_ret
      exact ⟨by rw [unhide HB]; rfl, rfl⟩
end Go.Proofs.YtnbcklkomdalgaaDoor
