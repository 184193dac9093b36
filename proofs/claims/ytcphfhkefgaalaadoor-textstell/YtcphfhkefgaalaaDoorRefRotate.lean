/- What the document's own turning round of a text answers. -/
import Derived.Test.YtcphfhkefgaalaaDoorRefReverse
import Derived.Test.YtcphfhkefgaalaaDoorRoundPlain
import Derived.Laws.IdiomStrings
namespace Go.Proofs.YtcphfhkefgaalaaDoor
open Go.RowKit

theorem rot_get (t : ByteArray) (n : Int) (k : Nat) (h : k < t.size) (hm : (k + rotK t.size n) % t.size < t.size) : (rot t n).data.toList[k]'(by rw [Array.length_toList]; exact (show k < (rot t n).size by rw [rot_size]; exact h)) = t[(k + rotK t.size n) % t.size] := by
  have e := rot_at t n k h
  rw [List.getElem?_eq_getElem (by rw [Array.length_toList]; exact (show k < (rot t n).size by rw [rot_size]; exact h)), List.getElem?_eq_getElem (by simpa using hm)] at e
  have := Option.some.inj e
  rw [this]; rfl

set_option maxHeartbeats 400000 in
theorem refRotate_much (t : ByteArray) (n : Int) (w : World) (hs : t.size ≤ maxLen) (hl : 65536 < t.size) :
    Calls Tryd.prog 10 #[.string t, .int .i64 n] w fun e w' => e = .returned (.tuple #[.string ⟨#[]⟩, .int .i64 4]) ∧ Below w.heap.size w w' := by
  have HE := hide (show anyLong [t] = true by rw [anyLong_one]; simpa using hl)
  go_enter Tryd.func10, Tryd.ntmps10
  go_wp2_with (go_at_call 23; refine (much_one t _ _ hs (by simp)).mono ?_; rintro e w' ⟨rfl, rfl⟩; rw [unhide HE])
  go_ret2
  exact ⟨rfl, (Below.refl _ _).alloc (Nat.le_refl _) _⟩

set_option maxHeartbeats 1000000 in
theorem refRotate_ok (t : ByteArray) (n : Int) (w : World) (hl : t.size ≤ 65536) (_b1 : -9223372036854775808 ≤ n) (_b2 : n ≤ 9223372036854775807) :
    Calls Tryd.prog 10 #[.string t, .int .i64 n] w fun e w' => e = .returned (.tuple #[.string (rot t n), .int .i64 0]) ∧ Below w.heap.size w w' := by
  have HE := hide (show anyLong [t] = false by rw [anyLong_one]; simpa using hl)
  by_cases h0 : t.size = 0
  · have he : ((t.size : Int) == 0) = true := by rw [beq_iff_eq]; omega
    rw [rot_empty t n h0]
    clear h0
    go_enter Tryd.func10, Tryd.ntmps10
    go_wp2_with (go_at_call 23; refine (much_one t _ _ (by unfold maxLen; omega) (by simp)).mono ?_; rintro e w' ⟨rfl, rfl⟩; rw [unhide HE])
    go_ret2
    exact ⟨rfl, (Below.refl _ _).alloc (Nat.le_refl _) _⟩
  · have he : ((t.size : Int) == 0) = false := by rw [beq_eq_false_iff_ne]; omega
    have hp : 0 < t.size := by omega
    have hp' : (1 : Int) ≤ (t.size : Int) := by omega
    have hlt := rotK_lt t.size n hp
    have hcast := rotK_cast t.size n hp
    have hcs := tmod_cases n t.size hp
    rw [← hcast] at hcs
    have hrl : (rot t n).data.toList.length = t.size := by rw [Array.length_toList]; exact rot_size t n
    have hget : ∀ k (h : k < t.size), ((rot t n).data.toList.take (k + 1)).map bc = ((rot t n).data.toList.take k).map bc ++ [.int .u8 ((t[(k + rotK t.size n) % t.size]'(Nat.mod_lt _ hp)).toNat : Int)] := fun k h => by
      rw [take_bytes _ k (by rw [hrl]; exact h), rot_get t n k h (Nat.mod_lt _ hp)]
    generalize rotK t.size n = K at *
    generalize rot t n = r at *
    have HR := hide hrl
    have HG := hide hget
    obtain ⟨i0, hi, hz0, hz1, hz2⟩ := info_parts info_byte
    have hcv := fun W => run_bytes_of_string (P := Tryd.prog) W 9 38 5 t Tryd.underlying9 Tryd.underlying38 Tryd.underlying5
    clear hrl hget hcast
    have hk2 : n.tmod t.size = (K : Int) ∨ n.tmod t.size = (K : Int) - (t.size : Int) := by
      by_cases hk : 0 ≤ n.tmod t.size
      · exact .inl (hcs.1 hk)
      · exact .inr (hcs.2 (by omega))
    clear hcs
    have hdec1 : decide ((K : Int) - (t.size : Int) < 0) = true := by simp; omega
    have hdec2 : decide ((K : Int) < 0) = false := by simp
    rcases hk2 with hkk | hkk
    all_goals
      go_enter Tryd.func10, Tryd.ntmps10
      go_wp2_with (go_at_call 23; refine (much_one t _ _ (by unfold maxLen; omega) (by simp)).mono ?_; rintro e w' ⟨rfl, rfl⟩; rw [unhide HE])
      go_loopw [6, 27] (fun v i wr => ∃ k : Nat, k ≤ t.size ∧ i = .int .i64 (k : Int) ∧ wr.ownsRow (w.heap.size + 1) 5 1 v k ((r.data.toList.take k).map bc) ∧ Below w.heap.size w wr ∧ w.heap.size + 1 ≤ wr.heap.size) (fun _ i _ => t.size - (intOf i).toNat)
      case atStart => exact ⟨0, Nat.zero_le _, rfl, World.ownsRow_nil _ _ _ _, (((Below.refl _ _).alloc (Nat.le_refl _) _).alloc (by simp) _).drew, by simp⟩
      case round =>
        obtain ⟨k, hk, rfl, ho, hb, hsz⟩ := hrel
        clear hcv
        by_cases hlt2 : k < t.size
        · have hml : (k + K) % t.size < t.size := Nat.mod_lt _ hp
          have hml2 : ((k : Int) + (K : Int)) % (t.size : Int) < (t.size : Int) := Int.emod_lt_of_pos _ (by omega)
          have hml3 : 0 ≤ ((k : Int) + (K : Int)) % (t.size : Int) := Int.emod_nonneg _ (by omega)
          have HS := hide (unhide HG k hlt2)
          go_wp2_with (at_builtin; refine wpList_append_own _ rfl _ _ 38 rfl (w.heap.size + 1) 5 i0 (.int .u8 0) 1 1 Tryd.underlying38 hi hz0 hz1 hz2 rfl (by decide) _ _ _ rfl (ho.alloc _) ⟨wr.heap.size, 0, none⟩ 1 1 [.int .u8 (t[(k + K) % t.size].toNat : Int)] rfl rfl (cell_one_new _ _ _) (by intro u hu; simp at hu; subst hu; rfl) (by unfold maxLen; omega) (by omega) (by simp; omega) ?_; intro v' w1 hown' hgrow _)
          have hb1 := (hb.alloc (by omega) (.cells #[.int .u8 (t[(k + K) % t.size].toNat : Int)] 5)).grown hgrow (by simp; omega) (fun g hg => by have := (ho.alloc (.cells #[.int .u8 (t[(k + K) % t.size].toNat : Int)] 5)).lt g hg; omega)
          have hs1 : w.heap.size + 1 ≤ w1.heap.size := by have := hgrow.size; simp at this; omega
          clear hgrow ho hb
          go_roundw
          case rel =>
            have hR : w1.ownsRow (w.heap.size + 1) 5 1 v' (k + 1) ((r.data.toList.take (k + 1)).map bc) := by rw [unhide HS]; exact hown'
            have hS : k + 1 ≤ t.size := hlt2
            first | exact ⟨k + 1, hS, by go_num, hR, hb1, hs1⟩ | ((repeat apply Exists.intro); exact ⟨⟨k + 1, hS, by go_num, hR, hb1, hs1⟩, rfl⟩)
          case measure => simp [intOf]; omega
        · obtain rfl : k = t.size := by omega
          rw [List.take_of_length_le (by rw [unhide HR]; exact Nat.le_refl _)] at ho
          have ho2 := ho
          rw [← unhide HR] at ho2
          have hcv1 := out_string _ _ _ _ ho2
          have hcv2 : (convert 38 9 u6).run Tryd.prog wr = .ok (.string r) wr := by simpa using hcv1
          clear ho ho2 hcv1
          go_wp2
          go_ret2
          exact ⟨rfl, hb⟩
end Go.Proofs.YtcphfhkefgaalaaDoor
