/- What the document's Text does. -/
import Derived.Test.YtgamnhmkimonnaaBytes3
namespace Go.Proofs.Ytgamnhmkimonnaa
open Go.RowKit

set_option maxHeartbeats 1000000 in
theorem refText_any (p : Nat → Bool) (w : World) :
    Calls Try.prog 11 #[sv p] w fun e w' => e = .returned (.string ⟨(tx p 256).toArray⟩) ∧ Below w.heap.size w w' := by
  obtain ⟨i0, hi, hz0, hz1, hz2⟩ := info_parts info_byte
  have C1 := hide (fun W => bytes_any p W)
  unfold sv at C1 ⊢
  have hcs := sc_size p
  have hi4 := size_set
  rw [← hcs] at hi4
  generalize sc p = C at *
  have HI := hide hi4
  clear hi4
  have H0 := hide (fun k hk W => run_index_row (k := k) W Try.underlying25 plain_bool size_bool hk (bl_at p k hk))
  generalize bl p = LB at *
  go_enter Try.func11, Try.ntmps11
  go_wp2_with (first
    | (refine wpList_load_row rfl 24 _ rfl w.heap.size rfl 24 C (0, 0) _ (at_new rfl) Try.underlying24 rfl (unhide HI) ?_)
    | (go_at_call 7; refine (unhide C1 _).mono ?_; rintro e w1 ⟨rfl, hb1⟩))
  have hs1 : w.heap.size + 1 ≤ w1.heap.size := by have := hb1.size; simp only [World.size_alloc] at this; omega
  have hbw := bnext ((Below.refl w.heap.size w).alloc (Nat.le_refl _) _) hb1
  clear hb1
  go_loopw [3, 8] (fun v i wr => ∃ k : Nat, k ≤ 256 ∧ i = .int .i64 k ∧ wr.ownsRow (w.heap.size + 1) 5 1 v (tx p k).length ((tx p k).map bc) ∧ Below w.heap.size w wr ∧ w.heap.size + 1 ≤ wr.heap.size) (fun _ i _ => 256 - (intOf i).toNat)
  case atStart => exact ⟨0, by omega, rfl, World.ownsRow_nil _ _ _ _, hbw, hs1⟩
  case round =>
    obtain ⟨k, hk, rfl, ho, hb, hsz⟩ := hrel
    by_cases hlt : k < 256
    · have h1 : (k : Int) < 256 := by omega
      have hix := unhide H0 k hlt
      have hle := tx_le p k
      cases hp : p k with
      | true =>
        rw [hp] at hix
        have HT := hide (tx_yes p k hlt hp)
        generalize (tx p k).length = n at *
        generalize (tx p k).map bc = xs at *
        go_wp2_with (at_builtin; refine wpList_append_own _ rfl _ _ 45 rfl (w.heap.size + 1) 5 i0 (.int .u8 0) 1 1 Try.underlying45 hi hz0 hz1 hz2 rfl (by decide) _ _ _ rfl (ho.alloc _) ⟨wr.heap.size, 0, none⟩ 1 1 [.int .u8 (k : Int)] rfl rfl (cell_one_new _ _ _) (by intro u hu; simp at hu; subst hu; rfl) (by unfold maxLen; omega) (by omega) (by simp; omega) ?_; intro v' w2 hown' hgrow _)
        have ho1 := ho.alloc (.cells #[.int .u8 (k : Int)] 5)
        have hb2 := (hb.alloc (by have := hb.size; omega) (.cells #[.int .u8 (k : Int)] 5)).grown hgrow (by simp; omega) (fun g hg => by have := ho1.lt g hg; omega)
        have hs2 : w.heap.size + 1 ≤ w2.heap.size := by have := hgrow.size; simp at *; omega
        go_roundw
        case rel => exact ⟨k + 1, by omega, by go_num, by rw [(unhide HT).1, (unhide HT).2]; exact hown', hb2, hs2⟩
        case measure => simp [intOf]; omega
      | false =>
        rw [hp] at hix
        have HT := hide (tx_no p k hp)
        go_wp2
        go_roundw
        case rel => exact ⟨k + 1, by omega, by go_num, by rw [unhide HT]; exact ho, hb, hsz⟩
        case measure => simp [intOf]; omega
    · obtain rfl : k = 256 := by omega
      obtain ⟨l, hl⟩ : ∃ l, l = tx p 256 := ⟨_, rfl⟩
      rw [← hl] at ho
      have hcv := out_string _ _ _ _ ho
      have HL := hide hl
      have HB := hide hb
      clear ho hb hl
      go_wp2
      go_ret
      exact ⟨by rw [← unhide HL]; rfl, unhide HB⟩
end Go.Proofs.Ytgamnhmkimonnaa
