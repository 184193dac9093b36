/- What sets.Text does: a set's bytes, rising. -/
import Derived.Test.YtgamnhmkimonnaaOutBytes
namespace Go.Proofs.Ytgamnhmkimonnaa
open Go.RowKit

set_option maxHeartbeats 1000000 in
theorem text_any (p : Nat → Bool) (w : World) :
    Calls Try.prog 10 #[sv p] w fun e w' => e = .returned (.string ⟨(tx p 256).toArray⟩) ∧ Below w.heap.size w w' := by
  obtain ⟨i0, hi, hz0, hz1, hz2⟩ := info_parts info_byte
  unfold sv
  have hcs := sc_size p
  have H1 := hide (fun k hk W => has_any p k hk W)
  unfold sv at H1
  have hi4 := size_set
  rw [← hcs] at hi4
  generalize sc p = C at *
  have HI := hide hi4
  clear hi4
  go_enter Try.func10, Try.ntmps10
  go_wp2
  go_loopw [3, 5] (fun v i wr => ∃ k : Nat, k ≤ 256 ∧ i = .int .i64 k ∧ wr.ownsRow (w.heap.size + 1) 5 1 v (tx p k).length ((tx p k).map bc) ∧ wr.heap[w.heap.size]? = some (.cells C 24 (0, 0)) ∧ Below w.heap.size w wr ∧ w.heap.size + 1 ≤ wr.heap.size) (fun _ i _ => 256 - (intOf i).toNat)
  case atStart => exact ⟨0, by omega, rfl, World.ownsRow_nil _ _ _ _, at_new rfl, (Below.refl _ _).alloc (Nat.le_refl _) _, by simp only [World.size_alloc]; omega⟩
  case round =>
    obtain ⟨k, hk, rfl, ho, hg, hb, hsz⟩ := hrel
    by_cases hlt : k < 256
    · have h1 : (k : Int) < 256 := by omega
      have C1 := hide (unhide H1 k hlt)
      have hle := tx_le p k
      cases hp : p k with
      | true =>
        have HT := hide (tx_yes p k hlt hp)
        rw [hp] at C1
        generalize (tx p k).length = n at *
        generalize (tx p k).map bc = xs at *
        go_wp2_with (first
          | (refine wpList_load_row rfl 24 _ rfl w.heap.size rfl 24 C (0, 0) _ hg Try.underlying24 rfl (unhide HI) ?_)
          | (go_at_call 13; refine (unhide C1 _).mono ?_; rintro e w1 ⟨rfl, hb1⟩)
          | (at_builtin; refine wpList_append_own _ rfl _ _ 45 rfl (w.heap.size + 1) 5 i0 (.int .u8 0) 1 1 Try.underlying45 hi hz0 hz1 hz2 rfl (by decide) _ _ _ rfl ((own_below ho hb1).alloc _) ⟨w1.heap.size, 0, none⟩ 1 1 [.int .u8 (k : Int)] rfl rfl (cell_one_new _ _ _) (by intro u hu; simp at hu; subst hu; rfl) (by unfold maxLen; omega) (by omega) (by have := hb1.size; simp; omega) ?_; intro v' w2 hown' hgrow _))
        have ho1 := (own_below ho hb1).alloc (.cells #[.int .u8 (k : Int)] 5)
        have hb2 := ((bnext hb hb1).alloc (by have := hb1.size; have := hb.size; omega) (.cells #[.int .u8 (k : Int)] 5)).grown hgrow (by simp; have := hb1.size; omega) (fun g hg => by have := ho1.lt g hg; omega)
        have hs2 : w.heap.size + 1 ≤ w2.heap.size := by have := hgrow.size; have := hb1.size; simp at *; omega
        have hg2 : w2.heap[w.heap.size]? = some (.cells C 24 (0, 0)) := (hgrow.block w.heap.size (by simp only [World.size_alloc]; have := hb1.size; omega) (fun e => by have := ho1.lt _ e.symm; omega)).trans (at_old (by have := hb1.size; omega) (row_below hg hb1))
        go_roundw
        case rel => exact ⟨k + 1, by omega, by go_num, by rw [(unhide HT).1, (unhide HT).2]; exact hown', hg2, hb2, hs2⟩
        case measure => simp [intOf]; omega
      | false =>
        have HT := hide (tx_no p k hp)
        rw [hp] at C1
        go_wp2_with (first
          | (refine wpList_load_row rfl 24 _ rfl w.heap.size rfl 24 C (0, 0) _ hg Try.underlying24 rfl (unhide HI) ?_)
          | (go_at_call 13; refine (unhide C1 _).mono ?_; rintro e w1 ⟨rfl, hb1⟩))
        go_roundw
        case rel => exact ⟨k + 1, by omega, by go_num, by rw [unhide HT]; exact own_below ho hb1, row_below hg hb1, bnext hb hb1, by have := hb1.size; omega⟩
        case measure => simp [intOf]; omega
    · obtain rfl : k = 256 := by omega
      obtain ⟨l, hl⟩ : ∃ l, l = tx p 256 := ⟨_, rfl⟩
      rw [← hl] at ho
      have hcv := out_string _ _ _ _ ho
      have HL := hide hl
      have HB := hide hb
      clear ho hg hb hl
      go_wp2
      go_ret
      exact ⟨by rw [← unhide HL]; rfl, unhide HB⟩
end Go.Proofs.Ytgamnhmkimonnaa
