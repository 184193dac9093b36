/- What sets.Size does: how many bytes are in a set. -/
import Derived.Test.YtgamnhmkimonnaaOnes
namespace Go.Proofs.Ytgamnhmkimonnaa
open Go.RowKit

theorem cnt_word (p : Nat → Bool) (k : Nat) : cnt p (64 * k) + cnt (wd p k).testBit 64 = cnt p (64 * (k + 1)) := by
  rw [Nat.mul_add, Nat.mul_one, cnt_add]
  congr 1
  apply cnt_congr
  intro i hi
  rw [wd_bit]
  simp [hi]

set_option maxHeartbeats 400000 in
theorem size_any (p : Nat → Bool) (w : World) :
    Calls Try.prog 12 #[sv p] w fun e w' => e = .returned (.int .i64 (cnt p 256 : Int)) ∧ Below w.heap.size w w' := by
  unfold sv
  have hcs := sc_size p
  have H0 := hide (sc_at p)
  have H1 := hide (fun k W => ones_any (wd p k) W (wd_lt p k))
  have H2 := hide (cnt_word p)
  have hi := size_set
  rw [← hcs] at hi
  generalize sc p = C at *
  have HI := hide hi
  clear hi
  go_enter Try.func12, Try.ntmps12
  go_wp2_with (refine wpList_load_row rfl 24 _ rfl w.heap.size rfl 24 C (0, 0) _ (at_new rfl) Try.underlying24 rfl (unhide HI) ?_)
  go_loop [3, 7] (fun n i => ∃ k : Nat, k ≤ 4 ∧ i = .int .i64 k ∧ n = .int .i64 (cnt p (64 * k) : Int)) (fun _ i => 4 - (intOf i).toNat)
  case atStart => exact ⟨0, by omega, rfl, rfl⟩
  case round =>
    obtain ⟨k, hk, rfl, rfl⟩ := hrel
    by_cases hlt : k < 4
    · have h1 : (k : Int) < 4 := by omega
      have hat := fun W => run_index_row W Try.underlying24 plain_u64 size_u64 hlt (unhide H0 k hlt)
      have C1 := hide (unhide H1 k)
      have hle1 := cnt_le p (64 * k)
      have hle2 := cnt_le (wd p k).testBit 64
      have H3 := hide (unhide H2 k)
      generalize cnt p (64 * k) = n1 at *
      generalize cnt (wd p k).testBit 64 = n2 at *
      go_wp2_with fail
      refine (unhide C1 _).mono ?_
      rintro e w1 ⟨rfl, rfl⟩
      go_wp2
      go_round
      case rel => exact ⟨k + 1, by omega, by go_num, by rw [← unhide H3]; go_num⟩
      case measure => simp [intOf]; omega
    · obtain rfl : k = 4 := by omega
      go_wp2
      go_ret
      exact ⟨rfl, (Below.refl _ _).alloc (Nat.le_refl _) _⟩
end Go.Proofs.Ytgamnhmkimonnaa
