/- What the document's Bytes and Back do: a set as 256 bools, and back. -/
import Derived.Test.YtgamnhmkimonnaaOutBytes
namespace Go.Proofs.Ytgamnhmkimonnaa
open Go.RowKit

/-- 256 bools. -/
def bl (p : Nat → Bool) : Array Value := Array.ofFn (n := 256) fun i => .bool (p i.val)
theorem bl_size (p : Nat → Bool) : (bl p).size = 256 := by simp [bl]
theorem bl_at (p : Nat → Bool) (k : Nat) (h : k < 256) : (bl p)[k]? = some (.bool (p k)) := by
  rw [Array.getElem?_eq_getElem (by rw [bl_size]; exact h)]
  simp [bl]
theorem bl_one (p : Nat → Bool) : (bl p).all (·.oneCell') = true := by
  rw [Array.all_eq_true_iff_forall_mem]
  intro v hv
  obtain ⟨j, _, rfl⟩ := Array.mem_ofFn.1 hv
  rfl
theorem bl_set (p : Nat → Bool) (k : Nat) (b : Bool) : (bl p).setIfInBounds k (.bool b) = bl fun c => if c = k then b else p c := by
  apply Array.ext
  · simp [bl]
  · intro i h1 h2
    rw [Array.getElem_setIfInBounds (by simpa using h1)]
    simp only [bl, Array.getElem_ofFn]
    by_cases e : k = i
    · subst e; simp
    · rw [if_neg e, if_neg (fun h => e h.symm)]
theorem bl_congr {p q : Nat → Bool} (h : ∀ b, b < 256 → p b = q b) : bl p = bl q := by
  apply Array.ext
  · simp [bl]
  · intro i h1 h2
    have hi : i < 256 := by simpa [bl] using h1
    simp only [bl, Array.getElem_ofFn]
    rw [h i hi]
theorem info_bools : (Try.prog.info? 25).map (fun i => (i.zero, i.size)) = some (some (.agg (Array.replicate 256 (.bool false))), 256) := by kernel_rfl
theorem size_bools : (Try.prog.info? 25).map (·.size) = some 256 := (zero_of_info info_bools).2
def zerosB : Array Value := Array.replicate 256 (.bool false)
theorem zerosB_eq : zerosB = bl fun _ => false := by
  apply Array.ext
  · simp [bl, zerosB]
  · intro i h1 h2
    simp [bl, zerosB]
/-- The first k bools of one set, the others of another. -/
def mixB (k : Nat) (p q : Nat → Bool) : Nat → Bool := fun c => if c < k then p c else q c
theorem mixB_step (k : Nat) (p q : Nat → Bool) : (bl (mixB k p q)).setIfInBounds k (.bool (p k)) = bl (mixB (k + 1) p q) := by
  rw [bl_set]
  apply bl_congr
  intro c _
  unfold mixB
  by_cases e : c = k
  · subst e; simp
  · rw [if_neg e]
    by_cases h2 : c < k
    · rw [if_pos h2, if_pos (by omega)]
    · rw [if_neg h2, if_neg (by omega)]
theorem mixB_end (p q : Nat → Bool) : bl (mixB 256 p q) = bl p := bl_congr fun c hc => by unfold mixB; rw [if_pos hc]
theorem mixB_zero (p q : Nat → Bool) : bl (mixB 0 p q) = bl q := bl_congr fun c hc => by unfold mixB; rw [if_neg (by omega)]

set_option maxHeartbeats 1000000 in
theorem bytes_any (p : Nat → Bool) (w : World) :
    Calls Try.prog 7 #[sv p] w fun e w' => e = .returned (.agg (bl p)) ∧ Below w.heap.size w w' := by
  unfold sv
  have hcs := sc_size p
  have H0 := hide (sc_at p)
  have hz : ∀ w, (zeroValue 25).run Try.prog w = .ok (.agg zerosB) w := (zero_of_info info_bools).1
  have HZ := hide (show zerosB = bl (mixB 0 p fun _ => false) by rw [mixB_zero, zerosB_eq])
  generalize sc p = C at *
  go_enter Try.func7, Try.ntmps7
  go_wp2
  clear hz
  go_loopw [7] (fun i wr => ∃ k : Nat, k ≤ 256 ∧ i = .int .i64 k ∧ wr.heap[w.heap.size]? = some (.cells C 24 (0, 0)) ∧ wr.heap[w.heap.size + 1]? = some (.cells zerosB 25 (0, 0)) ∧ wr.heap[w.heap.size + 1 + 1]? = some (.cells (bl (mixB k p fun _ => false)) 25 (0, 0)) ∧ Below w.heap.size w wr) (fun i _ => 256 - (intOf i).toNat)
  case atStart => exact ⟨0, by omega, rfl, at_old (by simp only [World.size_alloc]; omega) (at_old (by simp only [World.size_alloc]; omega) (at_new rfl)), at_old (by simp only [World.size_alloc]; omega) (at_new (by simp only [World.size_alloc])), by rw [← unhide HZ]; exact at_new (by simp only [World.size_alloc]), (((Below.refl _ _).alloc (Nat.le_refl _) _).alloc (by simp only [World.size_alloc]; omega) _).alloc (by simp only [World.size_alloc]; omega) _⟩
  case round =>
    obtain ⟨k, hk, rfl, hg0, hg1, hg2, hb⟩ := hrel
    by_cases hlt : k < 256
    · have h1 : (k : Int) < 256 := by omega
      have hd : (k : Int) / 64 < 4 := by omega
      have c0 : wr.cell? ⟨w.heap.size, k / 64, none⟩ = some (.int .u64 (wd p (k / 64) : Int)) := by rw [cell_of_row wr _ _ _ _ _ hg0, unhide H0 (k / 64) (by omega)]
      have HG := hide (And.intro hg0 (And.intro hg1 (And.intro hg2 hb)))
      clear hg0 hg1 hg2 hb
      go_wp2
      have hwl := wd_lt p (k / 64)
      have HX := hide (show wd p (k / 64) / 2 ^ (k % 64) % 2 = (if p k then 1 else 0) by
        have e := Nat.testBit_eq_decide_div_mod_eq (x := wd p (k / 64)) (i := k % 64)
        rw [wd_bit, show 64 * (k / 64) + k % 64 = k by omega, decide_eq_true (show k % 64 < 64 by omega), Bool.true_and] at e
        rw [e]
        generalize wd p (k / 64) / 2 ^ (k % 64) = y
        by_cases h : y % 2 = 1
        · rw [h]; rfl
        · rw [decide_eq_false h]
          show y % 2 = 0
          omega)
      have HS := hide (mixB_step k p fun _ => false)
      generalize wd p (k / 64) = Y at *
      clear c0
      go_loop [5, 6] (fun x v => ∃ (m X : Nat), m ≤ k % 64 ∧ v = .int .i64 m ∧ x = .int .u64 (X : Int) ∧ X < 18446744073709551616 ∧ Hid (X = Y / 2 ^ m)) (fun _ v => k % 64 - (intOf v).toNat)
      case atStart => exact ⟨0, Y, by omega, rfl, rfl, hwl, by show Y = Y / 2 ^ 0; simp⟩
      case round =>
        obtain ⟨m, X, hm, rfl, rfl, hX, HXY⟩ := hrel
        by_cases hmk : m < k % 64
        · have h2 : (m : Int) < (k : Int) % 64 := by omega
          go_wp2
          go_round
          case rel => exact ⟨m + 1, X / 2, by omega, by go_num, by rw [Int.natCast_ediv]; rfl, by omega, by show X / 2 = Y / 2 ^ (m + 1); rw [unhide HXY, Nat.div_div_eq_div_mul, Nat.pow_succ]⟩
          case measure => simp [intOf]; omega
        · obtain rfl : m = k % 64 := by omega
          have hq := unhide HX
          rw [← unhide HXY] at hq
          have hv : (((X : Int) % 2) == 1) = p k := by
            cases hp : p k with
            | true => rw [hp] at hq; rw [beq_iff_eq]; simp at hq; omega
            | false => rw [hp] at hq; rw [beq_eq_false_iff_ne]; simp at hq; omega
          obtain ⟨hg0, hg1, hg2, hb⟩ := unhide HG
          have c2 : wr.cell? ⟨w.heap.size + 1 + 1, k, none⟩ = some (.bool (mixB k p (fun _ => false) k)) := by rw [cell_of_row wr _ _ _ _ _ hg2, bl_at _ _ hlt]
          have hfr := frozen_of_row wr (w.heap.size + 1 + 1) k _ _ hg2
          have n2 := heap_setCell_same wr (w.heap.size + 1 + 1) k _ _ (.bool (p k)) hg2
          rw [unhide HS] at n2
          have n0 := (heap_setCell_other wr ⟨w.heap.size + 1 + 1, k, none⟩ w.heap.size (.bool (p k)) (by simp only; omega)).trans hg0
          have n1 := (heap_setCell_other wr ⟨w.heap.size + 1 + 1, k, none⟩ (w.heap.size + 1) (.bool (p k)) (by simp only; omega)).trans hg1
          have hb' := hb.setCell (p := ⟨w.heap.size + 1 + 1, k, none⟩) (by simp only; omega) (.bool (p k))
          have N := hide (And.intro n0 (And.intro n1 (And.intro n2 hb')))
          clear n0 n1 n2 hb' hg0 hg1 hg2 hb hq
          have h3 : ¬ ((k % 64 : Nat) : Int) < (k : Int) % 64 := by omega
          generalize p k = pk at *
          go_wp2
          go_roundw
          case rel => exact ⟨k + 1, by omega, by go_num, (unhide N).1, (unhide N).2.1, (unhide N).2.2.1, (unhide N).2.2.2⟩
          case measure => simp [intOf]; omega
    · obtain rfl : k = 256 := by omega
      rw [mixB_end] at hg2
      have hsz := bl_size p
      have hone := bl_one p
      have hi := size_bools
      rw [← hsz] at hi
      have hzs : zerosB.size = (bl p).size := by rw [hsz]; simp [zerosB]
      obtain ⟨D, hD⟩ : ∃ D, D = bl p := ⟨_, rfl⟩
      rw [← hD] at hg2 hsz hone hi hzs
      have HD := hide hD
      have G2 := hide (setRow_heap wr (w.heap.size + 1) zerosB D _ _ hg1)
      have B2 := hide (below_setRow hb (w.heap.size + 1) (by omega) D)
      have HI := hide hi
      clear hi hb hD
      rw [show ((256 : Nat) : Int) = 256 from rfl]
      go_wp2_with (first
        | (refine wpList_load_row rfl 25 _ rfl (w.heap.size + 1 + 1) rfl 25 D (0, 0) _ hg2 Try.underlying25 rfl (unhide HI) ?_)
        | (refine wpList_store_row rfl 25 _ _ rfl (w.heap.size + 1) D rfl rfl 25 zerosB hg1 (unhide HI) hzs hone ?_))
      (try simp only [Exit.inBlock, Exit.then])
      exact bodyPost_ret (results_cell_row rfl _ _ (w.heap.size + 1) 25 D (0, 0) _ rfl (unhide G2) Try.underlying25 rfl (unhide HI)) rfl ⟨by rw [unhide HD], unhide B2⟩
end Go.Proofs.Ytgamnhmkimonnaa
