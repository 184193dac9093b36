/- What the document's Read does, for every text. -/
import Derived.Test.YtgamnhmkimonnaaOne3
import Derived.Test.YtgamnhmkimonnaaRead
import Derived.Test.YtgamnhmkimonnaaBack3
namespace Go.Proofs.Ytgamnhmkimonnaa
open Go.RowKit

theorem rr_A (c : Nat → Nat) (i n : Nat) (h : rb c i = (false, 0, n)) : rr c i = (0, 0, 0, 2, n) := by unfold rr; rw [h]; rfl
theorem rr_B (c : Nat → Nat) (i a n : Nat) (h : rb c i = (true, a, n)) (hc : c n ≠ 45) : rr c i = (a, a, n, 0, 0) := by
  unfold rr; rw [h]; simp only; rw [if_neg (by decide), if_pos hc]
theorem rr_C (c : Nat → Nat) (i a n m : Nat) (h : rb c i = (true, a, n)) (hc : c n = 45) (h2 : rb c (n + 1) = (false, 0, m)) : rr c i = (a, 0, 0, 2, m) := by
  unfold rr; rw [h]; simp only; rw [if_neg (by decide), if_neg (by omega), h2]; rfl
theorem rr_D (c : Nat → Nat) (i a n b m : Nat) (h : rb c i = (true, a, n)) (hc : c n = 45) (h2 : rb c (n + 1) = (true, b, m)) (hab : b < a) : rr c i = (a, b, m, 3, n + 1) := by
  unfold rr; rw [h]; simp only; rw [if_neg (by decide), if_neg (by omega), h2]; simp only; rw [if_neg (by decide), if_pos hab]
theorem rr_E (c : Nat → Nat) (i a n b m : Nat) (h : rb c i = (true, a, n)) (hc : c n = 45) (h2 : rb c (n + 1) = (true, b, m)) (hab : ¬ b < a) : rr c i = (a, b, m, 0, 0) := by
  unfold rr; rw [h]; simp only; rw [if_neg (by decide), if_neg (by omega), h2]; simp only; rw [if_neg (by decide), if_neg hab]
theorem rd_err (c : Nat → Nat) (n f i x y m e a : Nat) (q : Nat → Bool) (hr : rr c i = (x, y, m, e, a)) (hi : i < n) (he : e ≠ 0) : rd c n (f + 1) i q = (e, a, fun _ => false) := by
  unfold rd
  rw [if_pos hi, hr]
  simp only
  rw [if_pos he]
theorem rd_next (c : Nat → Nat) (n g i a z m : Nat) (q : Nat → Bool) (hr : rr c i = (a, z, m, 0, 0)) (hi : i < n) : rd c n (g + 1) i q = rd c n g m (fun x => q x || (decide (a ≤ x) && decide (x ≤ z))) := by
  conv => lhs; unfold rd
  rw [if_pos hi, hr]
  simp
theorem six_now {W : World} {N : Nat} (e a : Value) (h0 : W.heap[N]? = some (.cells zerosS 24 (0, 0))) (h1 : W.heap[N + 1]? = some (.cells #[.int .i64 0, .int .i64 0] 38 (0, 0))) :
    ((((((W.setCell ⟨N, 0, none⟩ (.int .u64 0)).setCell ⟨N, 1, none⟩ (.int .u64 0)).setCell ⟨N, 2, none⟩ (.int .u64 0)).setCell ⟨N, 3, none⟩ (.int .u64 0)).setCell ⟨N + 1, 0, none⟩ e).setCell ⟨N + 1, 1, none⟩ a).heap[N]? = some (.cells zerosS 24 (0, 0)) ∧
    ((((((W.setCell ⟨N, 0, none⟩ (.int .u64 0)).setCell ⟨N, 1, none⟩ (.int .u64 0)).setCell ⟨N, 2, none⟩ (.int .u64 0)).setCell ⟨N, 3, none⟩ (.int .u64 0)).setCell ⟨N + 1, 0, none⟩ e).setCell ⟨N + 1, 1, none⟩ a).heap[N + 1]? = some (.cells #[e, a] 38 (0, 0)) := by
  constructor
  · rw [heap_setCell_other _ _ _ _ (by simp only; omega), heap_setCell_other _ _ _ _ (by simp only; omega)]
    exact heap_setCell_same _ _ 3 _ _ _ (heap_setCell_same _ _ 2 _ _ _ (heap_setCell_same _ _ 1 _ _ _ (heap_setCell_same _ _ 0 _ _ _ h0)))
  · refine heap_setCell_same _ _ 1 #[e, .int .i64 0] _ _ (heap_setCell_same _ _ 0 #[.int .i64 0, .int .i64 0] _ _ ?_)
    rw [heap_setCell_other _ _ _ _ (by simp only; omega), heap_setCell_other _ _ _ _ (by simp only; omega), heap_setCell_other _ _ _ _ (by simp only; omega), heap_setCell_other _ _ _ _ (by simp only; omega)]
    exact h1
theorem bl_none (p : Nat → Bool) (x : Nat) : (bl fun c => p c || (decide (x ≤ c) && decide (c < x))) = bl p := bl_congr fun c _ => by
  have : (decide (x ≤ c) && decide (c < x)) = false := by rw [Bool.and_eq_false_iff, decide_eq_false_iff_not, decide_eq_false_iff_not]; omega
  rw [this, Bool.or_false]
theorem bl_more (p : Nat → Bool) (x b : Nat) (h : x ≤ b) : (bl fun c => p c || (decide (x ≤ c) && decide (c < b))).setIfInBounds b (.bool true) = bl fun c => p c || (decide (x ≤ c) && decide (c < b + 1)) := by
  rw [bl_set]
  apply bl_congr
  intro c _
  by_cases e : c = b
  · subst e; simp; right; exact h
  · have e2 : decide (c < b + 1) = decide (c < b) := by simp only [decide_eq_decide]; omega
    rw [if_neg e, e2]
theorem bl_upto (p : Nat → Bool) (x y : Nat) : (bl fun c => p c || (decide (x ≤ c) && decide (c < y + 1))) = bl fun c => p c || (decide (x ≤ c) && decide (c ≤ y)) := bl_congr fun c _ => by
  have e2 : decide (c < y + 1) = decide (c ≤ y) := by simp only [decide_eq_decide]; omega
  rw [e2]
theorem results_refRead : Try.f26.results = #[.cell 2 24, .cell 3 38] := rfl

set_option maxHeartbeats 400000 in
theorem refRead_much (t : ByteArray) (w : World) (hm : t.size ≤ maxLen) (ht : 65536 < t.size) :
    Calls Try.prog 26 #[.string t] w fun e w' => e = .returned (.tuple #[sv fun _ => false, fv 4 0]) ∧ Below w.heap.size w w' := by
  unfold maxLen at hm
  have h1 : (65536 : Int) < (t.size : Int) := by omega
  have HZ := hide zerosS_eq
  go_enter Try.func26, Try.ntmps26
  go_wp2
  refine bodyPost_ret (results_two results_refRead _ _ w.heap.size (w.heap.size + 1) _ _ rfl rfl (at_old (by simp only [World.size_alloc]; omega) (at_new rfl)) (at_new (by simp only [World.size_alloc])) rfl rfl) rfl ⟨?_, ((Below.refl _ _).alloc (Nat.le_refl _) _).alloc (by simp only [World.size_alloc]; omega) _⟩
  unfold sv
  rw [← unhide HZ]
  rfl

set_option maxHeartbeats 4000000 in
theorem refRead_others (t : ByteArray) (w : World) (ht : t.size ≤ 65536) (h94 : ch t 0 = 94) :
    Calls Try.prog 26 #[.string t] w fun e w' => e = .returned (readV (readSaid t)) ∧ Below w.heap.size w w' := by
  have C1 := hide (fun i hi W => one_any t i W ht hi)
  obtain ⟨R, hR⟩ : ∃ R, R = readSaid t := ⟨_, rfl⟩
  rw [← hR]
  obtain ⟨R0, hR0⟩ : ∃ R0, R0 = readIn t := ⟨_, rfl⟩
  have HR : Hid (R = if R0.1 ≠ 0 then (R0.1, R0.2.1, fun _ => false) else (0, 0, fun x => !R0.2.2 x)) := by
    show R = _
    rw [hR]
    unfold readSaid
    rw [if_neg (by omega), if_pos h94, hR0]
  have HR0 : Hid (rd (ch t) t.size t.size 1 (fun _ => false) = R0) := by
    show _ = R0
    rw [hR0]
    unfold readIn
    rw [if_pos h94]
  clear hR hR0
  have hz : ∀ w, (zeroValue 25).run Try.prog w = .ok (.agg zerosB) w := (zero_of_info info_bools).1
  have HZB := hide zerosB_eq
  have HZ := hide zerosS_eq
  have hsz0 : 0 < t.size := by
    by_cases h : 0 < t.size
    · exact h
    · rw [ch_end t 0 (by omega)] at h94; omega
  have hp0 : (0 : Int) < (t.size : Int) := by omega
  have hx0 : ((t[0]).toNat : Int) = 94 := by rw [ch_at t 0 hsz0, h94]; rfl
  clear h94
  go_enter Try.func26, Try.ntmps26
  go_wp2
  clear hz
  go_loopw [5] (fun v wr => ∃ (i f : Nat) (p : Nat → Bool), i ≤ t.size ∧ v = .int .i64 i ∧ wr.heap[w.heap.size]? = some (.cells zerosS 24 (0, 0)) ∧ wr.heap[w.heap.size + 1]? = some (.cells #[.int .i64 0, .int .i64 0] 38 (0, 0)) ∧ wr.heap[w.heap.size + 1 + 1]? = some (.cells (bl p) 25 (0, 0)) ∧ Below w.heap.size w wr ∧ Hid (rd (ch t) t.size f i p = R0) ∧ t.size ≤ f + i) (fun v _ => t.size - (intOf v).toNat)
  case atStart =>
    refine ⟨1, t.size, fun _ => false, by omega, rfl, at_old (by simp only [World.size_alloc]; omega) (at_old (by simp only [World.size_alloc]; omega) (at_new rfl)), at_old (by simp only [World.size_alloc]; omega) (at_new (by simp only [World.size_alloc])), ?_, (((Below.refl _ _).alloc (Nat.le_refl _) _).alloc (by simp only [World.size_alloc]; omega) _).alloc (by simp only [World.size_alloc]; omega) _, HR0, by omega⟩
    rw [← unhide HZB]
    exact at_new (by simp only [World.size_alloc])
  case round =>
    obtain ⟨i, f, p, hi, rfl, hg0, hg1, hg2, hb, HF, hf⟩ := hrel
    by_cases hlt : i < t.size
    · have h1 : (i : Int) < (t.size : Int) := by omega
      obtain ⟨f, rfl⟩ : ∃ g, f = g + 1 := ⟨f - 1, by omega⟩
      have D := hide (unhide C1 i hi wr)
      cases e1 : (rb (ch t) i).1 with
      | false =>
        have hr := rb_bad _ _ e1
        rw [hr, show oneV (false, 0, (rb (ch t) i).2.2) = .tuple #[.int .i64 (-1), .int .i64 ((rb (ch t) i).2.2 : Int)] from rfl] at D
        generalize (rb (ch t) i).2.2 = n at *
        have HE : Hid (R = (2, n, fun _ => false)) := by
          show R = _
          rw [unhide HR, ← unhide HF, rd_err _ _ _ _ _ _ _ _ _ _ (rr_A _ _ _ hr) hlt (by omega)]
          rfl
        clear HF
        have cc0 : wr.cell? ⟨w.heap.size, 0, none⟩ = some (.int .u64 0) := (cell_of_row _ _ 0 _ _ _ hg0).trans rfl
        have cc1 : wr.cell? ⟨w.heap.size, 1, none⟩ = some (.int .u64 0) := (cell_of_row _ _ 1 _ _ _ hg0).trans rfl
        have cc2 : wr.cell? ⟨w.heap.size, 2, none⟩ = some (.int .u64 0) := (cell_of_row _ _ 2 _ _ _ hg0).trans rfl
        have cc3 : wr.cell? ⟨w.heap.size, 3, none⟩ = some (.int .u64 0) := (cell_of_row _ _ 3 _ _ _ hg0).trans rfl
        have fz0 := frozen_of_row _ _ 0 _ _ hg0
        have fz1 := frozen_of_row _ _ 1 _ _ hg0
        have fz2 := frozen_of_row _ _ 2 _ _ hg0
        have fz3 := frozen_of_row _ _ 3 _ _ hg0
        have dd0 : wr.cell? ⟨w.heap.size + 1, 0, none⟩ = some (.int .i64 0) := (cell_of_row _ _ 0 _ _ _ hg1).trans rfl
        have dd1 : wr.cell? ⟨w.heap.size + 1, 1, none⟩ = some (.int .i64 0) := (cell_of_row _ _ 1 _ _ _ hg1).trans rfl
        have fy0 := frozen_of_row _ _ 0 _ _ hg1
        have fy1 := frozen_of_row _ _ 1 _ _ hg1
        have J := hide (And.intro hg0 (And.intro hg1 hb))
        clear hg0 hg1 hg2 hb
        go_wp2_with fail
        refine (unhide D).mono ?_
        rintro e wr ⟨rfl, rfl⟩
        go_wp2
        obtain ⟨q0, q1⟩ := six_now (.int .i64 2) (.int .i64 (n : Int)) (unhide J).1 (unhide J).2.1
        refine bodyPost_ret (results_two results_refRead _ _ w.heap.size (w.heap.size + 1) zerosS #[.int .i64 2, .int .i64 (n : Int)] rfl rfl q0 q1 rfl rfl) rfl ⟨?_, (((((((unhide J).2.2.setCell (Nat.le_refl _) _).setCell (Nat.le_refl _) _).setCell (Nat.le_refl _) _).setCell (Nat.le_refl _) _).setCell (Nat.le_succ _) _).setCell (Nat.le_succ _) _)⟩
        rw [unhide HE]
        unfold readV sv
        rw [← unhide HZ]
        rfl
      | true =>
        have hr := rb_good _ _ e1
        obtain ⟨b1, b2, b3⟩ := rb_next t i hi e1
        rw [hr, show oneV (true, (rb (ch t) i).2.1, (rb (ch t) i).2.2) = .tuple #[.int .i64 ((rb (ch t) i).2.1 : Int), .int .i64 ((rb (ch t) i).2.2 : Int)] from rfl] at D
        generalize (rb (ch t) i).2.1 = a at *
        generalize (rb (ch t) i).2.2 = n at *
        by_cases h45 : ch t n = 45
        · have hn : n < t.size := by
            by_cases h : n < t.size
            · exact h
            · rw [ch_end t n (by omega)] at h45; omega
          have h2 : (n : Int) < (t.size : Int) := by omega
          have hx : ((t[n]).toNat : Int) = 45 := by rw [ch_at t n hn, h45]; rfl
          have E := hide (unhide C1 (n + 1) (by omega) wr)
          rw [show (((n + 1 : Nat)) : Int) = (n : Int) + 1 by omega] at E
          cases e2 : (rb (ch t) (n + 1)).1 with
          | false =>
            have hr2 := rb_bad _ _ e2
            rw [hr2, show oneV (false, 0, (rb (ch t) (n + 1)).2.2) = .tuple #[.int .i64 (-1), .int .i64 ((rb (ch t) (n + 1)).2.2 : Int)] from rfl] at E
            generalize (rb (ch t) (n + 1)).2.2 = m at *
            have HE : Hid (R = (2, m, fun _ => false)) := by
              show R = _
              rw [unhide HR, ← unhide HF, rd_err _ _ _ _ _ _ _ _ _ _ (rr_C _ _ _ _ _ hr h45 hr2) hlt (by omega)]
              rfl
            clear HF
            have cc0 : wr.cell? ⟨w.heap.size, 0, none⟩ = some (.int .u64 0) := (cell_of_row _ _ 0 _ _ _ hg0).trans rfl
            have cc1 : wr.cell? ⟨w.heap.size, 1, none⟩ = some (.int .u64 0) := (cell_of_row _ _ 1 _ _ _ hg0).trans rfl
            have cc2 : wr.cell? ⟨w.heap.size, 2, none⟩ = some (.int .u64 0) := (cell_of_row _ _ 2 _ _ _ hg0).trans rfl
            have cc3 : wr.cell? ⟨w.heap.size, 3, none⟩ = some (.int .u64 0) := (cell_of_row _ _ 3 _ _ _ hg0).trans rfl
            have fz0 := frozen_of_row _ _ 0 _ _ hg0
            have fz1 := frozen_of_row _ _ 1 _ _ hg0
            have fz2 := frozen_of_row _ _ 2 _ _ hg0
            have fz3 := frozen_of_row _ _ 3 _ _ hg0
            have dd0 : wr.cell? ⟨w.heap.size + 1, 0, none⟩ = some (.int .i64 0) := (cell_of_row _ _ 0 _ _ _ hg1).trans rfl
            have dd1 : wr.cell? ⟨w.heap.size + 1, 1, none⟩ = some (.int .i64 0) := (cell_of_row _ _ 1 _ _ _ hg1).trans rfl
            have fy0 := frozen_of_row _ _ 0 _ _ hg1
            have fy1 := frozen_of_row _ _ 1 _ _ hg1
            have J := hide (And.intro hg0 (And.intro hg1 hb))
            clear hg0 hg1 hg2 hb
            go_wp2_with fail
            refine (unhide D).mono ?_
            rintro e wr ⟨rfl, rfl⟩
            go_wp2_with fail
            refine (unhide E).mono ?_
            rintro e wr ⟨rfl, rfl⟩
            go_wp2
            obtain ⟨q0, q1⟩ := six_now (.int .i64 2) (.int .i64 (m : Int)) (unhide J).1 (unhide J).2.1
            refine bodyPost_ret (results_two results_refRead _ _ w.heap.size (w.heap.size + 1) zerosS #[.int .i64 2, .int .i64 (m : Int)] rfl rfl q0 q1 rfl rfl) rfl ⟨?_, (((((((unhide J).2.2.setCell (Nat.le_refl _) _).setCell (Nat.le_refl _) _).setCell (Nat.le_refl _) _).setCell (Nat.le_refl _) _).setCell (Nat.le_succ _) _).setCell (Nat.le_succ _) _)⟩
            rw [unhide HE]
            unfold readV sv
            rw [← unhide HZ]
            rfl
          | true =>
            have hr2 := rb_good _ _ e2
            obtain ⟨d1, d2, d3⟩ := rb_next t (n + 1) (by omega) e2
            rw [hr2, show oneV (true, (rb (ch t) (n + 1)).2.1, (rb (ch t) (n + 1)).2.2) = .tuple #[.int .i64 ((rb (ch t) (n + 1)).2.1 : Int), .int .i64 ((rb (ch t) (n + 1)).2.2 : Int)] from rfl] at E
            generalize (rb (ch t) (n + 1)).2.1 = b at *
            generalize (rb (ch t) (n + 1)).2.2 = m at *
            by_cases hab : b < a
            · have h3 : (b : Int) < (a : Int) := by omega
              have HE : Hid (R = (3, n + 1, fun _ => false)) := by
                show R = _
                rw [unhide HR, ← unhide HF, rd_err _ _ _ _ _ _ _ _ _ _ (rr_D _ _ _ _ _ _ hr h45 hr2 hab) hlt (by omega)]
                rfl
              clear HF
              have cc0 : wr.cell? ⟨w.heap.size, 0, none⟩ = some (.int .u64 0) := (cell_of_row _ _ 0 _ _ _ hg0).trans rfl
              have cc1 : wr.cell? ⟨w.heap.size, 1, none⟩ = some (.int .u64 0) := (cell_of_row _ _ 1 _ _ _ hg0).trans rfl
              have cc2 : wr.cell? ⟨w.heap.size, 2, none⟩ = some (.int .u64 0) := (cell_of_row _ _ 2 _ _ _ hg0).trans rfl
              have cc3 : wr.cell? ⟨w.heap.size, 3, none⟩ = some (.int .u64 0) := (cell_of_row _ _ 3 _ _ _ hg0).trans rfl
              have fz0 := frozen_of_row _ _ 0 _ _ hg0
              have fz1 := frozen_of_row _ _ 1 _ _ hg0
              have fz2 := frozen_of_row _ _ 2 _ _ hg0
              have fz3 := frozen_of_row _ _ 3 _ _ hg0
              have dd0 : wr.cell? ⟨w.heap.size + 1, 0, none⟩ = some (.int .i64 0) := (cell_of_row _ _ 0 _ _ _ hg1).trans rfl
              have dd1 : wr.cell? ⟨w.heap.size + 1, 1, none⟩ = some (.int .i64 0) := (cell_of_row _ _ 1 _ _ _ hg1).trans rfl
              have fy0 := frozen_of_row _ _ 0 _ _ hg1
              have fy1 := frozen_of_row _ _ 1 _ _ hg1
              have J := hide (And.intro hg0 (And.intro hg1 hb))
              clear hg0 hg1 hg2 hb
              go_wp2_with fail
              refine (unhide D).mono ?_
              rintro e wr ⟨rfl, rfl⟩
              go_wp2_with fail
              refine (unhide E).mono ?_
              rintro e wr ⟨rfl, rfl⟩
              go_wp2
              obtain ⟨q0, q1⟩ := six_now (.int .i64 3) (.int .i64 ((n : Int) + 1)) (unhide J).1 (unhide J).2.1
              refine bodyPost_ret (results_two results_refRead _ _ w.heap.size (w.heap.size + 1) zerosS #[.int .i64 3, .int .i64 ((n : Int) + 1)] rfl rfl q0 q1 rfl rfl) rfl ⟨?_, (((((((unhide J).2.2.setCell (Nat.le_refl _) _).setCell (Nat.le_refl _) _).setCell (Nat.le_refl _) _).setCell (Nat.le_refl _) _).setCell (Nat.le_succ _) _).setCell (Nat.le_succ _) _)⟩
              rw [unhide HE]
              unfold readV sv
              rw [← unhide HZ]
              rfl
            · have h3 : ¬ (b : Int) < (a : Int) := by omega
              have HF2 := hide ((rd_next _ _ f _ _ _ _ p (rr_E _ _ _ _ _ _ hr h45 hr2 hab) hlt).symm.trans (unhide HF))
              clear HF
              go_wp2_with fail
              refine (unhide D).mono ?_
              rintro e wr ⟨rfl, rfl⟩
              go_wp2_with fail
              refine (unhide E).mono ?_
              rintro e wr ⟨rfl, rfl⟩
              go_wp2
              go_loopw [10] (fun v wq => ∃ c : Nat, a ≤ c ∧ c ≤ b + 1 ∧ v = .int .i64 c ∧ wq.heap[w.heap.size]? = some (.cells zerosS 24 (0, 0)) ∧ wq.heap[w.heap.size + 1]? = some (.cells #[.int .i64 0, .int .i64 0] 38 (0, 0)) ∧ wq.heap[w.heap.size + 1 + 1]? = some (.cells (bl fun x => p x || (decide (a ≤ x) && decide (x < c))) 25 (0, 0)) ∧ Below w.heap.size w wq) (fun v _ => b + 1 - (intOf v).toNat)
              case atStart => exact ⟨a, Nat.le_refl _, by omega, rfl, hg0, hg1, by rw [bl_none]; exact hg2, hb⟩
              case round =>
                obtain ⟨c, hc1, hc2, rfl, l0, l1, l2, lb⟩ := hrel
                clear hg0 hg1 hg2 hb
                by_cases hcy : c ≤ b
                · have h3 : (c : Int) ≤ (b : Int) := by omega
                  have h4 : (c : Int) < 256 := by omega
                  have c2 : wr.cell? ⟨w.heap.size + 1 + 1, c, none⟩ = some (.bool (p c || (decide (a ≤ c) && decide (c < c)))) := by rw [cell_of_row wr _ _ _ _ _ l2, bl_at _ _ (by omega)]
                  have hfr := frozen_of_row wr (w.heap.size + 1 + 1) c _ _ l2
                  have n2 := heap_setCell_same wr (w.heap.size + 1 + 1) c _ _ (.bool true) l2
                  rw [bl_more p a c hc1] at n2
                  have n0 := (heap_setCell_other wr ⟨w.heap.size + 1 + 1, c, none⟩ w.heap.size (.bool true) (by simp only; omega)).trans l0
                  have n1 := (heap_setCell_other wr ⟨w.heap.size + 1 + 1, c, none⟩ (w.heap.size + 1) (.bool true) (by simp only; omega)).trans l1
                  have nb := lb.setCell (p := ⟨w.heap.size + 1 + 1, c, none⟩) (by simp only; omega) (.bool true)
                  have NN := hide (And.intro n0 (And.intro n1 (And.intro n2 nb)))
                  generalize (p c || (decide (a ≤ c) && decide (c < c))) = old at *
                  clear n0 n1 n2 nb l0 l1 l2 lb
                  go_wp2
                  go_roundw
                  case rel => exact ⟨c + 1, by omega, by omega, by go_num, (unhide NN).1, (unhide NN).2.1, (unhide NN).2.2.1, (unhide NN).2.2.2⟩
                  case measure => simp [intOf]; omega
                · obtain rfl : c = b + 1 := by omega
                  rw [bl_upto p a b] at l2
                  have h3 : ¬ ((b + 1 : Nat) : Int) ≤ (b : Int) := by omega
                  have LL := hide (And.intro l0 (And.intro l1 (And.intro l2 lb)))
                  clear l0 l1 l2 lb
                  go_wp2
                  go_roundw
                  case rel => exact ⟨m, f, _, by omega, rfl, (unhide LL).1, (unhide LL).2.1, (unhide LL).2.2.1, (unhide LL).2.2.2, HF2, by omega⟩
                  case measure => simp [intOf]; omega
        · have HF2 := hide ((rd_next _ _ f _ _ _ _ p (rr_B _ _ _ _ hr h45) hlt).symm.trans (unhide HF))
          clear HF
          by_cases hn : n < t.size
          · have h2 : (n : Int) < (t.size : Int) := by omega
            have hx : ((t[n]).toNat : Int) = (ch t n : Int) := by rw [ch_at t n hn]
            have hq : ((ch t n : Int) == 45) = false := by rw [beq_eq_false_iff_ne]; omega
            generalize ch t n = d at *
            go_wp2_with fail
            refine (unhide D).mono ?_
            rintro e wr ⟨rfl, rfl⟩
            go_wp2
            go_loopw [10] (fun v wq => ∃ c : Nat, a ≤ c ∧ c ≤ a + 1 ∧ v = .int .i64 c ∧ wq.heap[w.heap.size]? = some (.cells zerosS 24 (0, 0)) ∧ wq.heap[w.heap.size + 1]? = some (.cells #[.int .i64 0, .int .i64 0] 38 (0, 0)) ∧ wq.heap[w.heap.size + 1 + 1]? = some (.cells (bl fun x => p x || (decide (a ≤ x) && decide (x < c))) 25 (0, 0)) ∧ Below w.heap.size w wq) (fun v _ => a + 1 - (intOf v).toNat)
            case atStart => exact ⟨a, Nat.le_refl _, by omega, rfl, hg0, hg1, by rw [bl_none]; exact hg2, hb⟩
            case round =>
              obtain ⟨c, hc1, hc2, rfl, l0, l1, l2, lb⟩ := hrel
              clear hg0 hg1 hg2 hb
              by_cases hcy : c ≤ a
              · have h3 : (c : Int) ≤ (a : Int) := by omega
                have h4 : (c : Int) < 256 := by omega
                have c2 : wr.cell? ⟨w.heap.size + 1 + 1, c, none⟩ = some (.bool (p c || (decide (a ≤ c) && decide (c < c)))) := by rw [cell_of_row wr _ _ _ _ _ l2, bl_at _ _ (by omega)]
                have hfr := frozen_of_row wr (w.heap.size + 1 + 1) c _ _ l2
                have n2 := heap_setCell_same wr (w.heap.size + 1 + 1) c _ _ (.bool true) l2
                rw [bl_more p a c hc1] at n2
                have n0 := (heap_setCell_other wr ⟨w.heap.size + 1 + 1, c, none⟩ w.heap.size (.bool true) (by simp only; omega)).trans l0
                have n1 := (heap_setCell_other wr ⟨w.heap.size + 1 + 1, c, none⟩ (w.heap.size + 1) (.bool true) (by simp only; omega)).trans l1
                have nb := lb.setCell (p := ⟨w.heap.size + 1 + 1, c, none⟩) (by simp only; omega) (.bool true)
                have NN := hide (And.intro n0 (And.intro n1 (And.intro n2 nb)))
                generalize (p c || (decide (a ≤ c) && decide (c < c))) = old at *
                clear n0 n1 n2 nb l0 l1 l2 lb
                go_wp2
                go_roundw
                case rel => exact ⟨c + 1, by omega, by omega, by go_num, (unhide NN).1, (unhide NN).2.1, (unhide NN).2.2.1, (unhide NN).2.2.2⟩
                case measure => simp [intOf]; omega
              · obtain rfl : c = a + 1 := by omega
                rw [bl_upto p a a] at l2
                have h3 : ¬ ((a + 1 : Nat) : Int) ≤ (a : Int) := by omega
                have LL := hide (And.intro l0 (And.intro l1 (And.intro l2 lb)))
                clear l0 l1 l2 lb
                go_wp2
                go_roundw
                case rel => exact ⟨n, f, _, by omega, rfl, (unhide LL).1, (unhide LL).2.1, (unhide LL).2.2.1, (unhide LL).2.2.2, HF2, by omega⟩
                case measure => simp [intOf]; omega
          · have h2 : ¬ (n : Int) < (t.size : Int) := by omega
            go_wp2_with fail
            refine (unhide D).mono ?_
            rintro e wr ⟨rfl, rfl⟩
            go_wp2
            go_loopw [10] (fun v wq => ∃ c : Nat, a ≤ c ∧ c ≤ a + 1 ∧ v = .int .i64 c ∧ wq.heap[w.heap.size]? = some (.cells zerosS 24 (0, 0)) ∧ wq.heap[w.heap.size + 1]? = some (.cells #[.int .i64 0, .int .i64 0] 38 (0, 0)) ∧ wq.heap[w.heap.size + 1 + 1]? = some (.cells (bl fun x => p x || (decide (a ≤ x) && decide (x < c))) 25 (0, 0)) ∧ Below w.heap.size w wq) (fun v _ => a + 1 - (intOf v).toNat)
            case atStart => exact ⟨a, Nat.le_refl _, by omega, rfl, hg0, hg1, by rw [bl_none]; exact hg2, hb⟩
            case round =>
              obtain ⟨c, hc1, hc2, rfl, l0, l1, l2, lb⟩ := hrel
              clear hg0 hg1 hg2 hb
              by_cases hcy : c ≤ a
              · have h3 : (c : Int) ≤ (a : Int) := by omega
                have h4 : (c : Int) < 256 := by omega
                have c2 : wr.cell? ⟨w.heap.size + 1 + 1, c, none⟩ = some (.bool (p c || (decide (a ≤ c) && decide (c < c)))) := by rw [cell_of_row wr _ _ _ _ _ l2, bl_at _ _ (by omega)]
                have hfr := frozen_of_row wr (w.heap.size + 1 + 1) c _ _ l2
                have n2 := heap_setCell_same wr (w.heap.size + 1 + 1) c _ _ (.bool true) l2
                rw [bl_more p a c hc1] at n2
                have n0 := (heap_setCell_other wr ⟨w.heap.size + 1 + 1, c, none⟩ w.heap.size (.bool true) (by simp only; omega)).trans l0
                have n1 := (heap_setCell_other wr ⟨w.heap.size + 1 + 1, c, none⟩ (w.heap.size + 1) (.bool true) (by simp only; omega)).trans l1
                have nb := lb.setCell (p := ⟨w.heap.size + 1 + 1, c, none⟩) (by simp only; omega) (.bool true)
                have NN := hide (And.intro n0 (And.intro n1 (And.intro n2 nb)))
                generalize (p c || (decide (a ≤ c) && decide (c < c))) = old at *
                clear n0 n1 n2 nb l0 l1 l2 lb
                go_wp2
                go_roundw
                case rel => exact ⟨c + 1, by omega, by omega, by go_num, (unhide NN).1, (unhide NN).2.1, (unhide NN).2.2.1, (unhide NN).2.2.2⟩
                case measure => simp [intOf]; omega
              · obtain rfl : c = a + 1 := by omega
                rw [bl_upto p a a] at l2
                have h3 : ¬ ((a + 1 : Nat) : Int) ≤ (a : Int) := by omega
                have LL := hide (And.intro l0 (And.intro l1 (And.intro l2 lb)))
                clear l0 l1 l2 lb
                go_wp2
                go_roundw
                case rel => exact ⟨n, f, _, by omega, rfl, (unhide LL).1, (unhide LL).2.1, (unhide LL).2.2.1, (unhide LL).2.2.2, HF2, by omega⟩
                case measure => simp [intOf]; omega
    · obtain rfl : i = t.size := by omega
      have hF := unhide HF
      rw [rd_end] at hF
      have HE : Hid (R = (0, 0, fun x => !p x)) := by
        show R = _
        rw [unhide HR, ← hF]
        rw [if_neg (by simp)]
      clear hF HF C1 hf
      go_wp2
      go_loopw [81] (fun v wq => ∃ k : Nat, k ≤ 256 ∧ v = .int .i64 k ∧ wq.heap[w.heap.size]? = some (.cells zerosS 24 (0, 0)) ∧ wq.heap[w.heap.size + 1]? = some (.cells #[.int .i64 0, .int .i64 0] 38 (0, 0)) ∧ wq.heap[w.heap.size + 1 + 1]? = some (.cells (bl (mixB k (fun x => !p x) p)) 25 (0, 0)) ∧ Below w.heap.size w wq) (fun v _ => 256 - (intOf v).toNat)
      case atStart => exact ⟨0, by omega, rfl, hg0, hg1, by rw [mixB_zero]; exact hg2, hb⟩
      case round =>
        obtain ⟨k, hk, rfl, l0, l1, l2, lb⟩ := hrel
        clear hg0 hg1 hg2 hb
        by_cases hlt2 : k < 256
        · have h3 : (k : Int) < 256 := by omega
          have c2 : wr.cell? ⟨w.heap.size + 1 + 1, k, none⟩ = some (.bool (p k)) := by
            rw [cell_of_row wr _ _ _ _ _ l2, bl_at _ _ hlt2]
            unfold mixB
            rw [if_neg (by omega)]
          have hfr := frozen_of_row wr (w.heap.size + 1 + 1) k _ _ l2
          have n2 := heap_setCell_same wr (w.heap.size + 1 + 1) k _ _ (.bool (!p k)) l2
          rw [show (.bool (!p k) : Value) = .bool ((fun x => !p x) k) from rfl, mixB_step] at n2
          have n0 := (heap_setCell_other wr ⟨w.heap.size + 1 + 1, k, none⟩ w.heap.size (.bool (!p k)) (by simp only; omega)).trans l0
          have n1 := (heap_setCell_other wr ⟨w.heap.size + 1 + 1, k, none⟩ (w.heap.size + 1) (.bool (!p k)) (by simp only; omega)).trans l1
          have nb := lb.setCell (p := ⟨w.heap.size + 1 + 1, k, none⟩) (by simp only; omega) (.bool (!p k))
          have NN := hide (And.intro n0 (And.intro n1 (And.intro n2 nb)))
          clear n0 n1 n2 nb l0 l1 l2 lb
          go_wp2
          go_roundw
          case rel => exact ⟨k + 1, by omega, by go_num, (unhide NN).1, (unhide NN).2.1, (unhide NN).2.2.1, (unhide NN).2.2.2⟩
          case measure => simp [intOf]; omega
        · obtain rfl : k = 256 := by omega
          rw [mixB_end] at l2
          have ls := bl_size (fun x => !p x)
          have hsz := sc_size (fun x => !p x)
          have hone := sc_one (fun x => !p x)
          have C := hide (fun W => back_any (fun x => !p x) W)
          unfold sv at C
          have hi1 := size_set
          rw [← hsz] at hi1
          have hi2 := size_bools
          rw [← ls] at hi2
          generalize bl (fun x => !p x) = LB at *
          obtain ⟨D, hD⟩ : ∃ D, D = sc (fun x => !p x) := ⟨_, rfl⟩
          rw [← hD] at hsz hone hi1 C
          have HD := hide hD
          have HI := hide hi1
          have HI2 := hide hi2
          have HFI := hide info_fc
          clear hi1 hi2 hD
          go_wp2_with (first
            | (refine wpList_load_row rfl 25 _ rfl (w.heap.size + 1 + 1) rfl 25 LB (0, 0) _ l2 Try.underlying25 rfl (unhide HI2) ?_)
            | (go_at_call 29; refine (unhide C _).mono ?_; rintro e w1 ⟨rfl, hb1⟩; have m0 := row_below l0 hb1; have m1 := row_below l1 hb1; have m4 := (setRow_other w1 w.heap.size (w.heap.size + 1) D (by omega)).trans m1)
            | (refine wpList_store_row rfl 24 _ _ rfl w.heap.size D rfl rfl 24 zerosS m0 (unhide HI) hsz.symm hone ?_)
            | (refine wpList_store_row rfl 38 _ _ rfl (w.heap.size + 1) #[.int .i64 0, .int .i64 0] rfl rfl 38 #[.int .i64 0, .int .i64 0] m4 (unhide HFI) rfl (fc_one 0 0) ?_))
          (try simp only [Exit.inBlock, Exit.then])
          refine bodyPost_ret (results_two results_refRead _ _ w.heap.size (w.heap.size + 1) D #[.int .i64 0, .int .i64 0] rfl rfl ((setRow_other _ (w.heap.size + 1) w.heap.size _ (by omega)).trans (setRow_heap _ w.heap.size _ D _ _ m0)) (setRow_heap _ (w.heap.size + 1) _ _ _ _ m4) hsz rfl) rfl ⟨?_, below_setRow (below_setRow (bnext lb hb1) _ (Nat.le_refl _) _) _ (by omega) _⟩
          rw [unhide HE]
          unfold readV sv
          rw [← unhide HD]
          rfl

set_option maxHeartbeats 4000000 in
theorem refRead_these (t : ByteArray) (w : World) (ht : t.size ≤ 65536) (h94 : ¬ ch t 0 = 94) :
    Calls Try.prog 26 #[.string t] w fun e w' => e = .returned (readV (readSaid t)) ∧ Below w.heap.size w w' := by
  have C1 := hide (fun i hi W => one_any t i W ht hi)
  obtain ⟨R, hR⟩ : ∃ R, R = readSaid t := ⟨_, rfl⟩
  rw [← hR]
  obtain ⟨R0, hR0⟩ : ∃ R0, R0 = readIn t := ⟨_, rfl⟩
  have HR : Hid (R = if R0.1 ≠ 0 then (R0.1, R0.2.1, fun _ => false) else (0, 0, R0.2.2)) := by
    show R = _
    rw [hR]
    unfold readSaid
    rw [if_neg (by omega), if_neg h94, hR0]
  have HR0 : Hid (rd (ch t) t.size t.size 0 (fun _ => false) = R0) := by
    show _ = R0
    rw [hR0]
    unfold readIn
    rw [if_neg h94]
  clear hR hR0
  have hz : ∀ w, (zeroValue 25).run Try.prog w = .ok (.agg zerosB) w := (zero_of_info info_bools).1
  have HZB := hide zerosB_eq
  have HZ := hide zerosS_eq
  by_cases hsz0 : 0 < t.size
  · have hp0 : (0 : Int) < (t.size : Int) := by omega
    have hx0 : ((t[0]).toNat : Int) = (ch t 0 : Int) := by rw [ch_at t 0 hsz0]
    have hq0 : ((ch t 0 : Int) == 94) = false := by rw [beq_eq_false_iff_ne]; omega
    clear h94
    go_enter Try.func26, Try.ntmps26
    go_wp2
    clear hz
    go_loopw [5] (fun v wr => ∃ (i f : Nat) (p : Nat → Bool), i ≤ t.size ∧ v = .int .i64 i ∧ wr.heap[w.heap.size]? = some (.cells zerosS 24 (0, 0)) ∧ wr.heap[w.heap.size + 1]? = some (.cells #[.int .i64 0, .int .i64 0] 38 (0, 0)) ∧ wr.heap[w.heap.size + 1 + 1]? = some (.cells (bl p) 25 (0, 0)) ∧ Below w.heap.size w wr ∧ Hid (rd (ch t) t.size f i p = R0) ∧ t.size ≤ f + i) (fun v _ => t.size - (intOf v).toNat)
    case atStart =>
      refine ⟨0, t.size, fun _ => false, Nat.zero_le _, rfl, at_old (by simp only [World.size_alloc]; omega) (at_old (by simp only [World.size_alloc]; omega) (at_new rfl)), at_old (by simp only [World.size_alloc]; omega) (at_new (by simp only [World.size_alloc])), ?_, (((Below.refl _ _).alloc (Nat.le_refl _) _).alloc (by simp only [World.size_alloc]; omega) _).alloc (by simp only [World.size_alloc]; omega) _, HR0, by omega⟩
      rw [← unhide HZB]
      exact at_new (by simp only [World.size_alloc])
    case round =>
      obtain ⟨i, f, p, hi, rfl, hg0, hg1, hg2, hb, HF, hf⟩ := hrel
      by_cases hlt : i < t.size
      · have h1 : (i : Int) < (t.size : Int) := by omega
        obtain ⟨f, rfl⟩ : ∃ g, f = g + 1 := ⟨f - 1, by omega⟩
        have D := hide (unhide C1 i hi wr)
        cases e1 : (rb (ch t) i).1 with
        | false =>
          have hr := rb_bad _ _ e1
          rw [hr, show oneV (false, 0, (rb (ch t) i).2.2) = .tuple #[.int .i64 (-1), .int .i64 ((rb (ch t) i).2.2 : Int)] from rfl] at D
          generalize (rb (ch t) i).2.2 = n at *
          have HE : Hid (R = (2, n, fun _ => false)) := by
            show R = _
            rw [unhide HR, ← unhide HF, rd_err _ _ _ _ _ _ _ _ _ _ (rr_A _ _ _ hr) hlt (by omega)]
            rfl
          clear HF
          have cc0 : wr.cell? ⟨w.heap.size, 0, none⟩ = some (.int .u64 0) := (cell_of_row _ _ 0 _ _ _ hg0).trans rfl
          have cc1 : wr.cell? ⟨w.heap.size, 1, none⟩ = some (.int .u64 0) := (cell_of_row _ _ 1 _ _ _ hg0).trans rfl
          have cc2 : wr.cell? ⟨w.heap.size, 2, none⟩ = some (.int .u64 0) := (cell_of_row _ _ 2 _ _ _ hg0).trans rfl
          have cc3 : wr.cell? ⟨w.heap.size, 3, none⟩ = some (.int .u64 0) := (cell_of_row _ _ 3 _ _ _ hg0).trans rfl
          have fz0 := frozen_of_row _ _ 0 _ _ hg0
          have fz1 := frozen_of_row _ _ 1 _ _ hg0
          have fz2 := frozen_of_row _ _ 2 _ _ hg0
          have fz3 := frozen_of_row _ _ 3 _ _ hg0
          have dd0 : wr.cell? ⟨w.heap.size + 1, 0, none⟩ = some (.int .i64 0) := (cell_of_row _ _ 0 _ _ _ hg1).trans rfl
          have dd1 : wr.cell? ⟨w.heap.size + 1, 1, none⟩ = some (.int .i64 0) := (cell_of_row _ _ 1 _ _ _ hg1).trans rfl
          have fy0 := frozen_of_row _ _ 0 _ _ hg1
          have fy1 := frozen_of_row _ _ 1 _ _ hg1
          have J := hide (And.intro hg0 (And.intro hg1 hb))
          clear hg0 hg1 hg2 hb
          go_wp2_with fail
          refine (unhide D).mono ?_
          rintro e wr ⟨rfl, rfl⟩
          go_wp2
          obtain ⟨q0, q1⟩ := six_now (.int .i64 2) (.int .i64 (n : Int)) (unhide J).1 (unhide J).2.1
          refine bodyPost_ret (results_two results_refRead _ _ w.heap.size (w.heap.size + 1) zerosS #[.int .i64 2, .int .i64 (n : Int)] rfl rfl q0 q1 rfl rfl) rfl ⟨?_, (((((((unhide J).2.2.setCell (Nat.le_refl _) _).setCell (Nat.le_refl _) _).setCell (Nat.le_refl _) _).setCell (Nat.le_refl _) _).setCell (Nat.le_succ _) _).setCell (Nat.le_succ _) _)⟩
          rw [unhide HE]
          unfold readV sv
          rw [← unhide HZ]
          rfl
        | true =>
          have hr := rb_good _ _ e1
          obtain ⟨b1, b2, b3⟩ := rb_next t i hi e1
          rw [hr, show oneV (true, (rb (ch t) i).2.1, (rb (ch t) i).2.2) = .tuple #[.int .i64 ((rb (ch t) i).2.1 : Int), .int .i64 ((rb (ch t) i).2.2 : Int)] from rfl] at D
          generalize (rb (ch t) i).2.1 = a at *
          generalize (rb (ch t) i).2.2 = n at *
          by_cases h45 : ch t n = 45
          · have hn : n < t.size := by
              by_cases h : n < t.size
              · exact h
              · rw [ch_end t n (by omega)] at h45; omega
            have h2 : (n : Int) < (t.size : Int) := by omega
            have hx : ((t[n]).toNat : Int) = 45 := by rw [ch_at t n hn, h45]; rfl
            have E := hide (unhide C1 (n + 1) (by omega) wr)
            rw [show (((n + 1 : Nat)) : Int) = (n : Int) + 1 by omega] at E
            cases e2 : (rb (ch t) (n + 1)).1 with
            | false =>
              have hr2 := rb_bad _ _ e2
              rw [hr2, show oneV (false, 0, (rb (ch t) (n + 1)).2.2) = .tuple #[.int .i64 (-1), .int .i64 ((rb (ch t) (n + 1)).2.2 : Int)] from rfl] at E
              generalize (rb (ch t) (n + 1)).2.2 = m at *
              have HE : Hid (R = (2, m, fun _ => false)) := by
                show R = _
                rw [unhide HR, ← unhide HF, rd_err _ _ _ _ _ _ _ _ _ _ (rr_C _ _ _ _ _ hr h45 hr2) hlt (by omega)]
                rfl
              clear HF
              have cc0 : wr.cell? ⟨w.heap.size, 0, none⟩ = some (.int .u64 0) := (cell_of_row _ _ 0 _ _ _ hg0).trans rfl
              have cc1 : wr.cell? ⟨w.heap.size, 1, none⟩ = some (.int .u64 0) := (cell_of_row _ _ 1 _ _ _ hg0).trans rfl
              have cc2 : wr.cell? ⟨w.heap.size, 2, none⟩ = some (.int .u64 0) := (cell_of_row _ _ 2 _ _ _ hg0).trans rfl
              have cc3 : wr.cell? ⟨w.heap.size, 3, none⟩ = some (.int .u64 0) := (cell_of_row _ _ 3 _ _ _ hg0).trans rfl
              have fz0 := frozen_of_row _ _ 0 _ _ hg0
              have fz1 := frozen_of_row _ _ 1 _ _ hg0
              have fz2 := frozen_of_row _ _ 2 _ _ hg0
              have fz3 := frozen_of_row _ _ 3 _ _ hg0
              have dd0 : wr.cell? ⟨w.heap.size + 1, 0, none⟩ = some (.int .i64 0) := (cell_of_row _ _ 0 _ _ _ hg1).trans rfl
              have dd1 : wr.cell? ⟨w.heap.size + 1, 1, none⟩ = some (.int .i64 0) := (cell_of_row _ _ 1 _ _ _ hg1).trans rfl
              have fy0 := frozen_of_row _ _ 0 _ _ hg1
              have fy1 := frozen_of_row _ _ 1 _ _ hg1
              have J := hide (And.intro hg0 (And.intro hg1 hb))
              clear hg0 hg1 hg2 hb
              go_wp2_with fail
              refine (unhide D).mono ?_
              rintro e wr ⟨rfl, rfl⟩
              go_wp2_with fail
              refine (unhide E).mono ?_
              rintro e wr ⟨rfl, rfl⟩
              go_wp2
              obtain ⟨q0, q1⟩ := six_now (.int .i64 2) (.int .i64 (m : Int)) (unhide J).1 (unhide J).2.1
              refine bodyPost_ret (results_two results_refRead _ _ w.heap.size (w.heap.size + 1) zerosS #[.int .i64 2, .int .i64 (m : Int)] rfl rfl q0 q1 rfl rfl) rfl ⟨?_, (((((((unhide J).2.2.setCell (Nat.le_refl _) _).setCell (Nat.le_refl _) _).setCell (Nat.le_refl _) _).setCell (Nat.le_refl _) _).setCell (Nat.le_succ _) _).setCell (Nat.le_succ _) _)⟩
              rw [unhide HE]
              unfold readV sv
              rw [← unhide HZ]
              rfl
            | true =>
              have hr2 := rb_good _ _ e2
              obtain ⟨d1, d2, d3⟩ := rb_next t (n + 1) (by omega) e2
              rw [hr2, show oneV (true, (rb (ch t) (n + 1)).2.1, (rb (ch t) (n + 1)).2.2) = .tuple #[.int .i64 ((rb (ch t) (n + 1)).2.1 : Int), .int .i64 ((rb (ch t) (n + 1)).2.2 : Int)] from rfl] at E
              generalize (rb (ch t) (n + 1)).2.1 = b at *
              generalize (rb (ch t) (n + 1)).2.2 = m at *
              by_cases hab : b < a
              · have h3 : (b : Int) < (a : Int) := by omega
                have HE : Hid (R = (3, n + 1, fun _ => false)) := by
                  show R = _
                  rw [unhide HR, ← unhide HF, rd_err _ _ _ _ _ _ _ _ _ _ (rr_D _ _ _ _ _ _ hr h45 hr2 hab) hlt (by omega)]
                  rfl
                clear HF
                have cc0 : wr.cell? ⟨w.heap.size, 0, none⟩ = some (.int .u64 0) := (cell_of_row _ _ 0 _ _ _ hg0).trans rfl
                have cc1 : wr.cell? ⟨w.heap.size, 1, none⟩ = some (.int .u64 0) := (cell_of_row _ _ 1 _ _ _ hg0).trans rfl
                have cc2 : wr.cell? ⟨w.heap.size, 2, none⟩ = some (.int .u64 0) := (cell_of_row _ _ 2 _ _ _ hg0).trans rfl
                have cc3 : wr.cell? ⟨w.heap.size, 3, none⟩ = some (.int .u64 0) := (cell_of_row _ _ 3 _ _ _ hg0).trans rfl
                have fz0 := frozen_of_row _ _ 0 _ _ hg0
                have fz1 := frozen_of_row _ _ 1 _ _ hg0
                have fz2 := frozen_of_row _ _ 2 _ _ hg0
                have fz3 := frozen_of_row _ _ 3 _ _ hg0
                have dd0 : wr.cell? ⟨w.heap.size + 1, 0, none⟩ = some (.int .i64 0) := (cell_of_row _ _ 0 _ _ _ hg1).trans rfl
                have dd1 : wr.cell? ⟨w.heap.size + 1, 1, none⟩ = some (.int .i64 0) := (cell_of_row _ _ 1 _ _ _ hg1).trans rfl
                have fy0 := frozen_of_row _ _ 0 _ _ hg1
                have fy1 := frozen_of_row _ _ 1 _ _ hg1
                have J := hide (And.intro hg0 (And.intro hg1 hb))
                clear hg0 hg1 hg2 hb
                go_wp2_with fail
                refine (unhide D).mono ?_
                rintro e wr ⟨rfl, rfl⟩
                go_wp2_with fail
                refine (unhide E).mono ?_
                rintro e wr ⟨rfl, rfl⟩
                go_wp2
                obtain ⟨q0, q1⟩ := six_now (.int .i64 3) (.int .i64 ((n : Int) + 1)) (unhide J).1 (unhide J).2.1
                refine bodyPost_ret (results_two results_refRead _ _ w.heap.size (w.heap.size + 1) zerosS #[.int .i64 3, .int .i64 ((n : Int) + 1)] rfl rfl q0 q1 rfl rfl) rfl ⟨?_, (((((((unhide J).2.2.setCell (Nat.le_refl _) _).setCell (Nat.le_refl _) _).setCell (Nat.le_refl _) _).setCell (Nat.le_refl _) _).setCell (Nat.le_succ _) _).setCell (Nat.le_succ _) _)⟩
                rw [unhide HE]
                unfold readV sv
                rw [← unhide HZ]
                rfl
              · have h3 : ¬ (b : Int) < (a : Int) := by omega
                have HF2 := hide ((rd_next _ _ f _ _ _ _ p (rr_E _ _ _ _ _ _ hr h45 hr2 hab) hlt).symm.trans (unhide HF))
                clear HF
                go_wp2_with fail
                refine (unhide D).mono ?_
                rintro e wr ⟨rfl, rfl⟩
                go_wp2_with fail
                refine (unhide E).mono ?_
                rintro e wr ⟨rfl, rfl⟩
                go_wp2
                go_loopw [10] (fun v wq => ∃ c : Nat, a ≤ c ∧ c ≤ b + 1 ∧ v = .int .i64 c ∧ wq.heap[w.heap.size]? = some (.cells zerosS 24 (0, 0)) ∧ wq.heap[w.heap.size + 1]? = some (.cells #[.int .i64 0, .int .i64 0] 38 (0, 0)) ∧ wq.heap[w.heap.size + 1 + 1]? = some (.cells (bl fun x => p x || (decide (a ≤ x) && decide (x < c))) 25 (0, 0)) ∧ Below w.heap.size w wq) (fun v _ => b + 1 - (intOf v).toNat)
                case atStart => exact ⟨a, Nat.le_refl _, by omega, rfl, hg0, hg1, by rw [bl_none]; exact hg2, hb⟩
                case round =>
                  obtain ⟨c, hc1, hc2, rfl, l0, l1, l2, lb⟩ := hrel
                  clear hg0 hg1 hg2 hb
                  by_cases hcy : c ≤ b
                  · have h3 : (c : Int) ≤ (b : Int) := by omega
                    have h4 : (c : Int) < 256 := by omega
                    have c2 : wr.cell? ⟨w.heap.size + 1 + 1, c, none⟩ = some (.bool (p c || (decide (a ≤ c) && decide (c < c)))) := by rw [cell_of_row wr _ _ _ _ _ l2, bl_at _ _ (by omega)]
                    have hfr := frozen_of_row wr (w.heap.size + 1 + 1) c _ _ l2
                    have n2 := heap_setCell_same wr (w.heap.size + 1 + 1) c _ _ (.bool true) l2
                    rw [bl_more p a c hc1] at n2
                    have n0 := (heap_setCell_other wr ⟨w.heap.size + 1 + 1, c, none⟩ w.heap.size (.bool true) (by simp only; omega)).trans l0
                    have n1 := (heap_setCell_other wr ⟨w.heap.size + 1 + 1, c, none⟩ (w.heap.size + 1) (.bool true) (by simp only; omega)).trans l1
                    have nb := lb.setCell (p := ⟨w.heap.size + 1 + 1, c, none⟩) (by simp only; omega) (.bool true)
                    have NN := hide (And.intro n0 (And.intro n1 (And.intro n2 nb)))
                    generalize (p c || (decide (a ≤ c) && decide (c < c))) = old at *
                    clear n0 n1 n2 nb l0 l1 l2 lb
                    go_wp2
                    go_roundw
                    case rel => exact ⟨c + 1, by omega, by omega, by go_num, (unhide NN).1, (unhide NN).2.1, (unhide NN).2.2.1, (unhide NN).2.2.2⟩
                    case measure => simp [intOf]; omega
                  · obtain rfl : c = b + 1 := by omega
                    rw [bl_upto p a b] at l2
                    have h3 : ¬ ((b + 1 : Nat) : Int) ≤ (b : Int) := by omega
                    have LL := hide (And.intro l0 (And.intro l1 (And.intro l2 lb)))
                    clear l0 l1 l2 lb
                    go_wp2
                    go_roundw
                    case rel => exact ⟨m, f, _, by omega, rfl, (unhide LL).1, (unhide LL).2.1, (unhide LL).2.2.1, (unhide LL).2.2.2, HF2, by omega⟩
                    case measure => simp [intOf]; omega
          · have HF2 := hide ((rd_next _ _ f _ _ _ _ p (rr_B _ _ _ _ hr h45) hlt).symm.trans (unhide HF))
            clear HF
            by_cases hn : n < t.size
            · have h2 : (n : Int) < (t.size : Int) := by omega
              have hx : ((t[n]).toNat : Int) = (ch t n : Int) := by rw [ch_at t n hn]
              have hq : ((ch t n : Int) == 45) = false := by rw [beq_eq_false_iff_ne]; omega
              generalize ch t n = d at *
              go_wp2_with fail
              refine (unhide D).mono ?_
              rintro e wr ⟨rfl, rfl⟩
              go_wp2
              go_loopw [10] (fun v wq => ∃ c : Nat, a ≤ c ∧ c ≤ a + 1 ∧ v = .int .i64 c ∧ wq.heap[w.heap.size]? = some (.cells zerosS 24 (0, 0)) ∧ wq.heap[w.heap.size + 1]? = some (.cells #[.int .i64 0, .int .i64 0] 38 (0, 0)) ∧ wq.heap[w.heap.size + 1 + 1]? = some (.cells (bl fun x => p x || (decide (a ≤ x) && decide (x < c))) 25 (0, 0)) ∧ Below w.heap.size w wq) (fun v _ => a + 1 - (intOf v).toNat)
              case atStart => exact ⟨a, Nat.le_refl _, by omega, rfl, hg0, hg1, by rw [bl_none]; exact hg2, hb⟩
              case round =>
                obtain ⟨c, hc1, hc2, rfl, l0, l1, l2, lb⟩ := hrel
                clear hg0 hg1 hg2 hb
                by_cases hcy : c ≤ a
                · have h3 : (c : Int) ≤ (a : Int) := by omega
                  have h4 : (c : Int) < 256 := by omega
                  have c2 : wr.cell? ⟨w.heap.size + 1 + 1, c, none⟩ = some (.bool (p c || (decide (a ≤ c) && decide (c < c)))) := by rw [cell_of_row wr _ _ _ _ _ l2, bl_at _ _ (by omega)]
                  have hfr := frozen_of_row wr (w.heap.size + 1 + 1) c _ _ l2
                  have n2 := heap_setCell_same wr (w.heap.size + 1 + 1) c _ _ (.bool true) l2
                  rw [bl_more p a c hc1] at n2
                  have n0 := (heap_setCell_other wr ⟨w.heap.size + 1 + 1, c, none⟩ w.heap.size (.bool true) (by simp only; omega)).trans l0
                  have n1 := (heap_setCell_other wr ⟨w.heap.size + 1 + 1, c, none⟩ (w.heap.size + 1) (.bool true) (by simp only; omega)).trans l1
                  have nb := lb.setCell (p := ⟨w.heap.size + 1 + 1, c, none⟩) (by simp only; omega) (.bool true)
                  have NN := hide (And.intro n0 (And.intro n1 (And.intro n2 nb)))
                  generalize (p c || (decide (a ≤ c) && decide (c < c))) = old at *
                  clear n0 n1 n2 nb l0 l1 l2 lb
                  go_wp2
                  go_roundw
                  case rel => exact ⟨c + 1, by omega, by omega, by go_num, (unhide NN).1, (unhide NN).2.1, (unhide NN).2.2.1, (unhide NN).2.2.2⟩
                  case measure => simp [intOf]; omega
                · obtain rfl : c = a + 1 := by omega
                  rw [bl_upto p a a] at l2
                  have h3 : ¬ ((a + 1 : Nat) : Int) ≤ (a : Int) := by omega
                  have LL := hide (And.intro l0 (And.intro l1 (And.intro l2 lb)))
                  clear l0 l1 l2 lb
                  go_wp2
                  go_roundw
                  case rel => exact ⟨n, f, _, by omega, rfl, (unhide LL).1, (unhide LL).2.1, (unhide LL).2.2.1, (unhide LL).2.2.2, HF2, by omega⟩
                  case measure => simp [intOf]; omega
            · have h2 : ¬ (n : Int) < (t.size : Int) := by omega
              go_wp2_with fail
              refine (unhide D).mono ?_
              rintro e wr ⟨rfl, rfl⟩
              go_wp2
              go_loopw [10] (fun v wq => ∃ c : Nat, a ≤ c ∧ c ≤ a + 1 ∧ v = .int .i64 c ∧ wq.heap[w.heap.size]? = some (.cells zerosS 24 (0, 0)) ∧ wq.heap[w.heap.size + 1]? = some (.cells #[.int .i64 0, .int .i64 0] 38 (0, 0)) ∧ wq.heap[w.heap.size + 1 + 1]? = some (.cells (bl fun x => p x || (decide (a ≤ x) && decide (x < c))) 25 (0, 0)) ∧ Below w.heap.size w wq) (fun v _ => a + 1 - (intOf v).toNat)
              case atStart => exact ⟨a, Nat.le_refl _, by omega, rfl, hg0, hg1, by rw [bl_none]; exact hg2, hb⟩
              case round =>
                obtain ⟨c, hc1, hc2, rfl, l0, l1, l2, lb⟩ := hrel
                clear hg0 hg1 hg2 hb
                by_cases hcy : c ≤ a
                · have h3 : (c : Int) ≤ (a : Int) := by omega
                  have h4 : (c : Int) < 256 := by omega
                  have c2 : wr.cell? ⟨w.heap.size + 1 + 1, c, none⟩ = some (.bool (p c || (decide (a ≤ c) && decide (c < c)))) := by rw [cell_of_row wr _ _ _ _ _ l2, bl_at _ _ (by omega)]
                  have hfr := frozen_of_row wr (w.heap.size + 1 + 1) c _ _ l2
                  have n2 := heap_setCell_same wr (w.heap.size + 1 + 1) c _ _ (.bool true) l2
                  rw [bl_more p a c hc1] at n2
                  have n0 := (heap_setCell_other wr ⟨w.heap.size + 1 + 1, c, none⟩ w.heap.size (.bool true) (by simp only; omega)).trans l0
                  have n1 := (heap_setCell_other wr ⟨w.heap.size + 1 + 1, c, none⟩ (w.heap.size + 1) (.bool true) (by simp only; omega)).trans l1
                  have nb := lb.setCell (p := ⟨w.heap.size + 1 + 1, c, none⟩) (by simp only; omega) (.bool true)
                  have NN := hide (And.intro n0 (And.intro n1 (And.intro n2 nb)))
                  generalize (p c || (decide (a ≤ c) && decide (c < c))) = old at *
                  clear n0 n1 n2 nb l0 l1 l2 lb
                  go_wp2
                  go_roundw
                  case rel => exact ⟨c + 1, by omega, by omega, by go_num, (unhide NN).1, (unhide NN).2.1, (unhide NN).2.2.1, (unhide NN).2.2.2⟩
                  case measure => simp [intOf]; omega
                · obtain rfl : c = a + 1 := by omega
                  rw [bl_upto p a a] at l2
                  have h3 : ¬ ((a + 1 : Nat) : Int) ≤ (a : Int) := by omega
                  have LL := hide (And.intro l0 (And.intro l1 (And.intro l2 lb)))
                  clear l0 l1 l2 lb
                  go_wp2
                  go_roundw
                  case rel => exact ⟨n, f, _, by omega, rfl, (unhide LL).1, (unhide LL).2.1, (unhide LL).2.2.1, (unhide LL).2.2.2, HF2, by omega⟩
                  case measure => simp [intOf]; omega
      · obtain rfl : i = t.size := by omega
        have hF := unhide HF
        rw [rd_end] at hF
        have HE : Hid (R = (0, 0, p)) := by
          show R = _
          rw [unhide HR, ← hF]
          rw [if_neg (by simp)]
        clear hF HF C1 hf
        go_wp2
        go_loopw [81] (fun v wq => ∃ k : Nat, k ≤ 256 ∧ v = .int .i64 k ∧ wq.heap[w.heap.size]? = some (.cells zerosS 24 (0, 0)) ∧ wq.heap[w.heap.size + 1]? = some (.cells #[.int .i64 0, .int .i64 0] 38 (0, 0)) ∧ wq.heap[w.heap.size + 1 + 1]? = some (.cells (bl (mixB k (p) p)) 25 (0, 0)) ∧ Below w.heap.size w wq) (fun v _ => 256 - (intOf v).toNat)
        case atStart => exact ⟨0, by omega, rfl, hg0, hg1, by rw [mixB_zero]; exact hg2, hb⟩
        case round =>
          obtain ⟨k, hk, rfl, l0, l1, l2, lb⟩ := hrel
          clear hg0 hg1 hg2 hb
          by_cases hlt2 : k < 256
          · have h3 : (k : Int) < 256 := by omega
            have c2 : wr.cell? ⟨w.heap.size + 1 + 1, k, none⟩ = some (.bool (p k)) := by
              rw [cell_of_row wr _ _ _ _ _ l2, bl_at _ _ hlt2]
              unfold mixB
              rw [if_neg (by omega)]
            have hfr := frozen_of_row wr (w.heap.size + 1 + 1) k _ _ l2
            have n2 := heap_setCell_same wr (w.heap.size + 1 + 1) k _ _ (.bool (p k)) l2
            rw [show (.bool (p k) : Value) = .bool ((p) k) from rfl, mixB_step] at n2
            have n0 := (heap_setCell_other wr ⟨w.heap.size + 1 + 1, k, none⟩ w.heap.size (.bool (p k)) (by simp only; omega)).trans l0
            have n1 := (heap_setCell_other wr ⟨w.heap.size + 1 + 1, k, none⟩ (w.heap.size + 1) (.bool (p k)) (by simp only; omega)).trans l1
            have nb := lb.setCell (p := ⟨w.heap.size + 1 + 1, k, none⟩) (by simp only; omega) (.bool (p k))
            have NN := hide (And.intro n0 (And.intro n1 (And.intro n2 nb)))
            clear n0 n1 n2 nb l0 l1 l2 lb
            go_wp2
            go_roundw
            case rel => exact ⟨k + 1, by omega, by go_num, (unhide NN).1, (unhide NN).2.1, (unhide NN).2.2.1, (unhide NN).2.2.2⟩
            case measure => simp [intOf]; omega
          · obtain rfl : k = 256 := by omega
            rw [mixB_end] at l2
            have ls := bl_size (p)
            have hsz := sc_size (p)
            have hone := sc_one (p)
            have C := hide (fun W => back_any (p) W)
            unfold sv at C
            have hi1 := size_set
            rw [← hsz] at hi1
            have hi2 := size_bools
            rw [← ls] at hi2
            generalize bl (p) = LB at *
            obtain ⟨D, hD⟩ : ∃ D, D = sc (p) := ⟨_, rfl⟩
            rw [← hD] at hsz hone hi1 C
            have HD := hide hD
            have HI := hide hi1
            have HI2 := hide hi2
            have HFI := hide info_fc
            clear hi1 hi2 hD
            go_wp2_with (first
              | (refine wpList_load_row rfl 25 _ rfl (w.heap.size + 1 + 1) rfl 25 LB (0, 0) _ l2 Try.underlying25 rfl (unhide HI2) ?_)
              | (go_at_call 29; refine (unhide C _).mono ?_; rintro e w1 ⟨rfl, hb1⟩; have m0 := row_below l0 hb1; have m1 := row_below l1 hb1; have m4 := (setRow_other w1 w.heap.size (w.heap.size + 1) D (by omega)).trans m1)
              | (refine wpList_store_row rfl 24 _ _ rfl w.heap.size D rfl rfl 24 zerosS m0 (unhide HI) hsz.symm hone ?_)
              | (refine wpList_store_row rfl 38 _ _ rfl (w.heap.size + 1) #[.int .i64 0, .int .i64 0] rfl rfl 38 #[.int .i64 0, .int .i64 0] m4 (unhide HFI) rfl (fc_one 0 0) ?_))
            (try simp only [Exit.inBlock, Exit.then])
            refine bodyPost_ret (results_two results_refRead _ _ w.heap.size (w.heap.size + 1) D #[.int .i64 0, .int .i64 0] rfl rfl ((setRow_other _ (w.heap.size + 1) w.heap.size _ (by omega)).trans (setRow_heap _ w.heap.size _ D _ _ m0)) (setRow_heap _ (w.heap.size + 1) _ _ _ _ m4) hsz rfl) rfl ⟨?_, below_setRow (below_setRow (bnext lb hb1) _ (Nat.le_refl _) _) _ (by omega) _⟩
            rw [unhide HE]
            unfold readV sv
            rw [← unhide HD]
            rfl
  · have hp0 : ¬ (0 : Int) < (t.size : Int) := by omega
    clear h94
    go_enter Try.func26, Try.ntmps26
    go_wp2
    clear hz
    go_loopw [5] (fun v wr => ∃ (i f : Nat) (p : Nat → Bool), i ≤ t.size ∧ v = .int .i64 i ∧ wr.heap[w.heap.size]? = some (.cells zerosS 24 (0, 0)) ∧ wr.heap[w.heap.size + 1]? = some (.cells #[.int .i64 0, .int .i64 0] 38 (0, 0)) ∧ wr.heap[w.heap.size + 1 + 1]? = some (.cells (bl p) 25 (0, 0)) ∧ Below w.heap.size w wr ∧ Hid (rd (ch t) t.size f i p = R0) ∧ t.size ≤ f + i) (fun v _ => t.size - (intOf v).toNat)
    case atStart =>
      refine ⟨0, t.size, fun _ => false, Nat.zero_le _, rfl, at_old (by simp only [World.size_alloc]; omega) (at_old (by simp only [World.size_alloc]; omega) (at_new rfl)), at_old (by simp only [World.size_alloc]; omega) (at_new (by simp only [World.size_alloc])), ?_, (((Below.refl _ _).alloc (Nat.le_refl _) _).alloc (by simp only [World.size_alloc]; omega) _).alloc (by simp only [World.size_alloc]; omega) _, HR0, by omega⟩
      rw [← unhide HZB]
      exact at_new (by simp only [World.size_alloc])
    case round =>
      obtain ⟨i, f, p, hi, rfl, hg0, hg1, hg2, hb, HF, hf⟩ := hrel
      by_cases hlt : i < t.size
      · exfalso
        omega
      · obtain rfl : i = t.size := by omega
        have hF := unhide HF
        rw [rd_end] at hF
        have HE : Hid (R = (0, 0, p)) := by
          show R = _
          rw [unhide HR, ← hF]
          rw [if_neg (by simp)]
        clear hF HF C1 hf
        go_wp2
        go_loopw [81] (fun v wq => ∃ k : Nat, k ≤ 256 ∧ v = .int .i64 k ∧ wq.heap[w.heap.size]? = some (.cells zerosS 24 (0, 0)) ∧ wq.heap[w.heap.size + 1]? = some (.cells #[.int .i64 0, .int .i64 0] 38 (0, 0)) ∧ wq.heap[w.heap.size + 1 + 1]? = some (.cells (bl (mixB k (p) p)) 25 (0, 0)) ∧ Below w.heap.size w wq) (fun v _ => 256 - (intOf v).toNat)
        case atStart => exact ⟨0, by omega, rfl, hg0, hg1, by rw [mixB_zero]; exact hg2, hb⟩
        case round =>
          obtain ⟨k, hk, rfl, l0, l1, l2, lb⟩ := hrel
          clear hg0 hg1 hg2 hb
          by_cases hlt2 : k < 256
          · have h3 : (k : Int) < 256 := by omega
            have c2 : wr.cell? ⟨w.heap.size + 1 + 1, k, none⟩ = some (.bool (p k)) := by
              rw [cell_of_row wr _ _ _ _ _ l2, bl_at _ _ hlt2]
              unfold mixB
              rw [if_neg (by omega)]
            have hfr := frozen_of_row wr (w.heap.size + 1 + 1) k _ _ l2
            have n2 := heap_setCell_same wr (w.heap.size + 1 + 1) k _ _ (.bool (p k)) l2
            rw [show (.bool (p k) : Value) = .bool ((p) k) from rfl, mixB_step] at n2
            have n0 := (heap_setCell_other wr ⟨w.heap.size + 1 + 1, k, none⟩ w.heap.size (.bool (p k)) (by simp only; omega)).trans l0
            have n1 := (heap_setCell_other wr ⟨w.heap.size + 1 + 1, k, none⟩ (w.heap.size + 1) (.bool (p k)) (by simp only; omega)).trans l1
            have nb := lb.setCell (p := ⟨w.heap.size + 1 + 1, k, none⟩) (by simp only; omega) (.bool (p k))
            have NN := hide (And.intro n0 (And.intro n1 (And.intro n2 nb)))
            clear n0 n1 n2 nb l0 l1 l2 lb
            go_wp2
            go_roundw
            case rel => exact ⟨k + 1, by omega, by go_num, (unhide NN).1, (unhide NN).2.1, (unhide NN).2.2.1, (unhide NN).2.2.2⟩
            case measure => simp [intOf]; omega
          · obtain rfl : k = 256 := by omega
            rw [mixB_end] at l2
            have ls := bl_size (p)
            have hsz := sc_size (p)
            have hone := sc_one (p)
            have C := hide (fun W => back_any (p) W)
            unfold sv at C
            have hi1 := size_set
            rw [← hsz] at hi1
            have hi2 := size_bools
            rw [← ls] at hi2
            generalize bl (p) = LB at *
            obtain ⟨D, hD⟩ : ∃ D, D = sc (p) := ⟨_, rfl⟩
            rw [← hD] at hsz hone hi1 C
            have HD := hide hD
            have HI := hide hi1
            have HI2 := hide hi2
            have HFI := hide info_fc
            clear hi1 hi2 hD
            go_wp2_with (first
              | (refine wpList_load_row rfl 25 _ rfl (w.heap.size + 1 + 1) rfl 25 LB (0, 0) _ l2 Try.underlying25 rfl (unhide HI2) ?_)
              | (go_at_call 29; refine (unhide C _).mono ?_; rintro e w1 ⟨rfl, hb1⟩; have m0 := row_below l0 hb1; have m1 := row_below l1 hb1; have m4 := (setRow_other w1 w.heap.size (w.heap.size + 1) D (by omega)).trans m1)
              | (refine wpList_store_row rfl 24 _ _ rfl w.heap.size D rfl rfl 24 zerosS m0 (unhide HI) hsz.symm hone ?_)
              | (refine wpList_store_row rfl 38 _ _ rfl (w.heap.size + 1) #[.int .i64 0, .int .i64 0] rfl rfl 38 #[.int .i64 0, .int .i64 0] m4 (unhide HFI) rfl (fc_one 0 0) ?_))
            (try simp only [Exit.inBlock, Exit.then])
            refine bodyPost_ret (results_two results_refRead _ _ w.heap.size (w.heap.size + 1) D #[.int .i64 0, .int .i64 0] rfl rfl ((setRow_other _ (w.heap.size + 1) w.heap.size _ (by omega)).trans (setRow_heap _ w.heap.size _ D _ _ m0)) (setRow_heap _ (w.heap.size + 1) _ _ _ _ m4) hsz rfl) rfl ⟨?_, below_setRow (below_setRow (bnext lb hb1) _ (Nat.le_refl _) _) _ (by omega) _⟩
            rw [unhide HE]
            unfold readV sv
            rw [← unhide HD]
            rfl

theorem refRead_any (t : ByteArray) (w : World) (hm : t.size ≤ maxLen) :
    Calls Try.prog 26 #[.string t] w fun e w' => e = .returned (readV (readSaid t)) ∧ Below w.heap.size w w' := by
  by_cases ht : 65536 < t.size
  · have e : readSaid t = (4, 0, fun _ => false) := by unfold readSaid; rw [if_pos ht]
    rw [e]
    exact refRead_much t w hm ht
  · by_cases h : ch t 0 = 94
    · exact refRead_others t w (by omega) h
    · exact refRead_these t w (by omega) h
end Go.Proofs.Ytgamnhmkimonnaa
