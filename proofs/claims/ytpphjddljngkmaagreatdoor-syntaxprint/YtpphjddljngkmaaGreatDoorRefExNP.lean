/- The document's node of expressions: what is wrong with one, kids and all. -/
import Derived.Test.YtpphjddljngkmaaGreatDoorStBM
import Derived.Test.YtpphjddljngkmaaGreatDoorRefExAP
import Derived.Deep.Cut
import Derived.Deep.CutRange
import Derived.Deep.QuietTactic
namespace Go.Proofs.YtpphjddljngkmaaGreatDoor
open Go.RowKit

theorem cells5y {W : World} {g : Nat} {a b c d e : Value} {t : TypeId} (h : W.heap[g]? = some (.cells #[a, b, c, d, e] t (0, 0))) :
    W.cell? ⟨g, 0, none⟩ = some a ∧ W.cell? ⟨g, 1, none⟩ = some b ∧ W.cell? ⟨g, 2, none⟩ = some c ∧ W.cell? ⟨g, 3, none⟩ = some d ∧ W.cell? ⟨g, 4, none⟩ = some e := ⟨cr h, cr h, cr h, cr h, cr h⟩
def RBadSays (T : PT) : Prop := ∀ (w : World), T.In w →
  Calls Tryz.prog 15 #[.agg #[.int .i64 T.k, .string T.t, .int .i64 T.n, .string T.nm, .slice T.xa T.len T.cap]] w fun e w' => e = .returned (.int .i64 T.badX) ∧ Below w.heap.size w w'
theorem badx_err {T : PT} {v : Int} (h : errX T = v) (h0 : v ≠ 0) : T.badX = v := by rw [T.badX_eq, if_neg (by rw [h]; exact h0), h]
theorem badx_kids {T : PT} (h : errX T = 0) : T.badX = firstTo (fun i => (T.kid i).badX) T.len := by rw [T.badX_eq, if_pos h]
set_option maxHeartbeats 2000000 in
theorem refKids_any (k : Int) (w : World) : Calls Tryz.prog 32 #[.int .i64 k] w fun e w' => e = .returned (.int .i64 (leastX k)) ∧ w' = w := by
  by_cases h1 : k = 4 ∨ k = 5 ∨ k = 7
  · rcases h1 with rfl | rfl | rfl
    all_goals (go_enter Tryz.func32, Tryz.ntmps32; go_wp2_with fail; go_ret; exact ⟨rfl, rfl⟩)
  · by_cases h2 : 8 ≤ k ∧ k ≤ 13
    · have h3 : k = 8 ∨ k = 9 ∨ k = 10 ∨ k = 11 ∨ k = 12 ∨ k = 13 := by omega
      rcases h3 with rfl | rfl | rfl | rfl | rfl | rfl
      all_goals (go_enter Tryz.func32, Tryz.ntmps32; go_wp2_with fail; go_ret; exact ⟨rfl, rfl⟩)
    · have HE : Hid (leastX k = 0) := hide (by unfold leastX; rw [if_neg h1, if_neg h2])
      have q4 : (k == 4) = false := bn
      have q5 : (k == 5) = false := bn
      have q7 : (k == 7) = false := bn
      have q8 : (k == 8) = false := bn
      have q9 : (k == 9) = false := bn
      have q10 : (k == 10) = false := bn
      have q11 : (k == 11) = false := bn
      have q12 : (k == 12) = false := bn
      have q13 : (k == 13) = false := bn
      clear h1 h2
      go_enter Tryz.func32, Tryz.ntmps32
      go_wp2_with fail
      go_ret
      exact ⟨by rw [unhide HE]; rfl, rfl⟩
set_option maxRecDepth 100000 in
set_option maxHeartbeats 8000000 in
theorem rbad_step (T : PT) (ih : ∀ i, i < T.len → RBadSays (T.kid i)) : RBadSays T := by
  intro w hT
  have hmax := hT.max
  unfold maxLen at hmax
  have HNM := hide hT.name
  obtain ⟨w1, hw1⟩ : ∃ w1, w1 = w.alloc (.cells #[.int .i64 T.k, .string T.t, .int .i64 T.n, .string T.nm, .slice T.xa T.len T.cap] 25) := ⟨_, rfl⟩
  have hk0 : Below w.heap.size w w1 := by rw [hw1]; exact ba _
  have hr1 : w1.heap[w.heap.size]? = some (.cells #[.int .i64 T.k, .string T.t, .int .i64 T.n, .string T.nm, .slice T.xa T.len T.cap] 25 (0, 0)) := by rw [hw1]; exact at_new rfl
  obtain ⟨c0, c1, c2, c3, c4⟩ := cells5y hr1
  have HK0 := hide hk0
  have HR1 := hide hr1
  have HW1 := hide hw1
  have HD := hide (And.intro hT ih)
  have HEX := hide (show errX T = _ from rfl)
  unfold errX at HEX
  have HBE := hide (fun v h h0 => badx_err (T := T) (v := v) h h0)
  clear hT ih hk0 hr1 hw1
  go_enter Tryz.func15, Tryz.ntmps15
  by_cases h1 : T.k < 1 ∨ 13 < T.k
  · have HE := hide (unhide HBE 1 ((unhide HEX).trans (if_pos h1)) (by decide))
    rcases h1 with h1 | h1
    · go_wp2_with fail
      go_ret
      exact ⟨by rw [unhide HE]; rfl, ba _⟩
    · have h2 : ¬ T.k < 1 := by omega
      go_wp2_with fail
      go_ret
      exact ⟨by rw [unhide HE]; rfl, ba _⟩
  · have h1a : ¬ T.k < 1 := by omega
    have h1b : ¬ 13 < T.k := by omega
    have HEX := hide ((unhide HEX).trans (if_neg h1))
    have H13 := hide h1
    clear h1
    go_upto_region 3 with fail
    rw [← unhide HW1]
    go_cut [22] from 14 (fun s wx => s = .bool (decide (T.k = 1 ∧ 65536 < T.t.size)) ∧ w1 = wx)
    case first =>
      by_cases hk : T.k = 1
      · have q0 : (T.k == 1) = true := bt hk
        by_cases hz : 65536 < T.t.size
        · have HT := hide (decide_eq_true (And.intro hk hz))
          have g : (65536 : Int) < (T.t.size : Int) := by omega
          clear hk hz
          go_wp2_with fail
          go_meet
          case rel => exact ⟨by rw [unhide HT], rfl⟩
        · have HT := hide (decide_eq_false (fun h : T.k = 1 ∧ 65536 < T.t.size => hz h.2))
          have g : ¬ (65536 : Int) < (T.t.size : Int) := by omega
          clear hk hz
          go_wp2_with fail
          go_meet
          case rel => exact ⟨by rw [unhide HT], rfl⟩
      · have HT := hide (decide_eq_false (fun h : T.k = 1 ∧ 65536 < T.t.size => hk h.1))
        have q0 : (T.k == 1) = false := bn hk
        clear hk
        go_wp2_with fail
        go_meet
        case rel => exact ⟨by rw [unhide HT], rfl⟩
    case rest =>
    obtain ⟨rfl, rfl⟩ := hcut
    by_cases ht : T.k = 1 ∧ 65536 < T.t.size
    · have HE := hide (unhide HBE 4 ((unhide HEX).trans (if_pos ht)) (by decide))
      rw [decide_eq_true ht]
      clear ht
      go_wp2_with fail
      go_ret
      exact ⟨by rw [unhide HE]; rfl, unhide HK0⟩
    have HEX := hide ((unhide HEX).trans (if_neg ht))
    rw [decide_eq_false ht]
    clear ht
    go_upto_region 5 with fail
    go_cut [30] from 23 (fun s wx => s = .bool (decide (T.k = 2 ∧ T.n < 0)) ∧ w1 = wx)
    case first =>
      by_cases hk : T.k = 2
      · have q0 : (T.k == 2) = true := bt hk
        by_cases hz : T.n < 0
        · have HT := hide (decide_eq_true (And.intro hk hz))
          clear hk
          go_wp2_with fail
          go_meet
          case rel => exact ⟨by rw [unhide HT], rfl⟩
        · have HT := hide (decide_eq_false (fun h : T.k = 2 ∧ T.n < 0 => hz h.2))
          clear hk
          go_wp2_with fail
          go_meet
          case rel => exact ⟨by rw [unhide HT], rfl⟩
      · have HT := hide (decide_eq_false (fun h : T.k = 2 ∧ T.n < 0 => hk h.1))
        have q0 : (T.k == 2) = false := bn hk
        clear hk
        go_wp2_with fail
        go_meet
        case rel => exact ⟨by rw [unhide HT], rfl⟩
    case rest =>
    obtain ⟨rfl, rfl⟩ := hcut
    by_cases ht : T.k = 2 ∧ T.n < 0
    · have HE := hide (unhide HBE 3 ((unhide HEX).trans (if_pos ht)) (by decide))
      rw [decide_eq_true ht]
      clear ht
      go_wp2_with fail
      go_ret
      exact ⟨by rw [unhide HE]; rfl, unhide HK0⟩
    have HEX := hide ((unhide HEX).trans (if_neg ht))
    rw [decide_eq_false ht]
    clear ht
    go_upto_region 7 with fail
    go_cut [49] from 31 (fun s wx => s = .bool (decide (namedX T.k = true ∧ named T.nm = false)) ∧ Hid (Below w1.heap.size w1 wx))
    case first =>
      have HNA := hide (refNamed_any T.nm w1 (unhide HNM))
      by_cases hk : T.k = 3 ∨ T.k = 4 ∨ T.k = 6
      · have HT : Hid (decide (namedX T.k = true ∧ named T.nm = false) = !named T.nm) := hide (by
          have : namedX T.k = true := decide_eq_true hk
          rw [this]; cases named T.nm <;> rfl)
        rcases hk with hk | hk | hk
        · have q3 : (T.k == 3) = true := bt hk
          clear hk
          go_wp2_with fail
          refine (unhide HNA).mono ?_
          rintro e w2 ⟨rfl, hb2⟩
          have HB2 := hide hb2
          clear hb2
          go_wp2_with fail
          go_meet
          case rel => exact ⟨by rw [unhide HT], unhide HB2⟩
        · have q3 : (T.k == 3) = false := bn
          have q4 : (T.k == 4) = true := bt hk
          clear hk
          go_wp2_with fail
          refine (unhide HNA).mono ?_
          rintro e w2 ⟨rfl, hb2⟩
          have HB2 := hide hb2
          clear hb2
          go_wp2_with fail
          go_meet
          case rel => exact ⟨by rw [unhide HT], unhide HB2⟩
        · have q3 : (T.k == 3) = false := bn
          have q4 : (T.k == 4) = false := bn
          have q6 : (T.k == 6) = true := bt hk
          clear hk
          go_wp2_with fail
          refine (unhide HNA).mono ?_
          rintro e w2 ⟨rfl, hb2⟩
          have HB2 := hide hb2
          clear hb2
          go_wp2_with fail
          go_meet
          case rel => exact ⟨by rw [unhide HT], unhide HB2⟩
      · have HT := hide (decide_eq_false (fun h : namedX T.k = true ∧ named T.nm = false => hk (of_decide_eq_true h.1)))
        have q3 : (T.k == 3) = false := bn
        have q4 : (T.k == 4) = false := bn
        have q6 : (T.k == 6) = false := bn
        clear hk
        go_wp2_with fail
        go_meet
        case rel => exact ⟨by rw [unhide HT], Below.refl _ _⟩
    case rest =>
    obtain ⟨rfl, HBC⟩ := hcut
    have HKC := hide (bnext2 (unhide HK0) (unhide HBC))
    have HRC := hide (row_below (unhide HR1) (unhide HBC))
    clear c0 c1 c2 c3 c4
    obtain ⟨c0, c1, c2, c3, c4⟩ := cells5y (unhide HRC)
    by_cases ht : namedX T.k = true ∧ named T.nm = false
    · have HE := hide (unhide HBE 7 ((unhide HEX).trans (if_pos ht)) (by decide))
      rw [decide_eq_true ht]
      clear ht
      go_wp2_with fail
      go_ret
      exact ⟨by rw [unhide HE]; rfl, unhide HKC⟩
    have HEX := hide ((unhide HEX).trans (if_neg ht))
    rw [decide_eq_false ht]
    clear ht
    go_upto_region 9 with fail
    go_cut [72] from 50 (fun s wx => s = .bool (decide ((T.len : Int) < leastX T.k ∨ mostX T.k < (T.len : Int))) ∧ Hid (Below w1.heap.size w1 wx))
    case first =>
      have HQ := hide (refKids_any T.k)
      by_cases hk : T.k = 6
      · have q6 : (T.k == 6) = true := bt hk
        have q6n : (T.k != 6) = false := by rw [bne, q6]; rfl
        by_cases hz : 8 < T.len
        · have HT := hide (decide_eq_true (show (T.len : Int) < leastX T.k ∨ mostX T.k < (T.len : Int) from .inr (by unfold mostX; rw [if_pos hk]; omega)))
          have g : decide ((8 : Int) < (T.len : Int)) = true := decide_eq_true (by omega)
          clear hk hz
          go_quiet (fail)
          go_wp2_with fail
          go_meet
          case rel => exact ⟨by rw [unhide HT], hide (below_drewN (unhide HBC) _)⟩
        · have HT := hide (decide_eq_false (show ¬ ((T.len : Int) < leastX T.k ∨ mostX T.k < (T.len : Int)) from by unfold mostX leastX; rw [if_pos hk, if_neg (by omega), if_neg (by omega)]; omega))
          have g : decide ((8 : Int) < (T.len : Int)) = false := decide_eq_false (by omega)
          clear hk hz
          go_quiet (fail)
          go_wp2_with fail
          go_meet
          case rel => exact ⟨by rw [unhide HT], hide (below_drewN (unhide HBC) _)⟩
      · have q6 : (T.k == 6) = false := bn hk
        have q6n : (T.k != 6) = true := by rw [bne, q6]; rfl
        have hlm : mostX T.k = leastX T.k := by unfold mostX leastX; rw [if_neg hk]
        by_cases hz : (T.len : Int) = leastX T.k
        · have HT := hide (decide_eq_false (show ¬ ((T.len : Int) < leastX T.k ∨ mostX T.k < (T.len : Int)) from by rw [hlm]; omega))
          have g : ((T.len : Int) != leastX T.k) = false := by rw [bne, hz, beq_self_eq_true]; rfl
          clear hk hz hlm
          go_quiet ((go_at_call 32; exact Calls.quiet_of_same (unhide HQ _)))
          go_wp2_with fail
          go_meet
          case rel => exact ⟨by rw [unhide HT], hide (below_drewN (unhide HBC) _)⟩
        · have HT := hide (decide_eq_true (show (T.len : Int) < leastX T.k ∨ mostX T.k < (T.len : Int) from by rw [hlm]; omega))
          have g : ((T.len : Int) != leastX T.k) = true := by rw [bne_iff_ne]; exact hz
          clear hk hz hlm
          go_quiet ((go_at_call 32; exact Calls.quiet_of_same (unhide HQ _)))
          go_wp2_with fail
          go_meet
          case rel => exact ⟨by rw [unhide HT], hide (below_drewN (unhide HBC) _)⟩
    case rest =>
    obtain ⟨rfl, HBD⟩ := hcut
    have HKD := hide (bnext2 (unhide HK0) (unhide HBD))
    have HRD := hide (row_below (unhide HR1) (unhide HBD))
    clear c0 c1 c2 c3 c4
    obtain ⟨c0, c1, c2, c3, c4⟩ := cells5y (unhide HRD)
    by_cases ht : (T.len : Int) < leastX T.k ∨ mostX T.k < (T.len : Int)
    · have HE := hide (unhide HBE 5 ((unhide HEX).trans (if_pos ht)) (by decide))
      rw [decide_eq_true ht]
      clear ht
      go_wp2_with fail
      go_ret
      exact ⟨by rw [unhide HE]; rfl, unhide HKD⟩
    have H0 := hide (badx_kids (T := T) ((unhide HEX).trans (if_neg ht)))
    rw [decide_eq_false ht]
    clear ht
    go_wp2_with fail
    go_loopw [76] (fun i wr => ∃ k : Nat, k ≤ T.len ∧ i = .int .i64 (k : Int) ∧ Below w.heap.size w wr ∧ firstTo (fun i => (T.kid i).badX) k = 0) (fun i _ => T.len - (intOf i).toNat)
    case atStart => exact ⟨0, by omega, rfl, unhide HKD, rfl⟩
    case round =>
      obtain ⟨k, hk, rfl, hbr, hf⟩ := hrel
      have HF := hide hf
      clear hf
      rcases Nat.lt_or_ge k T.len with hkt | hkt
      · obtain ⟨hT, ih⟩ := unhide HD
        obtain ⟨k0, k1, k2, k3, k4⟩ := hT.cells hkt
        have k0 := cell_later hbr k0
        have k1 := cell_later hbr k1
        have k2 := cell_later hbr k2
        have k3 := cell_later hbr k3
        have k4 := cell_later hbr k4
        unfold PT.kv at k4
        have hia := kidx_at hT hkt
        have HX := hide (PT.In.later hbr (hT.kids hkt))
        have HI := hide (ih k hkt)
        have HBR := hide hbr
        clear hT ih hbr
        go_wp2_with fail
        have hn := (Below.refl wr.heap.size wr).alloc (Nat.le_refl _) (.cells #[.int .i64 (T.kid k).k, .string (T.kid k).t, .int .i64 (T.kid k).n, .string (T.kid k).nm, .slice (T.kid k).xa (T.kid k).len (T.kid k).cap] 25)
        refine (unhide HI _ (PT.In.later hn (unhide HX))).mono ?_
        rintro e w2 ⟨rfl, hb2⟩
        have HB2 := hide (bnext (bnext (unhide HBR) hn) hb2)
        clear hn hb2
        by_cases he : (T.kid k).badX = 0
        · have HW := hide (show firstTo (fun i => (T.kid i).badX) (k + 1) = 0 by rw [firstTo, if_pos (unhide HF)]; exact he)
          rw [he]
          clear he
          go_wp2_with fail
          exact ⟨⟨k + 1, by omega, by go_num, unhide HB2, unhide HW⟩, by simp [intOf]; omega⟩
        · have HW := hide (show T.badX = (T.kid k).badX by
            have h1 : firstTo (fun i => (T.kid i).badX) (k + 1) = (T.kid k).badX := by rw [firstTo, if_pos (unhide HF)]
            rw [unhide H0, firstTo_stays _ (show k + 1 ≤ T.len from hkt) (by rw [h1]; exact he), h1])
          have hne : ((T.kid k).badX != 0) = true := by rw [bne_iff_ne]; exact he
          clear he
          go_wp2_with fail
          go_ret
          exact ⟨by rw [unhide HW]; rfl, unhide HB2⟩
      · have hk' : k = T.len := by omega
        have HBR := hide hbr
        clear hbr
        go_wp2_with fail
        go_ret
        exact ⟨by rw [unhide H0, ← hk', unhide HF]; rfl, unhide HBR⟩
theorem rbad_any : ∀ T : PT, RBadSays T := PT.ind rbad_step
end Go.Proofs.YtpphjddljngkmaaGreatDoor
