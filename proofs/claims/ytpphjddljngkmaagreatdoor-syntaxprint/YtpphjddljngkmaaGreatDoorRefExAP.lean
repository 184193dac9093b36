/- What the document's Count of expressions does. -/
import Derived.Test.YtpphjddljngkmaaGreatDoorPatBelowM
namespace Go.Proofs.YtpphjddljngkmaaGreatDoor
open Go.RowKit

/-- What Count says of an expression. -/
def CntPost (T : PT) (d : Nat) (w : World) (e : Ending) (w' : World) : Prop := ∃ n m : Nat, e = .returned (.tuple #[.int .i64 (n : Int), .int .i64 (m : Int)]) ∧ Below w.heap.size w w' ∧ n ≤ 4097 * (202 - d) ∧ m ≤ 201 ∧
    ((n ≤ 4096 ∧ m ≤ 200) → n = T.cnt ∧ m = d + T.dep - 1) ∧ ((4096 < n ∨ 200 < m) → 4096 < T.cnt ∨ 200 < d + T.dep - 1)
def CntSays (T : PT) : Prop := ∀ (w : World) (d : Nat), T.In w → 1 ≤ d → d ≤ 201 → ∀ x : Int, x = (d : Int) →
  Calls Tryz.prog 14 #[.agg #[.int .i64 T.k, .string T.t, .int .i64 T.n, .string T.nm, .slice T.xa T.len T.cap], .int .i64 x] w fun e w' => CntPost T d w e w'
set_option maxRecDepth 100000 in
set_option maxHeartbeats 1000000 in
theorem cnt_step (T : PT) (ih : ∀ i, i < T.len → CntSays (T.kid i)) : CntSays T := by
  intro w d hT hd1 hd x hx
  subst hx
  have hmax := hT.max
  unfold maxLen at hmax
  have HD := hide (And.intro T.cnt_eq (And.intro T.dep_eq (And.intro hT ih)))
  have hpos := T.dep_pos
  clear hT ih
  have hk0 := (Below.refl w.heap.size w).alloc (Nat.le_refl _) (.cells #[.int .i64 T.k, .string T.t, .int .i64 T.n, .string T.nm, .slice T.xa T.len T.cap] 25)
  have HK0 := hide hk0
  clear hk0
  by_cases h2 : 200 < d
  · have h2' : 200 < (d : Int) := by omega
    have HP := hide hpos
    clear hpos
    go_enter Tryz.func14, Tryz.ntmps14
    go_wp2_with fail
    go_ret2
    have := unhide HP
    exact ⟨1, d, rfl, unhide HK0, by omega, hd, by omega, by omega⟩
  · have h2' : ¬ 200 < (d : Int) := by omega
    clear hpos
    go_enter Tryz.func14, Tryz.ntmps14
    go_wp2_with fail
    go_loopw [6, 7, 20] (fun n m i wr => ∃ k N M : Nat, k ≤ T.len ∧ n = .int .i64 (N : Int) ∧ m = .int .i64 (M : Int) ∧ i = .int .i64 (k : Int) ∧ Below w.heap.size w wr ∧ N = 1 + sumTo (fun i => (T.kid i).cnt) k ∧ M = d + maxTo (fun i => (T.kid i).dep) k ∧ N ≤ 4096 ∧ M ≤ 200) (fun _ _ i _ => T.len - (intOf i).toNat)
    case atStart => exact ⟨0, 1, d, by omega, rfl, rfl, rfl, unhide HK0, rfl, rfl, by omega, by omega⟩
    case round =>
      obtain ⟨k, N, M, hk, rfl, rfl, rfl, hbr, hN, hM, hN1, hM1⟩ := hrel
      have HNM := hide (And.intro hN hM)
      clear hN hM
      rcases Nat.lt_or_ge k T.len with hkt | hkt
      · obtain ⟨-, -, hT, ih⟩ := unhide HD
        obtain ⟨k0, k1, k2, k3, k4⟩ := hT.cells hkt
        have k0 := cell_later hbr k0
        have k1 := cell_later hbr k1
        have k2 := cell_later hbr k2
        have k3 := cell_later hbr k3
        have k4 := cell_later hbr k4
        unfold PT.kv at k4
        have hia := kidx_at hT hkt
        have HX := hide (PT.In.later hbr (hT.kids hkt))
        have HI := hide (ih k hkt)
        have HBR := hide hbr
        clear hT ih hbr
        go_wp2_with fail
        have hn := (Below.refl wr.heap.size wr).alloc (Nat.le_refl _) (.cells #[.int .i64 (T.kid k).k, .string (T.kid k).t, .int .i64 (T.kid k).n, .string (T.kid k).nm, .slice (T.kid k).xa (T.kid k).len (T.kid k).cap] 25)
        refine (unhide HI _ (d + 1) (PT.In.later hn (unhide HX)) (by omega) (by omega) _ (by omega)).mono ?_
        rintro e w2 ⟨n', m', rfl, hb2, hn', hm', ht, hf⟩
        have HB2 := hide (bnext (bnext (unhide HBR) hn) hb2)
        have HTF := hide (And.intro ht hf)
        have HS := hide (And.intro (sumTo_le (fun i => (T.kid i).cnt) (show k + 1 ≤ T.len from hkt)) (maxTo_le (fun i => (T.kid i).dep) (show k + 1 ≤ T.len from hkt)))
        have hn'' : n' ≤ 900000 := by omega
        have HN' := hide hn'
        clear hn hb2 ht hf hn' k0 k1 k2 k3 k4 hia
        by_cases hgt : M < m'
        · have hgt' : (M : Int) < (m' : Int) := by omega
          by_cases h1 : 4096 < N + n'
          · have h1' : 4096 < (N : Int) + (n' : Int) := by omega
            go_wp2_with fail
            go_ret2
            refine ⟨N + n', m', by first | rfl | (simp; done), unhide HB2, ?_, hm', ?_, ?_⟩
            all_goals
              obtain ⟨hcn, hdn, -⟩ := unhide HD
              have e1 := (unhide HS).1
              have e2 := (unhide HS).2
              simp only [sumTo, maxTo] at e1 e2
              have := unhide HN'
              have := (unhide HNM).1
              have := (unhide HNM).2
              have := (unhide HTF).1
              have := (unhide HTF).2
              omega
          · have h1' : ¬ 4096 < (N : Int) + (n' : Int) := by omega
            by_cases h3 : 200 < m'
            · have h3' : 200 < (m' : Int) := by omega
              go_wp2_with fail
              go_ret2
              refine ⟨N + n', m', by first | rfl | (simp; done), unhide HB2, ?_, hm', ?_, ?_⟩
              all_goals
                obtain ⟨hcn, hdn, -⟩ := unhide HD
                have e1 := (unhide HS).1
                have e2 := (unhide HS).2
                simp only [sumTo, maxTo] at e1 e2
                have := unhide HN'
                have := (unhide HNM).1
                have := (unhide HNM).2
                have := (unhide HTF).1
                have := (unhide HTF).2
                omega
            · have h3' : ¬ 200 < (m' : Int) := by omega
              go_wp2_with fail
              go_roundw
              case rel =>
                have := (unhide HNM).1
                have := (unhide HNM).2
                have := (unhide HTF).1
                refine ⟨k + 1, N + n', m', by omega, by go_num, by go_num, by go_num, unhide HB2, ?_, ?_, by omega, by omega⟩
                all_goals
                  simp only [sumTo, maxTo]
                  omega
              case measure => simp [intOf]; omega
        · have hgt' : ¬ (M : Int) < (m' : Int) := by omega
          have h3' : ¬ 200 < (M : Int) := by omega
          by_cases h1 : 4096 < N + n'
          · have h1' : 4096 < (N : Int) + (n' : Int) := by omega
            go_wp2_with fail
            go_ret2
            refine ⟨N + n', M, by first | rfl | (simp; done), unhide HB2, ?_, by omega, ?_, ?_⟩
            all_goals
              obtain ⟨hcn, hdn, -⟩ := unhide HD
              have e1 := (unhide HS).1
              have e2 := (unhide HS).2
              simp only [sumTo, maxTo] at e1 e2
              have := unhide HN'
              have := (unhide HNM).1
              have := (unhide HNM).2
              have := (unhide HTF).1
              have := (unhide HTF).2
              omega
          · have h1' : ¬ 4096 < (N : Int) + (n' : Int) := by omega
            go_wp2_with fail
            go_roundw
            case rel =>
              have := (unhide HNM).1
              have := (unhide HNM).2
              have := (unhide HTF).1
              refine ⟨k + 1, N + n', M, by omega, by go_num, by go_num, by go_num, unhide HB2, ?_, ?_, by omega, by omega⟩
              all_goals
                simp only [sumTo, maxTo]
                omega
            case measure => simp [intOf]; omega
      · have hk' : k = T.len := by omega
        have HBR := hide hbr
        clear hbr
        go_wp2_with fail
        go_ret2
        obtain ⟨hcn, hdn, -⟩ := unhide HD
        obtain ⟨hN, hM⟩ := unhide HNM
        rw [hk'] at hN hM
        exact ⟨N, M, rfl, unhide HBR, by omega, by omega, by omega, by omega⟩
theorem cnt_any : ∀ T : PT, CntSays T := PT.ind cnt_step
end Go.Proofs.YtpphjddljngkmaaGreatDoor
