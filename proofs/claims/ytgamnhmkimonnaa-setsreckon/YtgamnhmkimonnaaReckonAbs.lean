/- The law of SetsReckon, over sets that are told by their cells alone. -/
import Derived.Test.YtgamnhmkimonnaaAlive3
import Derived.Test.YtgamnhmkimonnaaBytes3
import Derived.Deep.RegionHeld3
namespace Go.Proofs.Ytgamnhmkimonnaa
open Go.RowKit

theorem run_index_byte {k : Nat} {C : Array Value} {v : Value} (w : World) (hk : k < 256) (hc : C[k]? = some v) :
    (Instr.index 25 (.agg C) (.int .u8 (k : Int))).run Try.prog w = .ok v w := by
  have hp := run_part_plain (P := Try.prog) (w := w) plain_bool hc
  have h0 : (0 : Int) ≤ (k : Int) ∧ (k : Int) < (256 : Int) := by omega
  have hs := size_bool
  cases hq : Try.prog.info? 4 with
  | none => simp [hq] at hs
  | some i =>
    have hz : i.size = 1 := by simpa [hq] using hs
    simp [Instr.index, asIntOf, run_underlying Try.underlying25, h0, sizeOf, typeInfo, hq, hz, hp]
    intro h
    omega
def HeldR (N x0 x1 x2 x3 y0 y1 y2 y3 : Nat) (w' : World) : Prop := w'.cell? ⟨N, 0, none⟩ = some (.int .u64 (x0 : Int)) ∧ w'.cell? ⟨N, 1, none⟩ = some (.int .u64 (x1 : Int)) ∧ w'.cell? ⟨N, 2, none⟩ = some (.int .u64 (x2 : Int)) ∧ w'.cell? ⟨N, 3, none⟩ = some (.int .u64 (x3 : Int)) ∧ w'.cell? ⟨N + 1, 0, none⟩ = some (.int .u64 (y0 : Int)) ∧ w'.cell? ⟨N + 1, 1, none⟩ = some (.int .u64 (y1 : Int)) ∧ w'.cell? ⟨N + 1, 2, none⟩ = some (.int .u64 (y2 : Int)) ∧ w'.cell? ⟨N + 1, 3, none⟩ = some (.int .u64 (y3 : Int))
theorem heldR_below {N x0 x1 x2 x3 y0 y1 y2 y3 B : Nat} {W W' : World} (h : HeldR N x0 x1 x2 x3 y0 y1 y2 y3 W) (h1 : N + 1 < B) (hb : Below B W W') : HeldR N x0 x1 x2 x3 y0 y1 y2 y3 W' := by
  obtain ⟨g0, g1, g2, g3, g4, g5, g6, g7⟩ := h
  exact ⟨(hb.cell (by simp only; omega)).trans g0, (hb.cell (by simp only; omega)).trans g1, (hb.cell (by simp only; omega)).trans g2, (hb.cell (by simp only; omega)).trans g3, (hb.cell (by simp only; omega)).trans g4, (hb.cell (by simp only; omega)).trans g5, (hb.cell (by simp only; omega)).trans g6, (hb.cell (by simp only; omega)).trans g7⟩

set_option maxHeartbeats 8000000 in
set_option maxRecDepth 100000 in
theorem reckon_abs (x0 x1 x2 x3 y0 y1 y2 y3 n c : Nat) (b : Nat → Bool) (T t : ByteArray) (LB U1 U2 U3 U4 U5 : Array Value) (k1 : ∀ W, Calls Try.prog 8 #[.string t] W fun e w' => e = .returned (.agg U1) ∧ Below W.heap.size W w') (k2 : ∀ W, Calls Try.prog 9 #[.string t] W fun e w' => e = .returned (.agg U1) ∧ Below W.heap.size W w') (k3 : ∀ W, Calls Try.prog 10 #[.agg (#[.int .u64 (x0 : Int), .int .u64 (x1 : Int), .int .u64 (x2 : Int), .int .u64 (x3 : Int)])] W fun e w' => e = .returned (.string T) ∧ Below W.heap.size W w') (k4 : ∀ W, Calls Try.prog 11 #[.agg (#[.int .u64 (x0 : Int), .int .u64 (x1 : Int), .int .u64 (x2 : Int), .int .u64 (x3 : Int)])] W fun e w' => e = .returned (.string T) ∧ Below W.heap.size W w') (k5 : ∀ W, Calls Try.prog 12 #[.agg (#[.int .u64 (x0 : Int), .int .u64 (x1 : Int), .int .u64 (x2 : Int), .int .u64 (x3 : Int)])] W fun e w' => e = .returned (.int .i64 (n : Int)) ∧ Below W.heap.size W w') (k6 : ∀ W, Calls Try.prog 13 #[.agg (#[.int .u64 (x0 : Int), .int .u64 (x1 : Int), .int .u64 (x2 : Int), .int .u64 (x3 : Int)]), .int .u8 (c : Int)] W fun e w' => e = .returned (.bool (b c)) ∧ Below W.heap.size W w') (k7 : ∀ W, Calls Try.prog 7 #[.agg (#[.int .u64 (x0 : Int), .int .u64 (x1 : Int), .int .u64 (x2 : Int), .int .u64 (x3 : Int)])] W fun e w' => e = .returned (.agg LB) ∧ Below W.heap.size W w') (k8 : ∀ W, Calls Try.prog 14 #[.agg (#[.int .u64 (x0 : Int), .int .u64 (x1 : Int), .int .u64 (x2 : Int), .int .u64 (x3 : Int)]), .agg (#[.int .u64 (y0 : Int), .int .u64 (y1 : Int), .int .u64 (y2 : Int), .int .u64 (y3 : Int)])] W fun e w' => e = .returned (.agg U2) ∧ Below W.heap.size W w') (k9 : ∀ W, Calls Try.prog 15 #[.agg (#[.int .u64 (x0 : Int), .int .u64 (x1 : Int), .int .u64 (x2 : Int), .int .u64 (x3 : Int)]), .agg (#[.int .u64 (y0 : Int), .int .u64 (y1 : Int), .int .u64 (y2 : Int), .int .u64 (y3 : Int)]), .func (.func 16) #[] #[]] W fun e w' => e = .returned (.agg U2) ∧ Below W.heap.size W w') (k10 : ∀ W, Calls Try.prog 17 #[.agg (#[.int .u64 (x0 : Int), .int .u64 (x1 : Int), .int .u64 (x2 : Int), .int .u64 (x3 : Int)]), .agg (#[.int .u64 (y0 : Int), .int .u64 (y1 : Int), .int .u64 (y2 : Int), .int .u64 (y3 : Int)])] W fun e w' => e = .returned (.agg U3) ∧ Below W.heap.size W w') (k11 : ∀ W, Calls Try.prog 15 #[.agg (#[.int .u64 (x0 : Int), .int .u64 (x1 : Int), .int .u64 (x2 : Int), .int .u64 (x3 : Int)]), .agg (#[.int .u64 (y0 : Int), .int .u64 (y1 : Int), .int .u64 (y2 : Int), .int .u64 (y3 : Int)]), .func (.func 18) #[] #[]] W fun e w' => e = .returned (.agg U3) ∧ Below W.heap.size W w') (k12 : ∀ W, Calls Try.prog 19 #[.agg (#[.int .u64 (x0 : Int), .int .u64 (x1 : Int), .int .u64 (x2 : Int), .int .u64 (x3 : Int)]), .agg (#[.int .u64 (y0 : Int), .int .u64 (y1 : Int), .int .u64 (y2 : Int), .int .u64 (y3 : Int)])] W fun e w' => e = .returned (.agg U4) ∧ Below W.heap.size W w') (k13 : ∀ W, Calls Try.prog 15 #[.agg (#[.int .u64 (x0 : Int), .int .u64 (x1 : Int), .int .u64 (x2 : Int), .int .u64 (x3 : Int)]), .agg (#[.int .u64 (y0 : Int), .int .u64 (y1 : Int), .int .u64 (y2 : Int), .int .u64 (y3 : Int)]), .func (.func 20) #[] #[]] W fun e w' => e = .returned (.agg U4) ∧ Below W.heap.size W w') (k14 : ∀ W, Calls Try.prog 21 #[.agg (#[.int .u64 (x0 : Int), .int .u64 (x1 : Int), .int .u64 (x2 : Int), .int .u64 (x3 : Int)])] W fun e w' => e = .returned (.agg U5) ∧ Below W.heap.size W w') (k15 : ∀ W, Calls Try.prog 15 #[.agg (#[.int .u64 (x0 : Int), .int .u64 (x1 : Int), .int .u64 (x2 : Int), .int .u64 (x3 : Int)]), .agg (#[.int .u64 (x0 : Int), .int .u64 (x1 : Int), .int .u64 (x2 : Int), .int .u64 (x3 : Int)]), .func (.func 22) #[] #[]] W fun e w' => e = .returned (.agg U5) ∧ Below W.heap.size W w') (e1 : ∀ W, (Op.equalIn 10000 24 (.agg U1) (.agg U1)).run Try.prog W = .ok true W) (e2 : ∀ W, (Op.equalIn 10000 24 (.agg U2) (.agg U2)).run Try.prog W = .ok true W) (e3 : ∀ W, (Op.equalIn 10000 24 (.agg U3) (.agg U3)).run Try.prog W = .ok true W) (e4 : ∀ W, (Op.equalIn 10000 24 (.agg U4) (.agg U4)).run Try.prog W = .ok true W) (e5 : ∀ W, (Op.equalIn 10000 24 (.agg U5) (.agg U5)).run Try.prog W = .ok true W) (hc : c < 256) (hn : n = cnt b 256) (hb : ∀ k, k < 256 → LB[k]? = some (.bool (b k))) (w : World) :
    Calls Try.prog 3 #[.agg (#[.int .u64 (x0 : Int), .int .u64 (x1 : Int), .int .u64 (x2 : Int), .int .u64 (x3 : Int)]), .agg (#[.int .u64 (y0 : Int), .int .u64 (y1 : Int), .int .u64 (y2 : Int), .int .u64 (y3 : Int)]), .string t, .int .u8 (c : Int)] w fun e w' => e = .returned (.bool true) ∧ Below w.heap.size w w' := by
  have Hk1 := hide k1
  have Hk2 := hide k2
  have Hk3 := hide k3
  have Hk4 := hide k4
  have Hk5 := hide k5
  have Hk6 := hide k6
  have Hk7 := hide k7
  have Hk8 := hide k8
  have Hk9 := hide k9
  have Hk10 := hide k10
  have Hk11 := hide k11
  have Hk12 := hide k12
  have Hk13 := hide k13
  have Hk14 := hide k14
  have Hk15 := hide k15
  clear k1 k2 k3 k4 k5 k6 k7 k8 k9 k10 k11 k12 k13 k14 k15
  have HI := hide (fun k hk W => run_index_row (k := k) W Try.underlying25 plain_bool size_bool hk (hb k hk))
  have hic := fun W => run_index_byte W hc (hb c hc)
  have HN := hide hn
  clear hb hn
  go_enter Try.func3, Try.ntmps3
  go_wp2_with (first
    | (go_at_call 7; (with_reducible refine (unhide Hk7 _).mono ?_); rintro e W1 ⟨rfl, hb1⟩)
    | fail)
  have hH : HeldR w.heap.size x0 x1 x2 x3 y0 y1 y2 y3 W1 := by
    have g0 := row_below (at_old (o := .cells (#[.int .u64 (y0 : Int), .int .u64 (y1 : Int), .int .u64 (y2 : Int), .int .u64 (y3 : Int)]) 24) (by simp only [World.size_alloc]; omega) (at_new (w := w) (o := .cells (#[.int .u64 (x0 : Int), .int .u64 (x1 : Int), .int .u64 (x2 : Int), .int .u64 (x3 : Int)]) 24) rfl)) hb1
    have g1 := row_below (n := w.heap.size + 1) (at_new (o := .cells (#[.int .u64 (y0 : Int), .int .u64 (y1 : Int), .int .u64 (y2 : Int), .int .u64 (y3 : Int)]) 24) (by simp only [World.size_alloc])) hb1
    exact ⟨(cell_of_row _ _ 0 _ _ _ g0).trans rfl, (cell_of_row _ _ 1 _ _ _ g0).trans rfl, (cell_of_row _ _ 2 _ _ _ g0).trans rfl, (cell_of_row _ _ 3 _ _ _ g0).trans rfl, (cell_of_row _ _ 0 _ _ _ g1).trans rfl, (cell_of_row _ _ 1 _ _ _ g1).trans rfl, (cell_of_row _ _ 2 _ _ _ g1).trans rfl, (cell_of_row _ _ 3 _ _ _ g1).trans rfl⟩
  have hsz : w.heap.size + 2 ≤ W1.heap.size := by have := hb1.size; simp only [World.size_alloc] at this; omega
  have hbW : Below w.heap.size w W1 := bnext (((Below.refl w.heap.size w).alloc (Nat.le_refl _) _).alloc (by simp only [World.size_alloc]; omega) _) hb1
  have HH := hide hH
  clear hb1 hH
  go_loop [9, 14] (fun v i => ∃ k : Nat, k ≤ 256 ∧ i = .int .i64 k ∧ v = .int .i64 (cnt b k : Int)) (fun _ i => 256 - (intOf i).toNat)
  case atStart => exact ⟨0, by omega, rfl, rfl⟩
  case round =>
    obtain ⟨k, hk, rfl, rfl⟩ := hrel
    by_cases hlt : k < 256
    · have h1 : (k : Int) < 256 := by omega
      have hix := unhide HI k hlt
      have hle := cnt_le b k
      have HS := hide (show cnt b (k + 1) = cnt b k + (if b k then 1 else 0) from rfl)
      cases hbk : b k with
      | true =>
        rw [hbk] at hix HS
        generalize cnt b k = m at *
        go_wp2
        go_round
        case rel => exact ⟨k + 1, by omega, by go_num, by rw [unhide HS]; go_num⟩
        case measure => simp [intOf]; omega
      | false =>
        rw [hbk] at hix HS
        generalize cnt b k = m at *
        go_wp2
        go_round
        case rel => exact ⟨k + 1, by omega, by go_num, by rw [unhide HS]; rfl⟩
        case measure => simp [intOf]; omega
    · obtain rfl : k = 256 := by omega
      rw [← unhide HN]
      clear HI
      generalize b c = bc0 at *
      obtain ⟨c0, c1, c2, c3, c4, c5, c6, c7⟩ := unhide HH
      have hA : Below W1.heap.size W1 W1.drew := (Below.refl _ _).drew
      go_wp2
      go_region_held3 (fun w' => w'.cell? ⟨w.heap.size, 0, none⟩ = some (.int .u64 (x0 : Int)) ∧ w'.cell? ⟨w.heap.size, 1, none⟩ = some (.int .u64 (x1 : Int)) ∧ w'.cell? ⟨w.heap.size, 2, none⟩ = some (.int .u64 (x2 : Int)) ∧ w'.cell? ⟨w.heap.size, 3, none⟩ = some (.int .u64 (x3 : Int)) ∧ w'.cell? ⟨w.heap.size + 1, 0, none⟩ = some (.int .u64 (y0 : Int)) ∧ w'.cell? ⟨w.heap.size + 1, 1, none⟩ = some (.int .u64 (y1 : Int)) ∧ w'.cell? ⟨w.heap.size + 1, 2, none⟩ = some (.int .u64 (y2 : Int)) ∧ w'.cell? ⟨w.heap.size + 1, 3, none⟩ = some (.int .u64 (y3 : Int)))
        (first | go_keep | exact heldR_below (unhide HH) (by omega) hA)
        (first
          | (go_at_call 8; (with_reducible refine (unhide Hk1 _).mono ?_); rintro e w2 ⟨rfl, hb2⟩; have hA := bnext hA hb2)
          | (go_at_call 9; (with_reducible refine (unhide Hk2 _).mono ?_); rintro e w2 ⟨rfl, hb2⟩; have hA := bnext hA hb2)
          | (go_at_call 10; (with_reducible refine (unhide Hk3 _).mono ?_); rintro e w2 ⟨rfl, hb2⟩; have hA := bnext hA hb2)
          | (go_at_call 11; (with_reducible refine (unhide Hk4 _).mono ?_); rintro e w2 ⟨rfl, hb2⟩; have hA := bnext hA hb2)
          | (go_at_call 12; (with_reducible refine (unhide Hk5 _).mono ?_); rintro e w2 ⟨rfl, hb2⟩; have hA := bnext hA hb2)
          | (go_at_call 13; (with_reducible refine (unhide Hk6 _).mono ?_); rintro e w2 ⟨rfl, hb2⟩; have hA := bnext hA hb2)
          | (go_at_call 7; (with_reducible refine (unhide Hk7 _).mono ?_); rintro e w2 ⟨rfl, hb2⟩; have hA := bnext hA hb2))
      obtain ⟨c0, c1, c2, c3, c4, c5, c6, c7⟩ := heldR_below (unhide HH) (by omega) hA
      have hA := hA.drew
      go_wp2
      go_region_held3 (fun w' => w'.cell? ⟨w.heap.size, 0, none⟩ = some (.int .u64 (x0 : Int)) ∧ w'.cell? ⟨w.heap.size, 1, none⟩ = some (.int .u64 (x1 : Int)) ∧ w'.cell? ⟨w.heap.size, 2, none⟩ = some (.int .u64 (x2 : Int)) ∧ w'.cell? ⟨w.heap.size, 3, none⟩ = some (.int .u64 (x3 : Int)) ∧ w'.cell? ⟨w.heap.size + 1, 0, none⟩ = some (.int .u64 (y0 : Int)) ∧ w'.cell? ⟨w.heap.size + 1, 1, none⟩ = some (.int .u64 (y1 : Int)) ∧ w'.cell? ⟨w.heap.size + 1, 2, none⟩ = some (.int .u64 (y2 : Int)) ∧ w'.cell? ⟨w.heap.size + 1, 3, none⟩ = some (.int .u64 (y3 : Int)))
        (first | go_keep | exact heldR_below (unhide HH) (by omega) hA)
        (first
          | (go_at_call 14; (with_reducible refine (unhide Hk8 _).mono ?_); rintro e w2 ⟨rfl, hb2⟩; have hA := bnext hA hb2)
          | (go_at_call 15; (with_reducible refine (unhide Hk9 _).mono ?_); rintro e w2 ⟨rfl, hb2⟩; have hA := bnext hA hb2)
          | (go_at_call 17; (with_reducible refine (unhide Hk10 _).mono ?_); rintro e w2 ⟨rfl, hb2⟩; have hA := bnext hA hb2)
          | (go_at_call 15; (with_reducible refine (unhide Hk11 _).mono ?_); rintro e w2 ⟨rfl, hb2⟩; have hA := bnext hA hb2))
      obtain ⟨c0, c1, c2, c3, c4, c5, c6, c7⟩ := heldR_below (unhide HH) (by omega) hA
      have hA := hA.drew
      go_wp2
      go_region_held3 (fun w' => w'.cell? ⟨w.heap.size, 0, none⟩ = some (.int .u64 (x0 : Int)) ∧ w'.cell? ⟨w.heap.size, 1, none⟩ = some (.int .u64 (x1 : Int)) ∧ w'.cell? ⟨w.heap.size, 2, none⟩ = some (.int .u64 (x2 : Int)) ∧ w'.cell? ⟨w.heap.size, 3, none⟩ = some (.int .u64 (x3 : Int)) ∧ w'.cell? ⟨w.heap.size + 1, 0, none⟩ = some (.int .u64 (y0 : Int)) ∧ w'.cell? ⟨w.heap.size + 1, 1, none⟩ = some (.int .u64 (y1 : Int)) ∧ w'.cell? ⟨w.heap.size + 1, 2, none⟩ = some (.int .u64 (y2 : Int)) ∧ w'.cell? ⟨w.heap.size + 1, 3, none⟩ = some (.int .u64 (y3 : Int)))
        (first | go_keep | exact heldR_below (unhide HH) (by omega) hA)
        (first
          | (go_at_call 19; (with_reducible refine (unhide Hk12 _).mono ?_); rintro e w2 ⟨rfl, hb2⟩; have hA := bnext hA hb2)
          | (go_at_call 15; (with_reducible refine (unhide Hk13 _).mono ?_); rintro e w2 ⟨rfl, hb2⟩; have hA := bnext hA hb2)
          | (go_at_call 21; (with_reducible refine (unhide Hk14 _).mono ?_); rintro e w2 ⟨rfl, hb2⟩; have hA := bnext hA hb2)
          | (go_at_call 15; (with_reducible refine (unhide Hk15 _).mono ?_); rintro e w2 ⟨rfl, hb2⟩; have hA := bnext hA hb2))
      go_wp2
      go_ret
      exact ⟨rfl, hbW.trans (hA.mono hbW.size)⟩
end Go.Proofs.Ytgamnhmkimonnaa
