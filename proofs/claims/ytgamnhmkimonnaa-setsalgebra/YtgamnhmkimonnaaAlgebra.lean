/- The law of SetsAlgebra, over sets that are told by their cells alone. -/
import Derived.Test.YtgamnhmkimonnaaAlive3
import Derived.Deep.RegionHeld3
namespace Go.Proofs.Ytgamnhmkimonnaa
open Go.RowKit

def Held3 (N x0 x1 x2 x3 y0 y1 y2 y3 z0 z1 z2 z3 : Nat) (w' : World) : Prop := w'.cell? ⟨N, 0, none⟩ = some (.int .u64 (x0 : Int)) ∧ w'.cell? ⟨N, 1, none⟩ = some (.int .u64 (x1 : Int)) ∧ w'.cell? ⟨N, 2, none⟩ = some (.int .u64 (x2 : Int)) ∧ w'.cell? ⟨N, 3, none⟩ = some (.int .u64 (x3 : Int)) ∧ w'.cell? ⟨N + 1, 0, none⟩ = some (.int .u64 (y0 : Int)) ∧ w'.cell? ⟨N + 1, 1, none⟩ = some (.int .u64 (y1 : Int)) ∧ w'.cell? ⟨N + 1, 2, none⟩ = some (.int .u64 (y2 : Int)) ∧ w'.cell? ⟨N + 1, 3, none⟩ = some (.int .u64 (y3 : Int)) ∧ w'.cell? ⟨N + 1 + 1, 0, none⟩ = some (.int .u64 (z0 : Int)) ∧ w'.cell? ⟨N + 1 + 1, 1, none⟩ = some (.int .u64 (z1 : Int)) ∧ w'.cell? ⟨N + 1 + 1, 2, none⟩ = some (.int .u64 (z2 : Int)) ∧ w'.cell? ⟨N + 1 + 1, 3, none⟩ = some (.int .u64 (z3 : Int))
theorem held3_below {N x0 x1 x2 x3 y0 y1 y2 y3 z0 z1 z2 z3 B : Nat} {W W' : World} (h : Held3 N x0 x1 x2 x3 y0 y1 y2 y3 z0 z1 z2 z3 W) (hB : N + 1 + 1 < B) (hb : Below B W W') : Held3 N x0 x1 x2 x3 y0 y1 y2 y3 z0 z1 z2 z3 W' := by
  obtain ⟨h0, h1, h2, h3, h4, h5, h6, h7, h8, h9, h10, h11⟩ := h
  exact ⟨(hb.cell (by simp only; omega)).trans h0, (hb.cell (by simp only; omega)).trans h1, (hb.cell (by simp only; omega)).trans h2, (hb.cell (by simp only; omega)).trans h3, (hb.cell (by simp only; omega)).trans h4, (hb.cell (by simp only; omega)).trans h5, (hb.cell (by simp only; omega)).trans h6, (hb.cell (by simp only; omega)).trans h7, (hb.cell (by simp only; omega)).trans h8, (hb.cell (by simp only; omega)).trans h9, (hb.cell (by simp only; omega)).trans h10, (hb.cell (by simp only; omega)).trans h11⟩

set_option maxHeartbeats 8000000 in
set_option maxRecDepth 100000 in
theorem algebra_abs (x0 x1 x2 x3 y0 y1 y2 y3 z0 z1 z2 z3 n1 n2 n3 n4 n5 : Nat) (U1 U2 U3 U4 U5 U6 U7 U8 U9 U10 U11 U12 : Array Value) (k1 : ∀ W, Calls Try.prog 14 #[.agg (#[.int .u64 (x0 : Int), .int .u64 (x1 : Int), .int .u64 (x2 : Int), .int .u64 (x3 : Int)]), .agg (#[.int .u64 (y0 : Int), .int .u64 (y1 : Int), .int .u64 (y2 : Int), .int .u64 (y3 : Int)])] W fun e w' => e = .returned (.agg (U1)) ∧ Below W.heap.size W w') (k2 : ∀ W, Calls Try.prog 21 #[.agg (U1)] W fun e w' => e = .returned (.agg (U2)) ∧ Below W.heap.size W w') (k3 : ∀ W, Calls Try.prog 21 #[.agg (#[.int .u64 (x0 : Int), .int .u64 (x1 : Int), .int .u64 (x2 : Int), .int .u64 (x3 : Int)])] W fun e w' => e = .returned (.agg (U3)) ∧ Below W.heap.size W w') (k4 : ∀ W, Calls Try.prog 21 #[.agg (#[.int .u64 (y0 : Int), .int .u64 (y1 : Int), .int .u64 (y2 : Int), .int .u64 (y3 : Int)])] W fun e w' => e = .returned (.agg (U4)) ∧ Below W.heap.size W w') (k5 : ∀ W, Calls Try.prog 17 #[.agg (U3), .agg (U4)] W fun e w' => e = .returned (.agg (U2)) ∧ Below W.heap.size W w') (k6 : ∀ W, Calls Try.prog 21 #[.agg (U3)] W fun e w' => e = .returned (.agg (#[.int .u64 (x0 : Int), .int .u64 (x1 : Int), .int .u64 (x2 : Int), .int .u64 (x3 : Int)])) ∧ Below W.heap.size W w') (k7 : ∀ W, Calls Try.prog 14 #[.agg (#[.int .u64 (y0 : Int), .int .u64 (y1 : Int), .int .u64 (y2 : Int), .int .u64 (y3 : Int)]), .agg (#[.int .u64 (z0 : Int), .int .u64 (z1 : Int), .int .u64 (z2 : Int), .int .u64 (z3 : Int)])] W fun e w' => e = .returned (.agg (U5)) ∧ Below W.heap.size W w') (k8 : ∀ W, Calls Try.prog 17 #[.agg (#[.int .u64 (x0 : Int), .int .u64 (x1 : Int), .int .u64 (x2 : Int), .int .u64 (x3 : Int)]), .agg (U5)] W fun e w' => e = .returned (.agg (U6)) ∧ Below W.heap.size W w') (k9 : ∀ W, Calls Try.prog 17 #[.agg (#[.int .u64 (x0 : Int), .int .u64 (x1 : Int), .int .u64 (x2 : Int), .int .u64 (x3 : Int)]), .agg (#[.int .u64 (y0 : Int), .int .u64 (y1 : Int), .int .u64 (y2 : Int), .int .u64 (y3 : Int)])] W fun e w' => e = .returned (.agg (U7)) ∧ Below W.heap.size W w') (k10 : ∀ W, Calls Try.prog 17 #[.agg (#[.int .u64 (x0 : Int), .int .u64 (x1 : Int), .int .u64 (x2 : Int), .int .u64 (x3 : Int)]), .agg (#[.int .u64 (z0 : Int), .int .u64 (z1 : Int), .int .u64 (z2 : Int), .int .u64 (z3 : Int)])] W fun e w' => e = .returned (.agg (U8)) ∧ Below W.heap.size W w') (k11 : ∀ W, Calls Try.prog 14 #[.agg (U7), .agg (U8)] W fun e w' => e = .returned (.agg (U6)) ∧ Below W.heap.size W w') (k12 : ∀ W, Calls Try.prog 17 #[.agg (#[.int .u64 (y0 : Int), .int .u64 (y1 : Int), .int .u64 (y2 : Int), .int .u64 (y3 : Int)]), .agg (#[.int .u64 (z0 : Int), .int .u64 (z1 : Int), .int .u64 (z2 : Int), .int .u64 (z3 : Int)])] W fun e w' => e = .returned (.agg (U9)) ∧ Below W.heap.size W w') (k13 : ∀ W, Calls Try.prog 14 #[.agg (#[.int .u64 (x0 : Int), .int .u64 (x1 : Int), .int .u64 (x2 : Int), .int .u64 (x3 : Int)]), .agg (U9)] W fun e w' => e = .returned (.agg (U10)) ∧ Below W.heap.size W w') (k14 : ∀ W, Calls Try.prog 14 #[.agg (#[.int .u64 (x0 : Int), .int .u64 (x1 : Int), .int .u64 (x2 : Int), .int .u64 (x3 : Int)]), .agg (#[.int .u64 (z0 : Int), .int .u64 (z1 : Int), .int .u64 (z2 : Int), .int .u64 (z3 : Int)])] W fun e w' => e = .returned (.agg (U11)) ∧ Below W.heap.size W w') (k15 : ∀ W, Calls Try.prog 17 #[.agg (U1), .agg (U11)] W fun e w' => e = .returned (.agg (U10)) ∧ Below W.heap.size W w') (k16 : ∀ W, Calls Try.prog 19 #[.agg (#[.int .u64 (x0 : Int), .int .u64 (x1 : Int), .int .u64 (x2 : Int), .int .u64 (x3 : Int)]), .agg (#[.int .u64 (y0 : Int), .int .u64 (y1 : Int), .int .u64 (y2 : Int), .int .u64 (y3 : Int)])] W fun e w' => e = .returned (.agg (U12)) ∧ Below W.heap.size W w') (k17 : ∀ W, Calls Try.prog 14 #[.agg (U12), .agg (U7)] W fun e w' => e = .returned (.agg (#[.int .u64 (x0 : Int), .int .u64 (x1 : Int), .int .u64 (x2 : Int), .int .u64 (x3 : Int)])) ∧ Below W.heap.size W w') (k18 : ∀ W, Calls Try.prog 17 #[.agg (#[.int .u64 (x0 : Int), .int .u64 (x1 : Int), .int .u64 (x2 : Int), .int .u64 (x3 : Int)]), .agg (U4)] W fun e w' => e = .returned (.agg (U12)) ∧ Below W.heap.size W w') (s1 : ∀ W, Calls Try.prog 12 #[.agg (#[.int .u64 (x0 : Int), .int .u64 (x1 : Int), .int .u64 (x2 : Int), .int .u64 (x3 : Int)])] W fun e w' => e = .returned (.int .i64 (n1 : Int)) ∧ Below W.heap.size W w') (s2 : ∀ W, Calls Try.prog 12 #[.agg (#[.int .u64 (y0 : Int), .int .u64 (y1 : Int), .int .u64 (y2 : Int), .int .u64 (y3 : Int)])] W fun e w' => e = .returned (.int .i64 (n2 : Int)) ∧ Below W.heap.size W w') (s3 : ∀ W, Calls Try.prog 12 #[.agg (U1)] W fun e w' => e = .returned (.int .i64 (n3 : Int)) ∧ Below W.heap.size W w') (s4 : ∀ W, Calls Try.prog 12 #[.agg (U7)] W fun e w' => e = .returned (.int .i64 (n4 : Int)) ∧ Below W.heap.size W w') (s5 : ∀ W, Calls Try.prog 12 #[.agg (U3)] W fun e w' => e = .returned (.int .i64 (n5 : Int)) ∧ Below W.heap.size W w') (e2 : ∀ W, (Op.equalIn 10000 24 (.agg (U2)) (.agg (U2))).run Try.prog W = .ok true W) (e6 : ∀ W, (Op.equalIn 10000 24 (.agg (U6)) (.agg (U6))).run Try.prog W = .ok true W) (e10 : ∀ W, (Op.equalIn 10000 24 (.agg (U10)) (.agg (U10))).run Try.prog W = .ok true W) (e12 : ∀ W, (Op.equalIn 10000 24 (.agg (U12)) (.agg (U12))).run Try.prog W = .ok true W) (ep : ∀ W, (Op.equalIn 10000 24 (.agg (#[.int .u64 (x0 : Int), .int .u64 (x1 : Int), .int .u64 (x2 : Int), .int .u64 (x3 : Int)])) (.agg (#[.int .u64 (x0 : Int), .int .u64 (x1 : Int), .int .u64 (x2 : Int), .int .u64 (x3 : Int)]))).run Try.prog W = .ok true W) (m : Nat) (hn : (n1 : Int) + (n2 : Int) = (m : Int)) (hn' : (n3 : Int) + (n4 : Int) = (m : Int)) (hn5 : 256 - (n1 : Int) = (n5 : Int)) (_hn1 : n1 ≤ 256) (_hn2 : n2 ≤ 256) (_hn3 : n3 ≤ 256) (_hn4 : n4 ≤ 256) (w : World) :
    Calls Try.prog 5 #[.agg (#[.int .u64 (x0 : Int), .int .u64 (x1 : Int), .int .u64 (x2 : Int), .int .u64 (x3 : Int)]), .agg (#[.int .u64 (y0 : Int), .int .u64 (y1 : Int), .int .u64 (y2 : Int), .int .u64 (y3 : Int)]), .agg (#[.int .u64 (z0 : Int), .int .u64 (z1 : Int), .int .u64 (z2 : Int), .int .u64 (z3 : Int)])] w fun e w' => e = .returned (.bool true) ∧ Below w.heap.size w w' := by
  have Hk1 := hide k1
  have Hk2 := hide k2
  have Hk3 := hide k3
  have Hk4 := hide k4
  have Hk5 := hide k5
  have Hk6 := hide k6
  have Hk7 := hide k7
  have Hk8 := hide k8
  have Hk9 := hide k9
  have Hk10 := hide k10
  have Hk11 := hide k11
  have Hk12 := hide k12
  have Hk13 := hide k13
  have Hk14 := hide k14
  have Hk15 := hide k15
  have Hk16 := hide k16
  have Hk17 := hide k17
  have Hk18 := hide k18
  have Hs1 := hide s1
  have Hs2 := hide s2
  have Hs3 := hide s3
  have Hs4 := hide s4
  have Hs5 := hide s5
  clear k1 k2 k3 k4 k5 k6 k7 k8 k9 k10 k11 k12 k13 k14 k15 k16 k17 k18 s1 s2 s3 s4 s5
  go_enter Try.func5, Try.ntmps5
  go_wp2_with fail
  refine (alive_any _).mono ?_
  rintro e W1 ⟨rfl, hb1⟩
  have hH : Held3 w.heap.size x0 x1 x2 x3 y0 y1 y2 y3 z0 z1 z2 z3 W1 := by
    have g0 := row_below (at_old (o := .cells (#[.int .u64 (z0 : Int), .int .u64 (z1 : Int), .int .u64 (z2 : Int), .int .u64 (z3 : Int)]) 24) (by simp only [World.size_alloc]; omega) (at_old (o := .cells (#[.int .u64 (y0 : Int), .int .u64 (y1 : Int), .int .u64 (y2 : Int), .int .u64 (y3 : Int)]) 24) (by simp only [World.size_alloc]; omega) (at_new (w := w) (o := .cells (#[.int .u64 (x0 : Int), .int .u64 (x1 : Int), .int .u64 (x2 : Int), .int .u64 (x3 : Int)]) 24) rfl))) hb1
    have g1 := row_below (n := w.heap.size + 1) (at_old (o := .cells (#[.int .u64 (z0 : Int), .int .u64 (z1 : Int), .int .u64 (z2 : Int), .int .u64 (z3 : Int)]) 24) (by simp only [World.size_alloc]; omega) (at_new (o := .cells (#[.int .u64 (y0 : Int), .int .u64 (y1 : Int), .int .u64 (y2 : Int), .int .u64 (y3 : Int)]) 24) (by simp only [World.size_alloc]))) hb1
    have g2 := row_below (n := w.heap.size + 1 + 1) (at_new (o := .cells (#[.int .u64 (z0 : Int), .int .u64 (z1 : Int), .int .u64 (z2 : Int), .int .u64 (z3 : Int)]) 24) (by simp only [World.size_alloc])) hb1
    exact ⟨(cell_of_row _ _ 0 _ _ _ g0).trans rfl, (cell_of_row _ _ 1 _ _ _ g0).trans rfl, (cell_of_row _ _ 2 _ _ _ g0).trans rfl, (cell_of_row _ _ 3 _ _ _ g0).trans rfl, (cell_of_row _ _ 0 _ _ _ g1).trans rfl, (cell_of_row _ _ 1 _ _ _ g1).trans rfl, (cell_of_row _ _ 2 _ _ _ g1).trans rfl, (cell_of_row _ _ 3 _ _ _ g1).trans rfl, (cell_of_row _ _ 0 _ _ _ g2).trans rfl, (cell_of_row _ _ 1 _ _ _ g2).trans rfl, (cell_of_row _ _ 2 _ _ _ g2).trans rfl, (cell_of_row _ _ 3 _ _ _ g2).trans rfl⟩
  have hsz : w.heap.size + 3 ≤ W1.heap.size := by have := hb1.size; simp only [World.size_alloc] at this; omega
  have hbW : Below w.heap.size w W1 := bnext ((((Below.refl w.heap.size w).alloc (Nat.le_refl _) _).alloc (by simp only [World.size_alloc]; omega) _).alloc (by simp only [World.size_alloc]; omega) _) hb1
  have HH := hide hH
  obtain ⟨c0, c1, c2, c3, c4, c5, c6, c7, c8, c9, c10, c11⟩ := hH
  have hA : Below W1.heap.size W1 W1.drew := (Below.refl _ _).drew
  clear hb1
  go_wp2
  go_region_held3 (fun w' => w'.cell? ⟨w.heap.size, 0, none⟩ = some (.int .u64 (x0 : Int)) ∧ w'.cell? ⟨w.heap.size, 1, none⟩ = some (.int .u64 (x1 : Int)) ∧ w'.cell? ⟨w.heap.size, 2, none⟩ = some (.int .u64 (x2 : Int)) ∧ w'.cell? ⟨w.heap.size, 3, none⟩ = some (.int .u64 (x3 : Int)) ∧ w'.cell? ⟨w.heap.size + 1, 0, none⟩ = some (.int .u64 (y0 : Int)) ∧ w'.cell? ⟨w.heap.size + 1, 1, none⟩ = some (.int .u64 (y1 : Int)) ∧ w'.cell? ⟨w.heap.size + 1, 2, none⟩ = some (.int .u64 (y2 : Int)) ∧ w'.cell? ⟨w.heap.size + 1, 3, none⟩ = some (.int .u64 (y3 : Int)) ∧ w'.cell? ⟨w.heap.size + 1 + 1, 0, none⟩ = some (.int .u64 (z0 : Int)) ∧ w'.cell? ⟨w.heap.size + 1 + 1, 1, none⟩ = some (.int .u64 (z1 : Int)) ∧ w'.cell? ⟨w.heap.size + 1 + 1, 2, none⟩ = some (.int .u64 (z2 : Int)) ∧ w'.cell? ⟨w.heap.size + 1 + 1, 3, none⟩ = some (.int .u64 (z3 : Int)))
    (first | go_keep | exact held3_below (unhide HH) (by omega) hA)
    (first
      | (go_at_call 14; with_reducible refine (unhide Hk1 _).mono ?_; rintro e w2 ⟨rfl, hb2⟩; have hA := bnext hA hb2)
      | (go_at_call 21; with_reducible refine (unhide Hk2 _).mono ?_; rintro e w2 ⟨rfl, hb2⟩; have hA := bnext hA hb2)
      | (go_at_call 21; with_reducible refine (unhide Hk3 _).mono ?_; rintro e w2 ⟨rfl, hb2⟩; have hA := bnext hA hb2)
      | (go_at_call 21; with_reducible refine (unhide Hk4 _).mono ?_; rintro e w2 ⟨rfl, hb2⟩; have hA := bnext hA hb2)
      | (go_at_call 17; with_reducible refine (unhide Hk5 _).mono ?_; rintro e w2 ⟨rfl, hb2⟩; have hA := bnext hA hb2)
      | (go_at_call 21; with_reducible refine (unhide Hk6 _).mono ?_; rintro e w2 ⟨rfl, hb2⟩; have hA := bnext hA hb2))
  obtain ⟨c0, c1, c2, c3, c4, c5, c6, c7, c8, c9, c10, c11⟩ := held3_below (unhide HH) (by omega) hA
  have hA := hA.drew
  go_wp2
  go_region_held3 (fun w' => w'.cell? ⟨w.heap.size, 0, none⟩ = some (.int .u64 (x0 : Int)) ∧ w'.cell? ⟨w.heap.size, 1, none⟩ = some (.int .u64 (x1 : Int)) ∧ w'.cell? ⟨w.heap.size, 2, none⟩ = some (.int .u64 (x2 : Int)) ∧ w'.cell? ⟨w.heap.size, 3, none⟩ = some (.int .u64 (x3 : Int)) ∧ w'.cell? ⟨w.heap.size + 1, 0, none⟩ = some (.int .u64 (y0 : Int)) ∧ w'.cell? ⟨w.heap.size + 1, 1, none⟩ = some (.int .u64 (y1 : Int)) ∧ w'.cell? ⟨w.heap.size + 1, 2, none⟩ = some (.int .u64 (y2 : Int)) ∧ w'.cell? ⟨w.heap.size + 1, 3, none⟩ = some (.int .u64 (y3 : Int)) ∧ w'.cell? ⟨w.heap.size + 1 + 1, 0, none⟩ = some (.int .u64 (z0 : Int)) ∧ w'.cell? ⟨w.heap.size + 1 + 1, 1, none⟩ = some (.int .u64 (z1 : Int)) ∧ w'.cell? ⟨w.heap.size + 1 + 1, 2, none⟩ = some (.int .u64 (z2 : Int)) ∧ w'.cell? ⟨w.heap.size + 1 + 1, 3, none⟩ = some (.int .u64 (z3 : Int)))
    (first | go_keep | exact held3_below (unhide HH) (by omega) hA)
    (first
      | (go_at_call 14; with_reducible refine (unhide Hk1 _).mono ?_; rintro e w2 ⟨rfl, hb2⟩; have hA := bnext hA hb2)
      | (go_at_call 14; with_reducible refine (unhide Hk7 _).mono ?_; rintro e w2 ⟨rfl, hb2⟩; have hA := bnext hA hb2)
      | (go_at_call 17; with_reducible refine (unhide Hk8 _).mono ?_; rintro e w2 ⟨rfl, hb2⟩; have hA := bnext hA hb2)
      | (go_at_call 17; with_reducible refine (unhide Hk9 _).mono ?_; rintro e w2 ⟨rfl, hb2⟩; have hA := bnext hA hb2)
      | (go_at_call 17; with_reducible refine (unhide Hk10 _).mono ?_; rintro e w2 ⟨rfl, hb2⟩; have hA := bnext hA hb2)
      | (go_at_call 14; with_reducible refine (unhide Hk11 _).mono ?_; rintro e w2 ⟨rfl, hb2⟩; have hA := bnext hA hb2)
      | (go_at_call 17; with_reducible refine (unhide Hk12 _).mono ?_; rintro e w2 ⟨rfl, hb2⟩; have hA := bnext hA hb2)
      | (go_at_call 14; with_reducible refine (unhide Hk13 _).mono ?_; rintro e w2 ⟨rfl, hb2⟩; have hA := bnext hA hb2)
      | (go_at_call 14; with_reducible refine (unhide Hk14 _).mono ?_; rintro e w2 ⟨rfl, hb2⟩; have hA := bnext hA hb2)
      | (go_at_call 17; with_reducible refine (unhide Hk15 _).mono ?_; rintro e w2 ⟨rfl, hb2⟩; have hA := bnext hA hb2))
  obtain ⟨c0, c1, c2, c3, c4, c5, c6, c7, c8, c9, c10, c11⟩ := held3_below (unhide HH) (by omega) hA
  have hA := hA.drew
  go_wp2
  go_region_held3 (fun w' => w'.cell? ⟨w.heap.size, 0, none⟩ = some (.int .u64 (x0 : Int)) ∧ w'.cell? ⟨w.heap.size, 1, none⟩ = some (.int .u64 (x1 : Int)) ∧ w'.cell? ⟨w.heap.size, 2, none⟩ = some (.int .u64 (x2 : Int)) ∧ w'.cell? ⟨w.heap.size, 3, none⟩ = some (.int .u64 (x3 : Int)) ∧ w'.cell? ⟨w.heap.size + 1, 0, none⟩ = some (.int .u64 (y0 : Int)) ∧ w'.cell? ⟨w.heap.size + 1, 1, none⟩ = some (.int .u64 (y1 : Int)) ∧ w'.cell? ⟨w.heap.size + 1, 2, none⟩ = some (.int .u64 (y2 : Int)) ∧ w'.cell? ⟨w.heap.size + 1, 3, none⟩ = some (.int .u64 (y3 : Int)) ∧ w'.cell? ⟨w.heap.size + 1 + 1, 0, none⟩ = some (.int .u64 (z0 : Int)) ∧ w'.cell? ⟨w.heap.size + 1 + 1, 1, none⟩ = some (.int .u64 (z1 : Int)) ∧ w'.cell? ⟨w.heap.size + 1 + 1, 2, none⟩ = some (.int .u64 (z2 : Int)) ∧ w'.cell? ⟨w.heap.size + 1 + 1, 3, none⟩ = some (.int .u64 (z3 : Int)))
    (first | go_keep | exact held3_below (unhide HH) (by omega) hA)
    (first
      | (go_at_call 21; with_reducible refine (unhide Hk4 _).mono ?_; rintro e w2 ⟨rfl, hb2⟩; have hA := bnext hA hb2)
      | (go_at_call 17; with_reducible refine (unhide Hk9 _).mono ?_; rintro e w2 ⟨rfl, hb2⟩; have hA := bnext hA hb2)
      | (go_at_call 19; with_reducible refine (unhide Hk16 _).mono ?_; rintro e w2 ⟨rfl, hb2⟩; have hA := bnext hA hb2)
      | (go_at_call 14; with_reducible refine (unhide Hk17 _).mono ?_; rintro e w2 ⟨rfl, hb2⟩; have hA := bnext hA hb2)
      | (go_at_call 17; with_reducible refine (unhide Hk18 _).mono ?_; rintro e w2 ⟨rfl, hb2⟩; have hA := bnext hA hb2))
  obtain ⟨c0, c1, c2, c3, c4, c5, c6, c7, c8, c9, c10, c11⟩ := held3_below (unhide HH) (by omega) hA
  have hA := hA.drew
  go_wp2
  go_region_held3 (fun w' => w'.cell? ⟨w.heap.size, 0, none⟩ = some (.int .u64 (x0 : Int)) ∧ w'.cell? ⟨w.heap.size, 1, none⟩ = some (.int .u64 (x1 : Int)) ∧ w'.cell? ⟨w.heap.size, 2, none⟩ = some (.int .u64 (x2 : Int)) ∧ w'.cell? ⟨w.heap.size, 3, none⟩ = some (.int .u64 (x3 : Int)) ∧ w'.cell? ⟨w.heap.size + 1, 0, none⟩ = some (.int .u64 (y0 : Int)) ∧ w'.cell? ⟨w.heap.size + 1, 1, none⟩ = some (.int .u64 (y1 : Int)) ∧ w'.cell? ⟨w.heap.size + 1, 2, none⟩ = some (.int .u64 (y2 : Int)) ∧ w'.cell? ⟨w.heap.size + 1, 3, none⟩ = some (.int .u64 (y3 : Int)) ∧ w'.cell? ⟨w.heap.size + 1 + 1, 0, none⟩ = some (.int .u64 (z0 : Int)) ∧ w'.cell? ⟨w.heap.size + 1 + 1, 1, none⟩ = some (.int .u64 (z1 : Int)) ∧ w'.cell? ⟨w.heap.size + 1 + 1, 2, none⟩ = some (.int .u64 (z2 : Int)) ∧ w'.cell? ⟨w.heap.size + 1 + 1, 3, none⟩ = some (.int .u64 (z3 : Int)))
    (first | go_keep | exact held3_below (unhide HH) (by omega) hA)
    (first
      | (go_at_call 14; with_reducible refine (unhide Hk1 _).mono ?_; rintro e w2 ⟨rfl, hb2⟩; have hA := bnext hA hb2)
      | (go_at_call 21; with_reducible refine (unhide Hk3 _).mono ?_; rintro e w2 ⟨rfl, hb2⟩; have hA := bnext hA hb2)
      | (go_at_call 17; with_reducible refine (unhide Hk9 _).mono ?_; rintro e w2 ⟨rfl, hb2⟩; have hA := bnext hA hb2)
      | (go_at_call 12; with_reducible refine (unhide Hs1 _).mono ?_; rintro e w2 ⟨rfl, hb2⟩; have hA := bnext hA hb2)
      | (go_at_call 12; with_reducible refine (unhide Hs2 _).mono ?_; rintro e w2 ⟨rfl, hb2⟩; have hA := bnext hA hb2)
      | (go_at_call 12; with_reducible refine (unhide Hs3 _).mono ?_; rintro e w2 ⟨rfl, hb2⟩; have hA := bnext hA hb2)
      | (go_at_call 12; with_reducible refine (unhide Hs4 _).mono ?_; rintro e w2 ⟨rfl, hb2⟩; have hA := bnext hA hb2)
      | (go_at_call 12; with_reducible refine (unhide Hs5 _).mono ?_; rintro e w2 ⟨rfl, hb2⟩; have hA := bnext hA hb2))
  go_wp2
  go_ret
  exact ⟨ret_bool (by rw [IntWalk.i64_in _ (by omega)]; exact beq_self_eq_true _), hbW.trans (hA.mono hbW.size)⟩
end Go.Proofs.Ytgamnhmkimonnaa
