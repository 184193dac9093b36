/- The law of SetsTurn, over sets that are told by their cells alone. -/
import Derived.Test.YtgamnhmkimonnaaAlive3
import Derived.Laws.Concat
import Derived.Deep.RegionHeld3
namespace Go.Proofs.Ytgamnhmkimonnaa
open Go.RowKit

def HeldT (N B1 B2 x0 x1 x2 x3 y0 y1 y2 y3 : Nat) (w' : World) : Prop := w'.cell? ⟨N, 0, none⟩ = some (.int .u64 (x0 : Int)) ∧ w'.cell? ⟨N, 1, none⟩ = some (.int .u64 (x1 : Int)) ∧ w'.cell? ⟨N, 2, none⟩ = some (.int .u64 (x2 : Int)) ∧ w'.cell? ⟨N, 3, none⟩ = some (.int .u64 (x3 : Int)) ∧ w'.cell? ⟨B1, 0, none⟩ = some (.int .u64 (x0 : Int)) ∧ w'.cell? ⟨B1, 1, none⟩ = some (.int .u64 (x1 : Int)) ∧ w'.cell? ⟨B1, 2, none⟩ = some (.int .u64 (x2 : Int)) ∧ w'.cell? ⟨B1, 3, none⟩ = some (.int .u64 (x3 : Int)) ∧ w'.cell? ⟨B2, 0, none⟩ = some (.int .u64 (y0 : Int)) ∧ w'.cell? ⟨B2, 1, none⟩ = some (.int .u64 (y1 : Int)) ∧ w'.cell? ⟨B2, 2, none⟩ = some (.int .u64 (y2 : Int)) ∧ w'.cell? ⟨B2, 3, none⟩ = some (.int .u64 (y3 : Int)) ∧ w'.cell? ⟨B1 + 1, 0, none⟩ = some (.int .i64 0) ∧ w'.cell? ⟨B2 + 1, 0, none⟩ = some (.int .i64 0)
theorem heldT_below {N B1 B2 x0 x1 x2 x3 y0 y1 y2 y3 B : Nat} {W W' : World} (h : HeldT N B1 B2 x0 x1 x2 x3 y0 y1 y2 y3 W) (h1 : N < B) (h2 : B1 + 1 < B) (h3 : B2 + 1 < B) (hb : Below B W W') : HeldT N B1 B2 x0 x1 x2 x3 y0 y1 y2 y3 W' := by
  obtain ⟨g0, g1, g2, g3, g4, g5, g6, g7, g8, g9, g10, g11, g12, g13⟩ := h
  exact ⟨(hb.cell (by simp only; omega)).trans g0, (hb.cell (by simp only; omega)).trans g1, (hb.cell (by simp only; omega)).trans g2, (hb.cell (by simp only; omega)).trans g3, (hb.cell (by simp only; omega)).trans g4, (hb.cell (by simp only; omega)).trans g5, (hb.cell (by simp only; omega)).trans g6, (hb.cell (by simp only; omega)).trans g7, (hb.cell (by simp only; omega)).trans g8, (hb.cell (by simp only; omega)).trans g9, (hb.cell (by simp only; omega)).trans g10, (hb.cell (by simp only; omega)).trans g11, (hb.cell (by simp only; omega)).trans g12, (hb.cell (by simp only; omega)).trans g13⟩
theorem info_two (a b : Value) : (Try.prog.info? 38).map (·.size) = some (#[a, b] : Array Value).size := info_fault
theorem two_one (a b : Int) : (#[.int .i64 a, .int .i64 b] : Array Value).all (·.oneCell') = true := by simp [Value.oneCell']
theorem two_at0 (a b : Value) : (#[a, b] : Array Value)[0]? = some a := rfl
theorem four_at0 (a0 a1 a2 a3 : Value) : (#[a0, a1, a2, a3] : Array Value)[0]? = some a0 := rfl
theorem four_at1 (a0 a1 a2 a3 : Value) : (#[a0, a1, a2, a3] : Array Value)[1]? = some a1 := rfl
theorem four_at2 (a0 a1 a2 a3 : Value) : (#[a0, a1, a2, a3] : Array Value)[2]? = some a2 := rfl
theorem four_at3 (a0 a1 a2 a3 : Value) : (#[a0, a1, a2, a3] : Array Value)[3]? = some a3 := rfl

set_option maxHeartbeats 8000000 in
set_option maxRecDepth 100000 in
theorem turn_ok (x0 x1 x2 x3 y0 y1 y2 y3 z0 z1 z2 z3 : Nat) (T Tn tb t Tz : ByteArray) (hT : (⟨#[94]⟩ : ByteArray) ++ T = Tn) (hTs : T.size ≤ 65535) (kp : ∀ W, Calls Try.prog 23 #[.agg (#[.int .u64 (x0 : Int), .int .u64 (x1 : Int), .int .u64 (x2 : Int), .int .u64 (x3 : Int)])] W fun e w' => e = .returned (.string T) ∧ Below W.heap.size W w') (kr : ∀ W, Calls Try.prog 25 #[.string T] W fun e w' => e = .returned (.tuple #[.agg (#[.int .u64 (x0 : Int), .int .u64 (x1 : Int), .int .u64 (x2 : Int), .int .u64 (x3 : Int)]), .agg #[.int .i64 0, .int .i64 0]]) ∧ Below W.heap.size W w') (kn : ∀ W, Calls Try.prog 25 #[.string Tn] W fun e w' => e = .returned (.tuple #[.agg (#[.int .u64 (y0 : Int), .int .u64 (y1 : Int), .int .u64 (y2 : Int), .int .u64 (y3 : Int)]), .agg #[.int .i64 0, .int .i64 0]]) ∧ Below W.heap.size W w') (ko : ∀ W, Calls Try.prog 21 #[.agg (#[.int .u64 (x0 : Int), .int .u64 (x1 : Int), .int .u64 (x2 : Int), .int .u64 (x3 : Int)])] W fun e w' => e = .returned (.agg (#[.int .u64 (y0 : Int), .int .u64 (y1 : Int), .int .u64 (y2 : Int), .int .u64 (y3 : Int)])) ∧ Below W.heap.size W w') (kt : ∀ W, Calls Try.prog 10 #[.agg (#[.int .u64 (x0 : Int), .int .u64 (x1 : Int), .int .u64 (x2 : Int), .int .u64 (x3 : Int)])] W fun e w' => e = .returned (.string tb) ∧ Below W.heap.size W w') (kf : ∀ W, Calls Try.prog 8 #[.string tb] W fun e w' => e = .returned (.agg (#[.int .u64 (x0 : Int), .int .u64 (x1 : Int), .int .u64 (x2 : Int), .int .u64 (x3 : Int)])) ∧ Below W.heap.size W w') (rt : ∀ W, Calls Try.prog 25 #[.string t] W fun e w' => e = .returned (.tuple #[.agg (#[.int .u64 (z0 : Int), .int .u64 (z1 : Int), .int .u64 (z2 : Int), .int .u64 (z3 : Int)]), .agg #[.int .i64 0, .int .i64 0]]) ∧ Below W.heap.size W w') (ex : ∀ W, (Op.equalIn 10000 24 (.agg (#[.int .u64 (x0 : Int), .int .u64 (x1 : Int), .int .u64 (x2 : Int), .int .u64 (x3 : Int)])) (.agg (#[.int .u64 (x0 : Int), .int .u64 (x1 : Int), .int .u64 (x2 : Int), .int .u64 (x3 : Int)]))).run Try.prog W = .ok true W) (ey : ∀ W, (Op.equalIn 10000 24 (.agg (#[.int .u64 (y0 : Int), .int .u64 (y1 : Int), .int .u64 (y2 : Int), .int .u64 (y3 : Int)])) (.agg (#[.int .u64 (y0 : Int), .int .u64 (y1 : Int), .int .u64 (y2 : Int), .int .u64 (y3 : Int)]))).run Try.prog W = .ok true W) (ez : ∀ W, (Op.equalIn 10000 24 (.agg (#[.int .u64 (z0 : Int), .int .u64 (z1 : Int), .int .u64 (z2 : Int), .int .u64 (z3 : Int)])) (.agg (#[.int .u64 (z0 : Int), .int .u64 (z1 : Int), .int .u64 (z2 : Int), .int .u64 (z3 : Int)]))).run Try.prog W = .ok true W)
    (kz : ∀ W, Calls Try.prog 23 #[.agg (#[.int .u64 (z0 : Int), .int .u64 (z1 : Int), .int .u64 (z2 : Int), .int .u64 (z3 : Int)])] W fun e w' => e = .returned (.string Tz) ∧ Below W.heap.size W w') (rz : ∀ W, Calls Try.prog 25 #[.string Tz] W fun e w' => e = .returned (.tuple #[.agg (#[.int .u64 (z0 : Int), .int .u64 (z1 : Int), .int .u64 (z2 : Int), .int .u64 (z3 : Int)]), .agg #[.int .i64 0, .int .i64 0]]) ∧ Below W.heap.size W w') (w : World) :
    Calls Try.prog 6 #[.agg (#[.int .u64 (x0 : Int), .int .u64 (x1 : Int), .int .u64 (x2 : Int), .int .u64 (x3 : Int)]), .string t] w fun e w' => e = .returned (.bool true) ∧ Below w.heap.size w w' := by
  have Hkp := hide kp
  have Hkr := hide kr
  have Hkn := hide kn
  have Hko := hide ko
  have Hkt := hide kt
  have Hkf := hide kf
  have Hrt := hide rt
  have Hkz := hide kz
  have Hrz := hide rz
  clear kp kr kn ko kt kf rt kz rz
  have hadd := fun W => run_string_add_sum (P := Try.prog) W ⟨#[94]⟩ T (by show 1 + T.size ≤ _; omega)
  rw [hT] at hadd
  go_enter Try.func6, Try.ntmps6
  go_wp2_with fail
  refine (alive_any _).mono ?_
  rintro e w1 ⟨rfl, hb1⟩
  have hg1 := row_below (at_new (w := w) (o := .cells (#[.int .u64 (x0 : Int), .int .u64 (x1 : Int), .int .u64 (x2 : Int), .int .u64 (x3 : Int)]) 24) rfl) hb1
  have bb1 := bnext ((Below.refl w.heap.size w).alloc (Nat.le_refl _) _) hb1
  clear hb1
  have c0 : w1.cell? ⟨w.heap.size, 0, none⟩ = some (.int .u64 (x0 : Int)) := (cell_of_row _ _ 0 _ _ _ hg1).trans rfl
  have c1 : w1.cell? ⟨w.heap.size, 1, none⟩ = some (.int .u64 (x1 : Int)) := (cell_of_row _ _ 1 _ _ _ hg1).trans rfl
  have c2 : w1.cell? ⟨w.heap.size, 2, none⟩ = some (.int .u64 (x2 : Int)) := (cell_of_row _ _ 2 _ _ _ hg1).trans rfl
  have c3 : w1.cell? ⟨w.heap.size, 3, none⟩ = some (.int .u64 (x3 : Int)) := (cell_of_row _ _ 3 _ _ _ hg1).trans rfl
  go_wp2_with fail
  refine (unhide Hkp _).mono ?_
  rintro e w2 ⟨rfl, hb2⟩
  have hg2 := row_below hg1 hb2
  have bb2 := bnext bb1 hb2
  clear hg1 bb1 hb2 c0 c1 c2 c3
  go_wp2_with fail
  refine (unhide Hkr _).mono ?_
  rintro e w3 ⟨rfl, hb3⟩
  have hg3 := row_below hg2 hb3
  have bb3 := bnext bb2 hb3
  clear hg2 bb2 hb3
  go_wp2_with fail
  have ga := at_old (o := .cells #[.int .i64 0, .int .i64 0] 38) (by simp only [World.size_alloc]; omega) (at_new (w := w3) (o := .cells (#[.int .u64 (x0 : Int), .int .u64 (x1 : Int), .int .u64 (x2 : Int), .int .u64 (x3 : Int)]) 24) rfl)
  have gf := at_new (n := w3.heap.size + 1) (w := w3.alloc (.cells (#[.int .u64 (x0 : Int), .int .u64 (x1 : Int), .int .u64 (x2 : Int), .int .u64 (x3 : Int)]) 24)) (o := .cells #[.int .i64 0, .int .i64 0] 38) (by simp only [World.size_alloc])
  have gs := at_old (o := .cells #[.int .i64 0, .int .i64 0] 38) (by have := lt_of_block hg3; simp only [World.size_alloc]; omega) (at_old (o := .cells (#[.int .u64 (x0 : Int), .int .u64 (x1 : Int), .int .u64 (x2 : Int), .int .u64 (x3 : Int)]) 24) (lt_of_block hg3) hg3)
  have bb4 := (bb3.alloc bb3.size (.cells (#[.int .u64 (x0 : Int), .int .u64 (x1 : Int), .int .u64 (x2 : Int), .int .u64 (x3 : Int)]) 24)).alloc (by have := bb3.size; simp only [World.size_alloc]; omega) (.cells #[.int .i64 0, .int .i64 0] 38)
  have l3 := lt_of_block hg3
  refine (unhide Hkn _).mono ?_
  rintro e w4 ⟨rfl, hb4⟩
  have hga := row_below ga hb4
  have hgf := row_below gf hb4
  have hgs := row_below gs hb4
  have bb5 := bnext bb4 hb4
  have l4 : w3.heap.size + 2 ≤ w4.heap.size := by have := hb4.size; simp only [World.size_alloc] at this; omega
  clear ga gf gs bb4 bb3 hg3 hb4
  go_wp2_with fail
  have bb6 := (bb5.alloc bb5.size (.cells (#[.int .u64 (y0 : Int), .int .u64 (y1 : Int), .int .u64 (y2 : Int), .int .u64 (y3 : Int)]) 24)).alloc (by have := bb5.size; simp only [World.size_alloc]; omega) (.cells #[.int .i64 0, .int .i64 0] 38)
  have q1 := at_old (o := .cells #[.int .i64 0, .int .i64 0] 38) (by simp only [World.size_alloc]; omega) (at_new (w := w4) (o := .cells (#[.int .u64 (y0 : Int), .int .u64 (y1 : Int), .int .u64 (y2 : Int), .int .u64 (y3 : Int)]) 24) rfl)
  have q2 := at_new (n := w4.heap.size + 1) (w := w4.alloc (.cells (#[.int .u64 (y0 : Int), .int .u64 (y1 : Int), .int .u64 (y2 : Int), .int .u64 (y3 : Int)]) 24)) (o := .cells #[.int .i64 0, .int .i64 0] 38) (by simp only [World.size_alloc])
  have q3 := at_old (o := .cells #[.int .i64 0, .int .i64 0] 38) (by have := lt_of_block hga; simp only [World.size_alloc]; omega) (at_old (o := .cells (#[.int .u64 (y0 : Int), .int .u64 (y1 : Int), .int .u64 (y2 : Int), .int .u64 (y3 : Int)]) 24) (lt_of_block hga) hga)
  have q4 := at_old (o := .cells #[.int .i64 0, .int .i64 0] 38) (by have := lt_of_block hgf; simp only [World.size_alloc]; omega) (at_old (o := .cells (#[.int .u64 (y0 : Int), .int .u64 (y1 : Int), .int .u64 (y2 : Int), .int .u64 (y3 : Int)]) 24) (lt_of_block hgf) hgf)
  have q5 := at_old (o := .cells #[.int .i64 0, .int .i64 0] 38) (by have := lt_of_block hgs; simp only [World.size_alloc]; omega) (at_old (o := .cells (#[.int .u64 (y0 : Int), .int .u64 (y1 : Int), .int .u64 (y2 : Int), .int .u64 (y3 : Int)]) 24) (lt_of_block hgs) hgs)
  have l5 : ((w4.alloc (.cells (#[.int .u64 (y0 : Int), .int .u64 (y1 : Int), .int .u64 (y2 : Int), .int .u64 (y3 : Int)]) 24)).alloc (.cells #[.int .i64 0, .int .i64 0] 38)).heap.size = w4.heap.size + 2 := by simp only [World.size_alloc]
  generalize (w4.alloc (.cells (#[.int .u64 (y0 : Int), .int .u64 (y1 : Int), .int .u64 (y2 : Int), .int .u64 (y3 : Int)]) 24)).alloc (.cells #[.int .i64 0, .int .i64 0] 38) = W5 at *
  clear bb5 hga hgf hgs
  have hH : HeldT w.heap.size w3.heap.size w4.heap.size x0 x1 x2 x3 y0 y1 y2 y3 W5 := ⟨(cell_of_row _ _ 0 _ _ _ q5).trans rfl, (cell_of_row _ _ 1 _ _ _ q5).trans rfl, (cell_of_row _ _ 2 _ _ _ q5).trans rfl, (cell_of_row _ _ 3 _ _ _ q5).trans rfl, (cell_of_row _ _ 0 _ _ _ q3).trans rfl, (cell_of_row _ _ 1 _ _ _ q3).trans rfl, (cell_of_row _ _ 2 _ _ _ q3).trans rfl, (cell_of_row _ _ 3 _ _ _ q3).trans rfl, (cell_of_row _ _ 0 _ _ _ q1).trans rfl, (cell_of_row _ _ 1 _ _ _ q1).trans rfl, (cell_of_row _ _ 2 _ _ _ q1).trans rfl, (cell_of_row _ _ 3 _ _ _ q1).trans rfl, (cell_of_row _ _ 0 _ _ _ q4).trans rfl, (cell_of_row _ _ 0 _ _ _ q2).trans rfl⟩
  have HH := hide hH
  have HQ4 := hide q4
  obtain ⟨g0, g1, g2, g3, g4, g5, g6, g7, g8, g9, g10, g11, g12, g13⟩ := hH
  have hA : Below W5.heap.size W5 W5.drew := (Below.refl _ _).drew
  clear q1 q2 q3 q4 q5
  go_region_held3 (fun w' => w'.cell? ⟨w.heap.size, 0, none⟩ = some (.int .u64 (x0 : Int)) ∧ w'.cell? ⟨w.heap.size, 1, none⟩ = some (.int .u64 (x1 : Int)) ∧ w'.cell? ⟨w.heap.size, 2, none⟩ = some (.int .u64 (x2 : Int)) ∧ w'.cell? ⟨w.heap.size, 3, none⟩ = some (.int .u64 (x3 : Int)) ∧ w'.cell? ⟨w3.heap.size, 0, none⟩ = some (.int .u64 (x0 : Int)) ∧ w'.cell? ⟨w3.heap.size, 1, none⟩ = some (.int .u64 (x1 : Int)) ∧ w'.cell? ⟨w3.heap.size, 2, none⟩ = some (.int .u64 (x2 : Int)) ∧ w'.cell? ⟨w3.heap.size, 3, none⟩ = some (.int .u64 (x3 : Int)) ∧ w'.cell? ⟨w4.heap.size, 0, none⟩ = some (.int .u64 (y0 : Int)) ∧ w'.cell? ⟨w4.heap.size, 1, none⟩ = some (.int .u64 (y1 : Int)) ∧ w'.cell? ⟨w4.heap.size, 2, none⟩ = some (.int .u64 (y2 : Int)) ∧ w'.cell? ⟨w4.heap.size, 3, none⟩ = some (.int .u64 (y3 : Int)) ∧ w'.cell? ⟨w3.heap.size + 1, 0, none⟩ = some (.int .i64 0) ∧ w'.cell? ⟨w4.heap.size + 1, 0, none⟩ = some (.int .i64 0))
    (first | go_keep | exact heldT_below (unhide HH) (by omega) (by omega) (by omega) hA)
    (first
      | (go_at_call 21; with_reducible refine (unhide Hko _).mono ?_; rintro e w6 ⟨rfl, hb6⟩; have hA := bnext hA hb6)
      | (go_at_call 10; with_reducible refine (unhide Hkt _).mono ?_; rintro e w6 ⟨rfl, hb6⟩; have hA := bnext hA hb6)
      | (go_at_call 8; with_reducible refine (unhide Hkf _).mono ?_; rintro e w6 ⟨rfl, hb6⟩; have hA := bnext hA hb6))
  have l6 := hA.size
  have bb7 : Below w.heap.size w w6 := bb6.trans (hA.mono bb6.size)
  have qf := (hA.block _ (by omega)).trans (unhide HQ4)
  clear HH HQ4 hA bb6
  go_wp2_with fail
  refine (unhide Hrt _).mono ?_
  rintro e w7 ⟨rfl, hb7⟩
  have qg := row_below qf hb7
  have lg := lt_of_block qg
  have qh := at_old (o := .cells (#[.int .u64 (z0 : Int), .int .u64 (z1 : Int), .int .u64 (z2 : Int), .int .u64 (z3 : Int)]) 24) lg qg
  have qz := at_new (w := w7) (o := .cells (#[.int .u64 (z0 : Int), .int .u64 (z1 : Int), .int .u64 (z2 : Int), .int .u64 (z3 : Int)]) 24) rfl
  have b8 := (bnext bb7 hb7).alloc (by have := hb7.size; have := bb7.size; omega) (.cells (#[.int .u64 (z0 : Int), .int .u64 (z1 : Int), .int .u64 (z2 : Int), .int .u64 (z3 : Int)]) 24)
  have qe := setRow_heap _ (w3.heap.size + 1) _ (#[.int .i64 0, .int .i64 0]) _ _ qh
  have qz2 := (setRow_other _ (w3.heap.size + 1) w7.heap.size (#[.int .i64 0, .int .i64 0]) (by omega)).trans qz
  have b9 := below_setRow b8 (w3.heap.size + 1) (by omega) (#[.int .i64 0, .int .i64 0])
  have HI := hide (info_two (.int .i64 0) (.int .i64 0))
  clear qf qg qz b8 bb7
  go_wp2_with (first
    | (refine wpList_store_row rfl 38 _ _ rfl (w3.heap.size + 1) (#[.int .i64 0, .int .i64 0]) rfl rfl 38 (#[.int .i64 0, .int .i64 0]) qh (unhide HI) rfl (two_one _ _) ?_; have f0 := (cell_of_row _ _ 0 _ _ _ qe).trans (two_at0 _ _); have e0 := (cell_of_row _ _ 0 _ _ _ qz2).trans (four_at0 _ _ _ _); have e1 := (cell_of_row _ _ 1 _ _ _ qz2).trans (four_at1 _ _ _ _); have e2 := (cell_of_row _ _ 2 _ _ _ qz2).trans (four_at2 _ _ _ _); have e3 := (cell_of_row _ _ 3 _ _ _ qz2).trans (four_at3 _ _ _ _))
    | fail)
  refine (unhide Hkz _).mono ?_
  rintro e w8 ⟨rfl, hb8⟩
  go_wp2_with fail
  refine (unhide Hrz _).mono ?_
  rintro e w9 ⟨rfl, hb9⟩
  have r1 := row_below (row_below qe hb8) hb9
  have r2 := row_below (row_below qz2 hb8) hb9
  have b10 := bnext (bnext b9 hb8) hb9
  have r3 := at_old (o := .cells (#[.int .u64 (z0 : Int), .int .u64 (z1 : Int), .int .u64 (z2 : Int), .int .u64 (z3 : Int)]) 24) (lt_of_block r1) r1
  have r4 := at_old (o := .cells (#[.int .u64 (z0 : Int), .int .u64 (z1 : Int), .int .u64 (z2 : Int), .int .u64 (z3 : Int)]) 24) (lt_of_block r2) r2
  have r5 := at_new (w := w9) (o := .cells (#[.int .u64 (z0 : Int), .int .u64 (z1 : Int), .int .u64 (z2 : Int), .int .u64 (z3 : Int)]) 24) rfl
  have l7 := lt_of_block r1
  have l8 := lt_of_block r2
  have b11 := b10.alloc b10.size (.cells (#[.int .u64 (z0 : Int), .int .u64 (z1 : Int), .int .u64 (z2 : Int), .int .u64 (z3 : Int)]) 24)
  have s1 := setRow_heap _ (w3.heap.size + 1) _ (#[.int .i64 0, .int .i64 0]) _ _ r3
  have s2 := (setRow_other _ (w3.heap.size + 1) w7.heap.size (#[.int .i64 0, .int .i64 0]) (by omega)).trans r4
  have s3 := (setRow_other _ (w3.heap.size + 1) w9.heap.size (#[.int .i64 0, .int .i64 0]) (by omega)).trans r5
  have b12 := below_setRow b11 (w3.heap.size + 1) (by omega) (#[.int .i64 0, .int .i64 0])
  clear qe qz2 b9 r1 r2 r4 r5 b10 b11 f0 e0 e1 e2 e3
  go_wp2_with (first
    | (refine wpList_store_row rfl 38 _ _ rfl (w3.heap.size + 1) (#[.int .i64 0, .int .i64 0]) rfl rfl 38 (#[.int .i64 0, .int .i64 0]) r3 (unhide HI) rfl (two_one _ _) ?_; have f0 := (cell_of_row _ _ 0 _ _ _ s1).trans (two_at0 _ _); have e0 := (cell_of_row _ _ 0 _ _ _ s2).trans (four_at0 _ _ _ _); have e1 := (cell_of_row _ _ 1 _ _ _ s2).trans (four_at1 _ _ _ _); have e2 := (cell_of_row _ _ 2 _ _ _ s2).trans (four_at2 _ _ _ _); have e3 := (cell_of_row _ _ 3 _ _ _ s2).trans (four_at3 _ _ _ _); have y0 := (cell_of_row _ _ 0 _ _ _ s3).trans (four_at0 _ _ _ _); have y1 := (cell_of_row _ _ 1 _ _ _ s3).trans (four_at1 _ _ _ _); have y2 := (cell_of_row _ _ 2 _ _ _ s3).trans (four_at2 _ _ _ _); have y3 := (cell_of_row _ _ 3 _ _ _ s3).trans (four_at3 _ _ _ _))
    | fail)
  go_ret
  exact ⟨rfl, b12⟩
end Go.Proofs.Ytgamnhmkimonnaa
