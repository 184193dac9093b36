/- What the law SetsWrite answers, for every set and text: true. -/
import Derived.Test.YtgamnhmkimonnaaRefPrint3
import Derived.Test.YtgamnhmkimonnaaRefRead3
import Derived.Test.YtgamnhmkimonnaaAlive3
import Derived.Deep.RegionHeld3
namespace Go.Proofs.Ytgamnhmkimonnaa
open Go.RowKit

set_option maxHeartbeats 4000000 in
set_option maxRecDepth 100000 in
theorem write_abs (x0 x1 x2 x3 z0 z1 z2 z3 ee aa : Nat) (T t : ByteArray) (kp : ∀ W, Calls Try.prog 23 #[.agg (#[.int .u64 (x0 : Int), .int .u64 (x1 : Int), .int .u64 (x2 : Int), .int .u64 (x3 : Int)])] W fun e w' => e = .returned (.string T) ∧ Below W.heap.size W w') (kq : ∀ W, Calls Try.prog 24 #[.agg (#[.int .u64 (x0 : Int), .int .u64 (x1 : Int), .int .u64 (x2 : Int), .int .u64 (x3 : Int)])] W fun e w' => e = .returned (.string T) ∧ Below W.heap.size W w') (kr : ∀ W, Calls Try.prog 25 #[.string t] W fun e w' => e = .returned (.tuple #[.agg (#[.int .u64 (z0 : Int), .int .u64 (z1 : Int), .int .u64 (z2 : Int), .int .u64 (z3 : Int)]), .agg (#[.int .i64 (ee : Int), .int .i64 (aa : Int)])]) ∧ Below W.heap.size W w') (ks : ∀ W, Calls Try.prog 26 #[.string t] W fun e w' => e = .returned (.tuple #[.agg (#[.int .u64 (z0 : Int), .int .u64 (z1 : Int), .int .u64 (z2 : Int), .int .u64 (z3 : Int)]), .agg (#[.int .i64 (ee : Int), .int .i64 (aa : Int)])]) ∧ Below W.heap.size W w') (ez : ∀ W, (Op.equalIn 10000 24 (.agg (#[.int .u64 (z0 : Int), .int .u64 (z1 : Int), .int .u64 (z2 : Int), .int .u64 (z3 : Int)])) (.agg (#[.int .u64 (z0 : Int), .int .u64 (z1 : Int), .int .u64 (z2 : Int), .int .u64 (z3 : Int)]))).run Try.prog W = .ok true W) (w : World) :
    Calls Try.prog 4 #[.agg (#[.int .u64 (x0 : Int), .int .u64 (x1 : Int), .int .u64 (x2 : Int), .int .u64 (x3 : Int)]), .string t] w fun e w' => e = .returned (.bool true) ∧ Below w.heap.size w w' := by
  have Hkp := hide kp
  have Hkq := hide kq
  have Hkr := hide kr
  have Hks := hide ks
  clear kp kq kr ks
  go_enter Try.func4, Try.ntmps4
  go_wp2
  have hg := at_new (w := w) (o := .cells (#[.int .u64 (x0 : Int), .int .u64 (x1 : Int), .int .u64 (x2 : Int), .int .u64 (x3 : Int)]) 24) rfl
  have b1 := (Below.refl w.heap.size w).alloc (Nat.le_refl _) (.cells (#[.int .u64 (x0 : Int), .int .u64 (x1 : Int), .int .u64 (x2 : Int), .int .u64 (x3 : Int)]) 24)
  generalize w.alloc (.cells (#[.int .u64 (x0 : Int), .int .u64 (x1 : Int), .int .u64 (x2 : Int), .int .u64 (x3 : Int)]) 24) = W at *
  have c0 : W.cell? ⟨w.heap.size, 0, none⟩ = some (.int .u64 (x0 : Int)) := (cell_of_row _ _ 0 _ _ _ hg).trans rfl
  have c1 : W.cell? ⟨w.heap.size, 1, none⟩ = some (.int .u64 (x1 : Int)) := (cell_of_row _ _ 1 _ _ _ hg).trans rfl
  have c2 : W.cell? ⟨w.heap.size, 2, none⟩ = some (.int .u64 (x2 : Int)) := (cell_of_row _ _ 2 _ _ _ hg).trans rfl
  have c3 : W.cell? ⟨w.heap.size, 3, none⟩ = some (.int .u64 (x3 : Int)) := (cell_of_row _ _ 3 _ _ _ hg).trans rfl
  have lw := lt_of_block hg
  have hA : Below W.heap.size W W.drew := (Below.refl _ _).drew
  have HC := hide (And.intro c0 (And.intro c1 (And.intro c2 c3)))
  go_region_held3 (fun w' => w'.cell? ⟨w.heap.size, 0, none⟩ = some (.int .u64 (x0 : Int)) ∧ w'.cell? ⟨w.heap.size, 1, none⟩ = some (.int .u64 (x1 : Int)) ∧ w'.cell? ⟨w.heap.size, 2, none⟩ = some (.int .u64 (x2 : Int)) ∧ w'.cell? ⟨w.heap.size, 3, none⟩ = some (.int .u64 (x3 : Int)))
    (first | go_keep | exact ⟨(hA.cell lw).trans (unhide HC).1, (hA.cell lw).trans (unhide HC).2.1, (hA.cell lw).trans (unhide HC).2.2.1, (hA.cell lw).trans (unhide HC).2.2.2⟩)
    (first
      | (go_at_call 23; with_reducible refine (unhide Hkp _).mono ?_; rintro e w2 ⟨rfl, hb2⟩; have hA := bnext hA hb2)
      | (go_at_call 24; with_reducible refine (unhide Hkq _).mono ?_; rintro e w2 ⟨rfl, hb2⟩; have hA := bnext hA hb2))
  have b2 : Below w.heap.size w w2 := b1.trans (hA.mono b1.size)
  clear hA b1 HC hg
  go_wp2_with fail
  refine (unhide Hkr _).mono ?_
  rintro e w3 ⟨rfl, hb3⟩
  have b3 := bnext b2 hb3
  clear hb3 b2
  go_wp2_with fail
  have g0 := at_old (o := .cells (#[.int .i64 (ee : Int), .int .i64 (aa : Int)]) 38) (by simp only [World.size_alloc]; omega) (at_new (w := w3) (o := .cells (#[.int .u64 (z0 : Int), .int .u64 (z1 : Int), .int .u64 (z2 : Int), .int .u64 (z3 : Int)]) 24) rfl)
  have g1 := at_new (n := w3.heap.size + 1) (w := w3.alloc (.cells (#[.int .u64 (z0 : Int), .int .u64 (z1 : Int), .int .u64 (z2 : Int), .int .u64 (z3 : Int)]) 24)) (o := .cells (#[.int .i64 (ee : Int), .int .i64 (aa : Int)]) 38) (by simp only [World.size_alloc])
  have b4 := (b3.alloc b3.size (.cells (#[.int .u64 (z0 : Int), .int .u64 (z1 : Int), .int .u64 (z2 : Int), .int .u64 (z3 : Int)]) 24)).alloc (by have := b3.size; simp only [World.size_alloc]; omega) (.cells (#[.int .i64 (ee : Int), .int .i64 (aa : Int)]) 38)
  refine (unhide Hks _).mono ?_
  rintro e w4 ⟨rfl, hb4⟩
  have h0 := row_below g0 hb4
  have h1 := row_below g1 hb4
  have b5 := bnext b4 hb4
  have l0 := lt_of_block h0
  have l1 := lt_of_block h1
  have c0 : w4.cell? ⟨w3.heap.size, 0, none⟩ = some (.int .u64 (z0 : Int)) := (cell_of_row _ _ 0 _ _ _ h0).trans rfl
  have c1 : w4.cell? ⟨w3.heap.size, 1, none⟩ = some (.int .u64 (z1 : Int)) := (cell_of_row _ _ 1 _ _ _ h0).trans rfl
  have c2 : w4.cell? ⟨w3.heap.size, 2, none⟩ = some (.int .u64 (z2 : Int)) := (cell_of_row _ _ 2 _ _ _ h0).trans rfl
  have c3 : w4.cell? ⟨w3.heap.size, 3, none⟩ = some (.int .u64 (z3 : Int)) := (cell_of_row _ _ 3 _ _ _ h0).trans rfl
  have d0 : w4.cell? ⟨w3.heap.size + 1, 0, none⟩ = some (.int .i64 (ee : Int)) := (cell_of_row _ _ 0 _ _ _ h1).trans rfl
  have d1 : w4.cell? ⟨w3.heap.size + 1, 1, none⟩ = some (.int .i64 (aa : Int)) := (cell_of_row _ _ 1 _ _ _ h1).trans rfl
  clear g0 g1 b4 hb4 h0 h1 b3
  have b6 := (b5.alloc b5.size (.cells (#[.int .u64 (z0 : Int), .int .u64 (z1 : Int), .int .u64 (z2 : Int), .int .u64 (z3 : Int)]) 24)).alloc (by have := b5.size; simp only [World.size_alloc]; omega) (.cells (#[.int .i64 (ee : Int), .int .i64 (aa : Int)]) 38)
  clear b5
  go_wp2
  go_ret
  exact ⟨rfl, b6⟩

theorem setsWrite_walk (p : Nat → Bool) (t : ByteArray) (ht : t.size ≤ maxLen) (w : World) :
    Calls Try.prog 4 #[sv p, .string t] w fun e w' => e = .returned (.bool true) ∧ Below w.heap.size w w' := by
  have kr := fun W => read_any t W ht
  have ks := fun W => refRead_any t W ht
  generalize readSaid t = r at *
  exact write_abs (wd p 0) (wd p 1) (wd p 2) (wd p 3) (wd r.2.2 0) (wd r.2.2 1) (wd r.2.2 2) (wd r.2.2 3) r.1 r.2.1 _ t (fun W => print_any p W) (fun W => refPrint_any p W) kr ks (fun W => eq_set r.2.2 W) w
end Go.Proofs.Ytgamnhmkimonnaa
