/- Two sets that are the same are told so; the law's own closed fact. -/
import Derived.Test.YtgamnhmkimonnaaRead
import Derived.Test.YtgamnhmkimonnaaText
import Derived.Test.YtgamnhmkimonnaaSize
import Derived.DeepKeys
namespace Go.Proofs.Ytgamnhmkimonnaa
open Go.RowKit

/-- A set's four cells, written out. -/
theorem sv_lit (p : Nat → Bool) : sv p = .agg #[.int .u64 (wd p 0 : Int), .int .u64 (wd p 1 : Int), .int .u64 (wd p 2 : Int), .int .u64 (wd p 3 : Int)] := rfl
theorem wf_u64 (n : Nat) (h : n < 18446744073709551616) : (Lit.int .u64 (n : Int)).wf = true := by
  have h1 : (0 : Int) ≤ (n : Int) := by omega
  have h2 : (n : Int) ≤ 18446744073709551615 := by omega
  simp [Lit.wf, IntKind.min, IntKind.max, IntKind.signed, IntKind.bits]
  omega
theorem cells_set : Try.prog.cellsOf 24 = 4 := by kernel_rfl
theorem cells_u64 : Try.prog.cellsOf 22 = 1 := by kernel_rfl
theorem key_set : Try.prog.keyTypeAt 3 24 = true := by kernel_rfl
theorem lits_word (n : Nat) (h : n < 18446744073709551616) : Try.prog.keyLits 1 22 [.int .u64 (n : Int)] = some [.int .u64 (n : Int)] := by
  unfold Program.keyLits
  rw [Try.underlying22]
  simp [wf_u64 n h]
theorem lits_set (p : Nat → Bool) : ∃ la, Try.prog.keyLits 2 24 (sv p).cells.toList = some la := by
  have h0 := lits_word (wd p 0) (wd_lt _ _)
  have h1 := lits_word (wd p 1) (wd_lt _ _)
  have h2 := lits_word (wd p 2) (wd_lt _ _)
  have h3 := lits_word (wd p 3) (wd_lt _ _)
  rw [sv_lit]
  unfold Program.keyLits
  rw [Try.underlying24]
  simp only [Value.cells, cells_set, cells_u64, List.length_cons, List.length_nil]
  have r4 : List.range 4 = [0, 1, 2, 3] := rfl
  simp [r4, h0, h1, h2, h3]
theorem formed_set (p : Nat → Bool) : (sv p).formed Try.prog 24 = true := by
  rw [sv_lit]
  simp [Value.formed, Try.underlying24, cells_set]
theorem eq_set (p : Nat → Bool) (w : World) : (Op.equalIn 10000 24 (sv p) (sv p)).run Try.prog w = .ok true w := by
  obtain ⟨la, hk⟩ := lits_set p
  obtain ⟨r, h1, h2⟩ := run_equalIn_deep (P := Try.prog) 9997 3 24 key_set w 2 2 (sv p) (sv p) la la (formed_set p) (formed_set p) hk hk
  rw [h1, h2.2 rfl]

def abc : Nat → Bool := fun x => false || (decide (97 ≤ x) && decide (x ≤ 99))
theorem read_abc : readV (readSaid ⟨#[97, 45, 99]⟩) = .tuple #[sv abc, fv 0 0] := by
  unfold readV
  rw [show readSaid ⟨#[97, 45, 99]⟩ = (0, 0, abc) by rfl]
theorem tx_abc : tx abc 256 = [97, 98, 99] := by decide +kernel
theorem cnt_abc : cnt abc 256 = 3 := by decide +kernel

set_option maxHeartbeats 1000000 in
theorem alive_any (w : World) :
    Calls Try.prog 27 #[] w fun e w' => e = .returned (.bool true) ∧ Below w.heap.size w w' := by
  have C := hide (fun W => read_any ⟨#[97, 45, 99]⟩ W (by unfold maxLen; decide))
  have D := hide (fun W => text_any abc W)
  have E := hide (fun W => size_any abc W)
  rw [read_abc] at C
  rw [tx_abc] at D
  rw [cnt_abc] at E
  unfold fv at C
  rw [sv_lit] at C D E
  generalize wd abc 0 = x0 at *
  generalize wd abc 1 = x1 at *
  generalize wd abc 2 = x2 at *
  generalize wd abc 3 = x3 at *
  go_enter Try.func27, Try.ntmps27
  go_wp2_with fail
  refine (unhide C _).mono ?_
  rintro e w1 ⟨rfl, hb1⟩
  go_wp2_with fail
  refine (unhide D _).mono ?_
  rintro e w2 ⟨rfl, hb2⟩
  have hg := row_below (at_old (o := .cells #[.int .i64 0, .int .i64 0] 38) (by simp only [World.size_alloc]; omega) (at_new (w := w1) (o := .cells #[.int .u64 (x0 : Int), .int .u64 (x1 : Int), .int .u64 (x2 : Int), .int .u64 (x3 : Int)] 24) rfl)) hb2
  have c0 : w2.cell? ⟨w1.heap.size, 0, none⟩ = some (.int .u64 (x0 : Int)) := (cell_of_row _ _ 0 _ _ _ hg).trans rfl
  have c1 : w2.cell? ⟨w1.heap.size, 1, none⟩ = some (.int .u64 (x1 : Int)) := (cell_of_row _ _ 1 _ _ _ hg).trans rfl
  have c2 : w2.cell? ⟨w1.heap.size, 2, none⟩ = some (.int .u64 (x2 : Int)) := (cell_of_row _ _ 2 _ _ _ hg).trans rfl
  have c3 : w2.cell? ⟨w1.heap.size, 3, none⟩ = some (.int .u64 (x3 : Int)) := (cell_of_row _ _ 3 _ _ _ hg).trans rfl
  have hb3 := bnext ((hb1.alloc hb1.size _).alloc (by have := hb1.size; simp only [World.size_alloc]; omega) _) hb2
  clear hg hb1 hb2
  go_wp2_with fail
  refine (unhide E _).mono ?_
  rintro e w3 ⟨rfl, hb4⟩
  go_wp2
  go_ret
  exact ⟨rfl, bnext hb3 hb4⟩
end Go.Proofs.Ytgamnhmkimonnaa
