/- What sets.readRun does, for every text and place. -/
import Derived.Test.YtgamnhmkimonnaaReadByte
import Derived.RegionTactic
import Derived.BigRegion
namespace Go.Proofs.Ytgamnhmkimonnaa
open Go.RowKit

/-- A run that is written at a place: its first and last byte, where the next one is; what is wrong, and where. -/
def rr (c : Nat → Nat) (i : Nat) : Nat × Nat × Nat × Nat × Nat :=
  if (rb c i).1 = false then (0, 0, 0, 2, (rb c i).2.2)
  else if c (rb c i).2.2 ≠ 45 then ((rb c i).2.1, (rb c i).2.1, (rb c i).2.2, 0, 0)
  else if (rb c ((rb c i).2.2 + 1)).1 = false then ((rb c i).2.1, 0, 0, 2, (rb c ((rb c i).2.2 + 1)).2.2)
  else if (rb c ((rb c i).2.2 + 1)).2.1 < (rb c i).2.1 then ((rb c i).2.1, (rb c ((rb c i).2.2 + 1)).2.1, (rb c ((rb c i).2.2 + 1)).2.2, 3, (rb c i).2.2 + 1)
  else ((rb c i).2.1, (rb c ((rb c i).2.2 + 1)).2.1, (rb c ((rb c i).2.2 + 1)).2.2, 0, 0)
def rrV (r : Nat × Nat × Nat × Nat × Nat) : Value := .tuple #[.int .u8 (r.1 : Int), .int .u8 (r.2.1 : Int), .int .i64 (r.2.2.1 : Int), fv r.2.2.2.1 r.2.2.2.2]
theorem info_fault : (Try.prog.info? 38).map (·.size) = some 2 := by kernel_rfl
def fc (e a : Nat) : Array Value := #[.int .i64 (e : Int), .int .i64 (a : Int)]
theorem fc_one (e a : Nat) : (fc e a).all (·.oneCell') = true := by simp [fc, Value.oneCell']
theorem fc_at0 (e a : Nat) : (fc e a)[0]? = some (.int .i64 (e : Int)) := rfl
theorem fc_at1 (e a : Nat) : (fc e a)[1]? = some (.int .i64 (a : Int)) := rfl

theorem two_back {W : World} {N : Nat} {F : Array Value} (e a : Value) (hg : W.heap[N]? = some (.cells F 38 (0, 0))) (fs : F.size = 2) :
    (((W.setCell ⟨N, 0, none⟩ e).setCell ⟨N, 1, none⟩ a).drew).cell? ⟨N, 0, none⟩ = some e ∧ (((W.setCell ⟨N, 0, none⟩ e).setCell ⟨N, 1, none⟩ a).drew).cell? ⟨N, 1, none⟩ = some a := by
  have h1 := heap_setCell_same W N 0 _ _ e hg
  have h2 := heap_setCell_same _ N 1 _ _ a h1
  have h3 : (((W.setCell ⟨N, 0, none⟩ e).setCell ⟨N, 1, none⟩ a).drew).heap[N]? = some (.cells ((F.setIfInBounds 0 e).setIfInBounds 1 a) 38 (0, 0)) := h2
  rw [cell_of_row _ N 0 _ _ _ h3, cell_of_row _ N 1 _ _ _ h3]
  have s1 : 0 < (F.setIfInBounds 0 e).size := by simp; omega
  constructor
  · rw [Array.getElem?_setIfInBounds_ne (by omega), Array.getElem?_setIfInBounds_self_of_lt (by omega)]
  · rw [Array.getElem?_setIfInBounds_self_of_lt (by simp; omega)]

set_option maxHeartbeats 400000 in
theorem readRun_bad (t : ByteArray) (i n : Nat) (w : World) (ht : t.size ≤ 65536) (hi : i ≤ t.size) (hr : rb (ch t) i = (false, 0, n)) :
    Calls Try.prog 38 #[.string t, .int .i64 (i : Int)] w fun e w' => e = .returned (.tuple #[.int .u8 0, .int .u8 0, .int .i64 0, fv 2 n]) ∧ Below w.heap.size w w' := by
  have C := hide (fun W => readByte_any t i W ht hi)
  rw [hr, show rbV (false, 0, n) = .tuple #[.int .u8 0, .int .i64 0, .agg (fc 2 n)] from rfl] at C
  have f0 := fc_at0 2 n
  have f1 := fc_at1 2 n
  have fs : (fc 2 n).size = 2 := rfl
  have fo := fc_one 2 n
  generalize hF : fc 2 n = F at *
  have HI := hide (show (Try.prog.info? 38).map (·.size) = some F.size by rw [fs]; exact info_fault)
  have HF := hide hF
  clear hF
  go_enter Try.func38, Try.ntmps38
  go_wp2_with fail
  refine (unhide C _).mono ?_
  rintro e w1 ⟨rfl, hb⟩
  have hz : w1.heap[w.heap.size]? = some (.cells #[.int .i64 0, .int .i64 0] 38 (0, 0)) := (hb.block _ (by simp only [World.size_alloc]; omega)).trans (at_new rfl)
  have hg := setRow_heap w1 w.heap.size _ F _ _ hz
  have c0 := (cell_of_row _ _ 0 _ _ _ hg).trans f0
  have c1 := (cell_of_row _ _ 1 _ _ _ hg).trans f1
  have z0 := frozen_of_row _ _ 0 _ _ hg
  have z1 := frozen_of_row _ _ 1 _ _ hg
  have hb1 := bnext ((Below.refl w.heap.size w).alloc (Nat.le_refl _) _) hb
  have HB := hide (below_setRow hb1 w.heap.size (Nat.le_refl _) F)
  have HG := hide hg
  clear hg hb hb1
  go_wp2_with (refine wpList_store_row rfl 38 _ _ rfl w.heap.size F rfl rfl 38 _ hz (unhide HI) fs.symm fo ?_)
  generalize w1.setRow w.heap.size F = W at *
  go_region
  go_wp2
  obtain ⟨q0, q1⟩ := two_back (.int .i64 2) (.int .i64 (n : Int)) (unhide HG) fs
  refine bodyPost_ret (v := .tuple #[.int .u8 0, .int .u8 0, .int .i64 0, fv 2 n]) ?_ rfl ⟨rfl, (((unhide HB).setCell (Nat.le_refl _) _).setCell (Nat.le_refl _) _).drew⟩
  simp [results, Try.results38, go_sem, fv, q0, q1]

set_option maxHeartbeats 1000000 in
theorem readRun_alone (t : ByteArray) (i a n  : Nat) (w : World) (ht : t.size ≤ 65536) (hi : i ≤ t.size) (hn : n ≤ t.size) (hr : rb (ch t) i = (true, a, n)) (hc : ch t n ≠ 45) :
    Calls Try.prog 38 #[.string t, .int .i64 (i : Int)] w fun e w' => e = .returned (.tuple #[.int .u8 (a : Int), .int .u8 (a : Int), .int .i64 (n : Int), fv 0 0]) ∧ Below w.heap.size w w' := by
  have C := hide (fun W => readByte_any t i W ht hi)
  rw [hr, show rbV (true, a, n) = .tuple #[.int .u8 (a : Int), .int .i64 (n : Int), .agg (fc 0 0)] from rfl] at C
  have f0 := fc_at0 0 0
  have f1 := fc_at1 0 0
  have fs : (fc 0 0).size = 2 := rfl
  have fo := fc_one 0 0
  generalize fc 0 0 = F at *
  have HI := hide (show (Try.prog.info? 38).map (·.size) = some F.size by rw [fs]; exact info_fault)
  by_cases he : n = t.size
  · have h1 : (n : Int) = (t.size : Int) := by omega
    have h2 : ((n : Int) == (t.size : Int)) = true := by rw [beq_iff_eq]; exact h1
    clear h1 he hc
    go_enter Try.func38, Try.ntmps38
    go_wp2_with fail
    refine (unhide C _).mono ?_
    rintro e w1 ⟨rfl, hb⟩
    have hz : w1.heap[w.heap.size]? = some (.cells #[.int .i64 0, .int .i64 0] 38 (0, 0)) := (hb.block _ (by simp only [World.size_alloc]; omega)).trans (at_new rfl)
    have hg := setRow_heap w1 w.heap.size _ F _ _ hz
    have c0 := (cell_of_row _ _ 0 _ _ _ hg).trans f0
    have c1 := (cell_of_row _ _ 1 _ _ _ hg).trans f1
    have z0 := frozen_of_row _ _ 0 _ _ hg
    have z1 := frozen_of_row _ _ 1 _ _ hg
    have hb1 := bnext ((Below.refl w.heap.size w).alloc (Nat.le_refl _) _) hb
    have HB := hide (below_setRow hb1 w.heap.size (Nat.le_refl _) F)
    have HG := hide hg
    clear hg hb hb1
    go_wp2_with (refine wpList_store_row rfl 38 _ _ rfl w.heap.size F rfl rfl 38 _ hz (unhide HI) fs.symm fo ?_)
    generalize w1.setRow w.heap.size F = W at *
    go_region
    go_wp2
    obtain ⟨q0, q1⟩ := two_back (.int .i64 0) (.int .i64 0) (unhide HG) fs
    refine bodyPost_ret (v := .tuple #[.int .u8 (a : Int), .int .u8 (a : Int), .int .i64 (n : Int), fv 0 0]) ?_ rfl ⟨rfl, (((unhide HB).setCell (Nat.le_refl _) _).setCell (Nat.le_refl _) _).drew⟩
    simp [results, Try.results38, go_sem, fv, q0, q1]
  · have hlt : n < t.size := by omega
    have h1 : (n : Int) < (t.size : Int) := by omega
    have h2 : ((n : Int) == (t.size : Int)) = false := by rw [beq_eq_false_iff_ne]; omega
    have hx : ((t[n]).toNat : Int) = (ch t n : Int) := by rw [ch_at t n hlt]
    have hq : ((ch t n : Int) != 45) = true := by rw [bne_iff_ne]; omega
    generalize ch t n = d at *
    clear he hc
    go_enter Try.func38, Try.ntmps38
    go_wp2_with fail
    refine (unhide C _).mono ?_
    rintro e w1 ⟨rfl, hb⟩
    have hz : w1.heap[w.heap.size]? = some (.cells #[.int .i64 0, .int .i64 0] 38 (0, 0)) := (hb.block _ (by simp only [World.size_alloc]; omega)).trans (at_new rfl)
    have hg := setRow_heap w1 w.heap.size _ F _ _ hz
    have c0 := (cell_of_row _ _ 0 _ _ _ hg).trans f0
    have c1 := (cell_of_row _ _ 1 _ _ _ hg).trans f1
    have z0 := frozen_of_row _ _ 0 _ _ hg
    have z1 := frozen_of_row _ _ 1 _ _ hg
    have hb1 := bnext ((Below.refl w.heap.size w).alloc (Nat.le_refl _) _) hb
    have HB := hide (below_setRow hb1 w.heap.size (Nat.le_refl _) F)
    have HG := hide hg
    clear hg hb hb1
    go_wp2_with (refine wpList_store_row rfl 38 _ _ rfl w.heap.size F rfl rfl 38 _ hz (unhide HI) fs.symm fo ?_)
    generalize w1.setRow w.heap.size F = W at *
    go_region
    go_wp2
    obtain ⟨q0, q1⟩ := two_back (.int .i64 0) (.int .i64 0) (unhide HG) fs
    refine bodyPost_ret (v := .tuple #[.int .u8 (a : Int), .int .u8 (a : Int), .int .i64 (n : Int), fv 0 0]) ?_ rfl ⟨rfl, (((unhide HB).setCell (Nat.le_refl _) _).setCell (Nat.le_refl _) _).drew⟩
    simp [results, Try.results38, go_sem, fv, q0, q1]

set_option maxHeartbeats 1000000 in
theorem readRun_bad2 (t : ByteArray) (i a n m : Nat) (w : World) (ht : t.size ≤ 65536) (hi : i ≤ t.size) (hn : n ≤ t.size) (hr : rb (ch t) i = (true, a, n)) (hc : ch t n = 45) (hr2 : rb (ch t) (n + 1) = (false, 0, m)) :
    Calls Try.prog 38 #[.string t, .int .i64 (i : Int)] w fun e w' => e = .returned (.tuple #[.int .u8 (a : Int), .int .u8 0, .int .i64 0, fv 2 m]) ∧ Below w.heap.size w w' := by
  have C := hide (fun W => readByte_any t i W ht hi)
  rw [hr, show rbV (true, a, n) = .tuple #[.int .u8 (a : Int), .int .i64 (n : Int), .agg (fc 0 0)] from rfl] at C
  have f0 := fc_at0 0 0
  have f1 := fc_at1 0 0
  have fs : (fc 0 0).size = 2 := rfl
  have fo := fc_one 0 0
  generalize fc 0 0 = F at *
  have HI := hide (show (Try.prog.info? 38).map (·.size) = some F.size by rw [fs]; exact info_fault)
  have hlt : n < t.size := by
    by_cases h : n < t.size
    · exact h
    · rw [ch_end t n (by omega)] at hc; omega
  have h1 : (n : Int) < (t.size : Int) := by omega
  have h2 : ((n : Int) == (t.size : Int)) = false := by rw [beq_eq_false_iff_ne]; omega
  have hx : ((t[n]).toNat : Int) = 45 := by rw [ch_at t n hlt, hc]; rfl
  have D := hide (fun W => readByte_any t (n + 1) W ht (by omega))
  rw [show (((n + 1 : Nat)) : Int) = (n : Int) + 1 by omega] at D
  rw [hr2, show rbV (false, 0, m) = .tuple #[.int .u8 0, .int .i64 0, .agg (fc 2 m)] from rfl] at D
  have g0 := fc_at0 2 m
  have g1 := fc_at1 2 m
  have gs : (fc 2 m).size = 2 := rfl
  have go := fc_one 2 m
  generalize fc 2 m = F2 at *
  have HI2 := hide (show (Try.prog.info? 38).map (·.size) = some F2.size by rw [gs]; exact info_fault)
  go_enter Try.func38, Try.ntmps38
  go_wp2_with fail
  refine (unhide C _).mono ?_
  rintro e w1 ⟨rfl, hb⟩
  have hz : w1.heap[w.heap.size]? = some (.cells #[.int .i64 0, .int .i64 0] 38 (0, 0)) := (hb.block _ (by simp only [World.size_alloc]; omega)).trans (at_new rfl)
  have hg := setRow_heap w1 w.heap.size _ F _ _ hz
  have c0 := (cell_of_row _ _ 0 _ _ _ hg).trans f0
  have c1 := (cell_of_row _ _ 1 _ _ _ hg).trans f1
  have z0 := frozen_of_row _ _ 0 _ _ hg
  have z1 := frozen_of_row _ _ 1 _ _ hg
  have hb1 := bnext ((Below.refl w.heap.size w).alloc (Nat.le_refl _) _) hb
  have HB := hide (below_setRow hb1 w.heap.size (Nat.le_refl _) F)
  have HG := hide hg
  clear hg hb hb1
  go_wp2_with (first | (refine wpList_store_row rfl 38 _ _ rfl w.heap.size F rfl rfl 38 _ hz (unhide HI) fs.symm fo ?_) | fail)
  generalize w1.setRow w.heap.size F = W at *
  refine (unhide D _).mono ?_
  rintro e w2 ⟨rfl, hb2⟩
  have hz2 := row_below (unhide HG) hb2
  have hg2 := setRow_heap w2 w.heap.size _ F2 _ _ hz2
  have c20 := (cell_of_row _ _ 0 _ _ _ hg2).trans g0
  have c21 := (cell_of_row _ _ 1 _ _ _ hg2).trans g1
  have z20 := frozen_of_row _ _ 0 _ _ hg2
  have z21 := frozen_of_row _ _ 1 _ _ hg2
  have HB2 := hide (below_setRow (bnext (unhide HB) hb2) w.heap.size (Nat.le_refl _) F2)
  have HG2 := hide hg2
  clear hg2 hb2
  have hss : F.size = F2.size := fs.trans gs.symm
  go_wp2_with (refine wpList_store_row rfl 38 _ _ rfl w.heap.size F2 rfl rfl 38 _ hz2 (unhide HI2) hss go ?_)
  generalize w2.setRow w.heap.size F2 = W2 at *
  go_region
  go_wp2
  obtain ⟨q0, q1⟩ := two_back (.int .i64 2) (.int .i64 (m : Int)) (unhide HG2) gs
  refine bodyPost_ret (v := .tuple #[.int .u8 (a : Int), .int .u8 0, .int .i64 0, fv 2 m]) ?_ rfl ⟨rfl, (((unhide HB2).setCell (Nat.le_refl _) _).setCell (Nat.le_refl _) _).drew⟩
  simp [results, Try.results38, go_sem, fv, q0, q1]

set_option maxHeartbeats 1000000 in
theorem readRun_ok (t : ByteArray) (i a n b m : Nat) (w : World) (ht : t.size ≤ 65536) (hi : i ≤ t.size) (hn : n ≤ t.size) (hr : rb (ch t) i = (true, a, n)) (hc : ch t n = 45) (hr2 : rb (ch t) (n + 1) = (true, b, m)) (hab : ¬ b < a) :
    Calls Try.prog 38 #[.string t, .int .i64 (i : Int)] w fun e w' => e = .returned (.tuple #[.int .u8 (a : Int), .int .u8 (b : Int), .int .i64 (m : Int), fv 0 0]) ∧ Below w.heap.size w w' := by
  have C := hide (fun W => readByte_any t i W ht hi)
  rw [hr, show rbV (true, a, n) = .tuple #[.int .u8 (a : Int), .int .i64 (n : Int), .agg (fc 0 0)] from rfl] at C
  have f0 := fc_at0 0 0
  have f1 := fc_at1 0 0
  have fs : (fc 0 0).size = 2 := rfl
  have fo := fc_one 0 0
  generalize fc 0 0 = F at *
  have HI := hide (show (Try.prog.info? 38).map (·.size) = some F.size by rw [fs]; exact info_fault)
  have hlt : n < t.size := by
    by_cases h : n < t.size
    · exact h
    · rw [ch_end t n (by omega)] at hc; omega
  have h1 : (n : Int) < (t.size : Int) := by omega
  have h2 : ((n : Int) == (t.size : Int)) = false := by rw [beq_eq_false_iff_ne]; omega
  have hx : ((t[n]).toNat : Int) = 45 := by rw [ch_at t n hlt, hc]; rfl
  have D := hide (fun W => readByte_any t (n + 1) W ht (by omega))
  rw [show (((n + 1 : Nat)) : Int) = (n : Int) + 1 by omega] at D
  have hab2 : ¬ (b : Int) < (a : Int) := by omega
  rw [hr2, show rbV (true, b, m) = .tuple #[.int .u8 (b : Int), .int .i64 (m : Int), .agg (fc 0 0)] from rfl] at D
  have g0 := fc_at0 0 0
  have g1 := fc_at1 0 0
  have gs : (fc 0 0).size = 2 := rfl
  have go := fc_one 0 0
  generalize fc 0 0 = F2 at *
  have HI2 := hide (show (Try.prog.info? 38).map (·.size) = some F2.size by rw [gs]; exact info_fault)
  go_enter Try.func38, Try.ntmps38
  go_wp2_with fail
  refine (unhide C _).mono ?_
  rintro e w1 ⟨rfl, hb⟩
  have hz : w1.heap[w.heap.size]? = some (.cells #[.int .i64 0, .int .i64 0] 38 (0, 0)) := (hb.block _ (by simp only [World.size_alloc]; omega)).trans (at_new rfl)
  have hg := setRow_heap w1 w.heap.size _ F _ _ hz
  have c0 := (cell_of_row _ _ 0 _ _ _ hg).trans f0
  have c1 := (cell_of_row _ _ 1 _ _ _ hg).trans f1
  have z0 := frozen_of_row _ _ 0 _ _ hg
  have z1 := frozen_of_row _ _ 1 _ _ hg
  have hb1 := bnext ((Below.refl w.heap.size w).alloc (Nat.le_refl _) _) hb
  have HB := hide (below_setRow hb1 w.heap.size (Nat.le_refl _) F)
  have HG := hide hg
  clear hg hb hb1
  go_wp2_with (first | (refine wpList_store_row rfl 38 _ _ rfl w.heap.size F rfl rfl 38 _ hz (unhide HI) fs.symm fo ?_) | fail)
  generalize w1.setRow w.heap.size F = W at *
  refine (unhide D _).mono ?_
  rintro e w2 ⟨rfl, hb2⟩
  have hz2 := row_below (unhide HG) hb2
  have hg2 := setRow_heap w2 w.heap.size _ F2 _ _ hz2
  have c20 := (cell_of_row _ _ 0 _ _ _ hg2).trans g0
  have c21 := (cell_of_row _ _ 1 _ _ _ hg2).trans g1
  have z20 := frozen_of_row _ _ 0 _ _ hg2
  have z21 := frozen_of_row _ _ 1 _ _ hg2
  have HB2 := hide (below_setRow (bnext (unhide HB) hb2) w.heap.size (Nat.le_refl _) F2)
  have HG2 := hide hg2
  clear hg2 hb2
  have hss : F.size = F2.size := fs.trans gs.symm
  go_wp2_with (refine wpList_store_row rfl 38 _ _ rfl w.heap.size F2 rfl rfl 38 _ hz2 (unhide HI2) hss go ?_)
  generalize w2.setRow w.heap.size F2 = W2 at *
  go_region
  go_wp2
  obtain ⟨q0, q1⟩ := two_back (.int .i64 0) (.int .i64 0) (unhide HG2) gs
  refine bodyPost_ret (v := .tuple #[.int .u8 (a : Int), .int .u8 (b : Int), .int .i64 (m : Int), fv 0 0]) ?_ rfl ⟨rfl, (((unhide HB2).setCell (Nat.le_refl _) _).setCell (Nat.le_refl _) _).drew⟩
  simp [results, Try.results38, go_sem, fv, q0, q1]

set_option maxHeartbeats 1000000 in
theorem readRun_low (t : ByteArray) (i a n b m : Nat) (w : World) (ht : t.size ≤ 65536) (hi : i ≤ t.size) (hn : n ≤ t.size) (hr : rb (ch t) i = (true, a, n)) (hc : ch t n = 45) (hr2 : rb (ch t) (n + 1) = (true, b, m)) (hab : b < a) :
    Calls Try.prog 38 #[.string t, .int .i64 (i : Int)] w fun e w' => e = .returned (.tuple #[.int .u8 (a : Int), .int .u8 (b : Int), .int .i64 (m : Int), fv 3 (n + 1)]) ∧ Below w.heap.size w w' := by
  have C := hide (fun W => readByte_any t i W ht hi)
  rw [hr, show rbV (true, a, n) = .tuple #[.int .u8 (a : Int), .int .i64 (n : Int), .agg (fc 0 0)] from rfl] at C
  have f0 := fc_at0 0 0
  have f1 := fc_at1 0 0
  have fs : (fc 0 0).size = 2 := rfl
  have fo := fc_one 0 0
  generalize fc 0 0 = F at *
  have HI := hide (show (Try.prog.info? 38).map (·.size) = some F.size by rw [fs]; exact info_fault)
  have hlt : n < t.size := by
    by_cases h : n < t.size
    · exact h
    · rw [ch_end t n (by omega)] at hc; omega
  have h1 : (n : Int) < (t.size : Int) := by omega
  have h2 : ((n : Int) == (t.size : Int)) = false := by rw [beq_eq_false_iff_ne]; omega
  have hx : ((t[n]).toNat : Int) = 45 := by rw [ch_at t n hlt, hc]; rfl
  have D := hide (fun W => readByte_any t (n + 1) W ht (by omega))
  rw [show (((n + 1 : Nat)) : Int) = (n : Int) + 1 by omega] at D
  have hab2 : (b : Int) < (a : Int) := by omega
  rw [hr2, show rbV (true, b, m) = .tuple #[.int .u8 (b : Int), .int .i64 (m : Int), .agg (fc 0 0)] from rfl] at D
  have g0 := fc_at0 0 0
  have g1 := fc_at1 0 0
  have gs : (fc 0 0).size = 2 := rfl
  have go := fc_one 0 0
  generalize fc 0 0 = F2 at *
  have HI2 := hide (show (Try.prog.info? 38).map (·.size) = some F2.size by rw [gs]; exact info_fault)
  go_enter Try.func38, Try.ntmps38
  go_wp2_with fail
  refine (unhide C _).mono ?_
  rintro e w1 ⟨rfl, hb⟩
  have hz : w1.heap[w.heap.size]? = some (.cells #[.int .i64 0, .int .i64 0] 38 (0, 0)) := (hb.block _ (by simp only [World.size_alloc]; omega)).trans (at_new rfl)
  have hg := setRow_heap w1 w.heap.size _ F _ _ hz
  have c0 := (cell_of_row _ _ 0 _ _ _ hg).trans f0
  have c1 := (cell_of_row _ _ 1 _ _ _ hg).trans f1
  have z0 := frozen_of_row _ _ 0 _ _ hg
  have z1 := frozen_of_row _ _ 1 _ _ hg
  have hb1 := bnext ((Below.refl w.heap.size w).alloc (Nat.le_refl _) _) hb
  have HB := hide (below_setRow hb1 w.heap.size (Nat.le_refl _) F)
  have HG := hide hg
  clear hg hb hb1
  go_wp2_with (first | (refine wpList_store_row rfl 38 _ _ rfl w.heap.size F rfl rfl 38 _ hz (unhide HI) fs.symm fo ?_) | fail)
  generalize w1.setRow w.heap.size F = W at *
  refine (unhide D _).mono ?_
  rintro e w2 ⟨rfl, hb2⟩
  have hz2 := row_below (unhide HG) hb2
  have hg2 := setRow_heap w2 w.heap.size _ F2 _ _ hz2
  have c20 := (cell_of_row _ _ 0 _ _ _ hg2).trans g0
  have c21 := (cell_of_row _ _ 1 _ _ _ hg2).trans g1
  have z20 := frozen_of_row _ _ 0 _ _ hg2
  have z21 := frozen_of_row _ _ 1 _ _ hg2
  have HB2 := hide (below_setRow (bnext (unhide HB) hb2) w.heap.size (Nat.le_refl _) F2)
  have HG2 := hide hg2
  clear hg2 hb2
  have hss : F.size = F2.size := fs.trans gs.symm
  go_wp2_with (refine wpList_store_row rfl 38 _ _ rfl w.heap.size F2 rfl rfl 38 _ hz2 (unhide HI2) hss go ?_)
  have hg3 := heap_setCell_same _ w.heap.size 1 _ _ (.int .i64 ((n : Int) + 1)) (heap_setCell_same _ w.heap.size 0 _ _ (.int .i64 3) (unhide HG2))
  have c30 := (cell_of_row _ _ 0 _ _ _ hg3).trans (show ((F2.setIfInBounds 0 (.int .i64 3)).setIfInBounds 1 (.int .i64 ((n : Int) + 1)))[0]? = some (.int .i64 3) by
    rw [Array.getElem?_setIfInBounds_ne (by omega), Array.getElem?_setIfInBounds_self_of_lt (by omega)])
  have c31 := (cell_of_row _ _ 1 _ _ _ hg3).trans (show ((F2.setIfInBounds 0 (.int .i64 3)).setIfInBounds 1 (.int .i64 ((n : Int) + 1)))[1]? = some (.int .i64 ((n : Int) + 1)) by
    rw [Array.getElem?_setIfInBounds_self_of_lt (by simp; omega)])
  have z30 := frozen_of_row _ _ 0 _ _ hg3
  have z31 := frozen_of_row _ _ 1 _ _ hg3
  have hs3 : ((F2.setIfInBounds 0 (.int .i64 3)).setIfInBounds 1 (.int .i64 ((n : Int) + 1))).size = 2 := by simp [gs]
  have HG3 := hide hg3
  have HB3 := hide (((unhide HB2).setCell (p := ⟨w.heap.size, 0, none⟩) (Nat.le_refl _) (.int .i64 3)).setCell (p := ⟨w.heap.size, 1, none⟩) (Nat.le_refl _) (.int .i64 ((n : Int) + 1)))
  clear hg3
  generalize (F2.setIfInBounds 0 (.int .i64 3)).setIfInBounds 1 (.int .i64 ((n : Int) + 1)) = F3 at *
  generalize ((w2.setRow w.heap.size F2).setCell ⟨w.heap.size, 0, none⟩ (.int .i64 3)).setCell ⟨w.heap.size, 1, none⟩ (.int .i64 ((n : Int) + 1)) = W3 at *
  clear c0 c1 c20 c21 z0 z1 z20 z21
  go_region
  go_wp2
  obtain ⟨q0, q1⟩ := two_back (.int .i64 3) (.int .i64 ((n : Int) + 1)) (unhide HG3) hs3
  refine bodyPost_ret (v := .tuple #[.int .u8 (a : Int), .int .u8 (b : Int), .int .i64 (m : Int), fv 3 (n + 1)]) ?_ rfl ⟨rfl, (((unhide HB3).setCell (Nat.le_refl _) _).setCell (Nat.le_refl _) _).drew⟩
  simp [results, Try.results38, go_sem, fv, q0, q1]

theorem rb_next (t : ByteArray) (i : Nat) (hi : i ≤ t.size) (h : (rb (ch t) i).1 = true) : i < (rb (ch t) i).2.2 ∧ (rb (ch t) i).2.2 ≤ t.size ∧ (rb (ch t) i).2.1 < 256 := by
  have hz : ∀ j, t.size ≤ j → ch t j = 0 := fun j hj => ch_end t j hj
  unfold rb at h ⊢
  split
  · rename_i hp
    refine ⟨by simp only; omega, ?_, ch_lt _ _⟩
    by_cases he : i = t.size
    · rw [hz i (by omega), plain_zero] at hp; cases hp
    · simp only; omega
  · rename_i hp
    rw [if_neg hp] at h
    split
    · rename_i h2; rw [if_pos h2] at h; cases h
    · rename_i h2
      rw [if_neg h2] at h
      split
      · rename_i h3; rw [if_pos h3] at h; cases h
      · rename_i h3
        rw [if_neg h3] at h
        split
        · rename_i h4; rw [if_pos h4] at h; cases h
        · rename_i h4
          have h3' : hexN (ch t (i + 1)) = true := by simpa using h3
          have h4' : hexN (ch t (i + 2)) = true := by simpa using h4
          have l1 := hexVal_lt h3'
          have l2 := hexVal_lt h4'
          refine ⟨by simp only; omega, ?_, by simp only; omega⟩
          by_cases he : i + 2 < t.size
          · simp only; omega
          · rw [hz (i + 2) (by omega), hex_zero] at h4'; cases h4'
theorem rb_bad (c : Nat → Nat) (i : Nat) (h : (rb c i).1 = false) : rb c i = (false, 0, (rb c i).2.2) := by
  unfold rb at h ⊢
  split
  · rename_i hp; rw [if_pos hp] at h; cases h
  · rename_i hp
    rw [if_neg hp] at h
    split
    · rfl
    · rename_i h2
      rw [if_neg h2] at h
      split
      · rfl
      · rename_i h3
        rw [if_neg h3] at h
        split
        · rfl
        · rename_i h4
          rw [if_neg h4] at h
          cases h
theorem rb_good (c : Nat → Nat) (i : Nat) (h : (rb c i).1 = true) : rb c i = (true, (rb c i).2.1, (rb c i).2.2) := by rw [← h]

theorem readRun_any (t : ByteArray) (i : Nat) (w : World) (ht : t.size ≤ 65536) (hi : i ≤ t.size) :
    Calls Try.prog 38 #[.string t, .int .i64 (i : Int)] w fun e w' => e = .returned (rrV (rr (ch t) i)) ∧ Below w.heap.size w w' := by
  unfold rr
  cases h1 : (rb (ch t) i).1 with
  | false =>
    rw [if_pos rfl]
    exact readRun_bad t i _ w ht hi (rb_bad _ _ h1)
  | true =>
    rw [if_neg (by decide)]
    have hn := (rb_next t i hi h1).2.1
    have hr := rb_good _ _ h1
    generalize (rb (ch t) i).2.1 = a at *
    generalize (rb (ch t) i).2.2 = n at *
    by_cases hc : ch t n = 45
    · rw [if_neg (by omega)]
      cases h2 : (rb (ch t) (n + 1)).1 with
      | false =>
        rw [if_pos rfl]
        exact readRun_bad2 t i a n _ w ht hi hn hr hc (rb_bad _ _ h2)
      | true =>
        rw [if_neg (by decide)]
        have hr2 := rb_good _ _ h2
        generalize (rb (ch t) (n + 1)).2.1 = b at *
        generalize (rb (ch t) (n + 1)).2.2 = m at *
        by_cases hab : b < a
        · rw [if_pos hab]
          exact readRun_low t i a n b m w ht hi hn hr hc hr2 hab
        · rw [if_neg hab]
          exact readRun_ok t i a n b m w ht hi hn hr hc hr2 hab
    · rw [if_pos hc]
      exact readRun_alone t i a n w ht hi hn hr hc
end Go.Proofs.Ytgamnhmkimonnaa
