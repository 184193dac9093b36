/- The checker: look, whole. The checker: Check, whole. -/
import Derived.Test.YtpphjddljngkmaaDoorCkSP
import Derived.Deep.OwnRows
namespace Go.Proofs.YtpphjddljngkmaaDoor
open Go.RowKit

section
variable {w W : World} {B z bl bf : Nat} {V : PV} {P : List SV}
theorem env_cells {n : Nat} {c : CS} (hE : Env B w V P) (hM : CkM B z bl bf n (V.v P.length) c W) (hb : Below B w W) : W.cell? ⟨z, 4, none⟩ = some (V.v P.length) ∧ W.cell? ⟨z, 0, none⟩ = some (.int .i64 c.er) ∧ PIn W V P := ⟨hM.c4, hM.c0, hE.prog W hb⟩
theorem useA (hE : Env B w V P) (hM : CkM B z bl bf 0 (V.v P.length) (CS.start P) W) (hb : Below B w W) :
    Calls Tryd.prog 21 #[.pointer (some ⟨z, 0, none⟩), .func (.func 22) #[.pointer (some ⟨z, 0, none⟩)] #[]] W fun e w' => e = .returned (.tuple #[]) ∧ CkM B z bl bf 0 (V.v P.length) (look1 P) w' ∧ Below B w w' ∧ ((look1 P).er = 0 → P.length ≤ 1000) := by
  refine (round_A z V P (fun _ c W => CkM B z bl bf 0 (V.v P.length) c W ∧ Below B w W ∧ (c.er = 0 → P.length ≤ 1000)) CS.alone (fun _ c W q => env_cells hE q.1 q.2.1) (fun _ c W o q => ⟨q.1.later (ba _), q.2.1.trans (((Below.refl _ _).alloc (Nat.le_refl _) o).mono q.1.le), q.2.2⟩) (fun i c W S hS he q => ?_) (CS.start P) W ⟨hM, hb, fun h => ?_⟩).mono fun e w' q => ⟨q.1, by obtain ⟨k, h⟩ := q.2; exact h⟩
  · exact (alone_any S W B z bl bf 0 i (V.v P.length) c (hE.stmt hS W q.2.1) (hE.shx W q.2.1) (hE.shp W q.2.1) q.1).mono fun e w' r => ⟨r.1, r.2.1, q.2.1.trans r.2.2, fun _ => q.2.2 he⟩
  · have := (tellIf_ok (show ((⟨0, 0, fun _ => none, fun _ => none⟩ : CS).tellIf (decide (1000 < P.length)) 5 0).er = 0 from h) (by decide)).2.2
    simpa using this
theorem useL (hE : Env B w V P) (hM : CkM B z bl bf 0 (V.v P.length) (look1 P) W) (hb : Below B w W) (hl : (look1 P).er = 0 → P.length ≤ 1000) :
    Calls Tryd.prog 21 #[.pointer (some ⟨z, 0, none⟩), .func (.func 23) #[.pointer (some ⟨z, 0, none⟩)] #[]] W fun e w' => e = .returned (.tuple #[]) ∧ (∃ n, CkM B z bl bf n (V.v P.length) (look2 P) w') ∧ Below B w w' := by
  refine (round_L z V P (fun i c W => CkM B z bl bf (2 * i) (V.v P.length) c W ∧ Below B w W ∧ (c.er = 0 → P.length ≤ 1000 ∧ ∀ S ∈ P, S.wrong = 0)) CS.learn (fun _ c W q => env_cells hE q.1 q.2.1) (fun _ c W o q => ⟨q.1.later (ba _), q.2.1.trans (((Below.refl _ _).alloc (Nat.le_refl _) o).mono q.1.le), q.2.2⟩) (fun i c W S hS he q => ?_) (look1 P) W ⟨hM, hb, fun h => ⟨hl h, alone_all P 0 _ h⟩⟩).mono fun e w' q => ⟨q.1, by obtain ⟨k, h⟩ := q.2; exact ⟨⟨_, h.1⟩, h.2.1⟩⟩
  obtain ⟨h1, h2⟩ := q.2.2 he
  have hi : i < P.length := (List.getElem?_eq_some_iff.1 hS).1
  exact (learn_any S W B z bl bf (2 * i) i (V.v P.length) c (fun W' q' => hE.stmt hS W' (q.2.1.trans q')) (eight (h2 S (List.mem_of_getElem? hS))) q.1 (by omega) (by omega)).mono fun e w' r => ⟨r.1, r.2.1, q.2.1.trans r.2.2, fun _ => ⟨h1, h2⟩⟩
theorem useF {n : Nat} (hE : Env B w V P) (hM : CkM B z bl bf n (V.v P.length) (look2 P) W) (hb : Below B w W) :
    Calls Tryd.prog 21 #[.pointer (some ⟨z, 0, none⟩), .func (.func 24) #[.pointer (some ⟨z, 0, none⟩)] #[]] W fun e w' => e = .returned (.tuple #[]) ∧ CkM B z bl bf n (V.v P.length) (lookS P) w' ∧ Below B w w' := by
  refine (round_F z V P (fun _ c W => CkM B z bl bf n (V.v P.length) c W ∧ Below B w W ∧ Good P P.length c) (CS.follow P) (fun _ c W q => env_cells hE q.1 q.2.1) (fun _ c W o q => ⟨q.1.later (ba _), q.2.1.trans (((Below.refl _ _).alloc (Nat.le_refl _) o).mono q.1.le), q.2.2⟩) (fun i c W S hS he q => ?_) (look2 P) W ⟨hM, hb, good_look2 P⟩).mono fun e w' q => ⟨q.1, by obtain ⟨k, h⟩ := q.2; exact ⟨h.1, h.2.1⟩⟩
  exact (follow_any S W B z bl bf n i V P c (fun W' q' => hE.stmt hS W' (q.2.1.trans q')) (hE.next q.2.1) q.1 q.2.2).mono fun e w' r => ⟨r.1, r.2.1, q.2.1.trans r.2.2, q.2.2.of (follow_fl P c _ S).1 (follow_fl P c _ S).2⟩
end
def LookPost (w : World) (V : PV) (P : List SV) (e : Ending) (w' : World) : Prop := ∃ z bl bf n, e = .returned (.pointer (some ⟨z, 0, none⟩)) ∧ CkM w.heap.size z bl bf n (V.v P.length) (lookS P) w' ∧ Below w.heap.size w w'
set_option maxRecDepth 100000 in
set_option maxHeartbeats 4000000 in
theorem look_any (w : World) (V : PV) (P : List SV) (hE : Env w.heap.size w V P) : Calls Tryd.prog 10 #[V.v P.length] w (LookPost w V P) := by
  have hpm := hE.prog w (Below.refl _ _)
  have hmx := hpm.max
  unfold maxLen at hmx
  have hcap := hpm.cap
  have HE := hide hE
  have hmm := @run_makeMap Tryd.prog
  have hmf : ∀ (fn : Fn) (first cap : Array Value) (w : World), (Instr.makeFunc fn first cap).run Tryd.prog w = .ok (.func fn first cap) w := fun _ _ _ _ => rfl
  obtain ⟨w1, hw1⟩ : ∃ w1, w1 = ((w.alloc (.map #[] 0)).alloc (.map #[] 0)).alloc (.cells #[.int .i64 0, .int .i64 0, .map (some w.heap.size), .map (some (w.heap.size + 1)), .slice V.xa P.length V.cap] 38) := ⟨_, rfl⟩
  have hb1 : Below w.heap.size w w1 := by rw [hw1]; exact ((ba _).alloc (by rw [World.size_alloc]; omega) _).alloc (by rw [World.size_alloc, World.size_alloc]; omega) _
  have hM1 : CkM w.heap.size (w.heap.size + 2) w.heap.size (w.heap.size + 1) 0 (V.v P.length) ⟨0, 0, fun _ => none, fun _ => none⟩ w1 := by
    refine ⟨⟨?_⟩, ?_, ?_, by omega, by omega, by omega, by omega, by omega, by omega⟩
    · rw [hw1]; exact at_new (by simp only [World.size_alloc])
    · refine MI.below (w := w.alloc (.map #[] 0)) MI.new ?_
      rw [hw1, Below.heap_alloc _ _ _ (by simp only [World.size_alloc]; omega), Below.heap_alloc _ _ _ (by simp only [World.size_alloc]; omega)]
    · have h := MI.new (w := w.alloc (.map #[] 0))
      rw [World.size_alloc] at h
      refine h.below ?_
      rw [hw1, Below.heap_alloc _ _ _ (by simp only [World.size_alloc]; omega)]
  have HM1 := hide hM1
  have HB1 := hide hb1
  have HRW := hide hw1
  have HSt : Hid (CS.start P = (⟨0, 0, fun _ => none, fun _ => none⟩ : CS).tellIf (decide (1000 < P.length)) 5 0) := hide (rfl)
  clear hE hpm hM1 hb1 hw1
  unfold PV.v
  go_enter Tryd.func10, Tryd.ntmps10
  go_upto_if 12 with fail
  rw [show ((w.alloc (.map #[] 0)).alloc (.map #[] 0)).alloc (.cells #[.int .i64 0, .int .i64 0, .map (some w.heap.size), .map (some (w.heap.size + 1)), .slice V.xa P.length V.cap] 38) = w1 from (unhide HRW).symm]
  go_cut [] from 12 (fun wx => Hid (CkM w.heap.size (w.heap.size + 2) w.heap.size (w.heap.size + 1) 0 (V.v P.length) (CS.start P) wx ∧ Below w.heap.size w wx))
  case first =>
    by_cases hl : 1000 < P.length
    · have HT := hide (tell_M (unhide HM1) 5 0)
      have ql : (1000 : Int) < (P.length : Int) := by omega
      have HS2 : Hid (CS.start P = (⟨0, 0, fun _ => none, fun _ => none⟩ : CS).tell 5 0) := hide (by rw [unhide HSt, CS.tellIf, if_pos (decide_eq_true hl)])
      clear hl
      go_wp2_with fail
      refine (unhide HT).mono ?_
      rintro e w2 ⟨rfl, hb2, hM2⟩
      have HZ : Hid (CkM w.heap.size (w.heap.size + 2) w.heap.size (w.heap.size + 1) 0 (V.v P.length) (CS.start P) w2 ∧ Below w.heap.size w w2) := hide (⟨by rw [unhide HS2]; exact hM2, (unhide HB1).trans (hb2.belowB (by omega) (unhide HB1).size)⟩)
      clear hb2 hM2
      go_wp2_with fail
      go_meet
      case rel => exact unhide HZ
    · have ql : ¬ (1000 : Int) < (P.length : Int) := by omega
      have HZ : Hid (CkM w.heap.size (w.heap.size + 2) w.heap.size (w.heap.size + 1) 0 (V.v P.length) (CS.start P) w1 ∧ Below w.heap.size w w1) := hide (⟨by rw [unhide HSt, CS.tellIf, if_neg (by rw [decide_eq_false hl]; decide)]; exact unhide HM1, unhide HB1⟩)
      clear hl
      go_wp2_with fail
      go_meet
      case rel => exact unhide HZ
  case rest =>
    go_wp2_with fail
    refine (useA (unhide HE) (unhide hcut).1 (unhide hcut).2).mono ?_
    rintro e w3 ⟨rfl, hM3, hb3, hl3⟩
    have HL := hide (useL (unhide HE) hM3 hb3 hl3)
    clear hM3 hb3 hl3
    go_wp2_with fail
    refine (unhide HL).mono ?_
    rintro e w4 ⟨rfl, ⟨n, hM4⟩, hb4⟩
    have HF := hide (useF (unhide HE) hM4 hb4)
    clear hM4 hb4
    go_wp2_with fail
    refine (unhide HF).mono ?_
    rintro e w5 ⟨rfl, hM5, hb5⟩
    have HZ := hide (And.intro hM5 hb5)
    clear hM5 hb5
    go_wp2_with fail
    go_ret
    exact ⟨_, _, _, n, rfl, unhide HZ⟩
end Go.Proofs.YtpphjddljngkmaaDoor

namespace Go.Proofs.YtpphjddljngkmaaDoor
open Go.RowKit

theorem size_fau : (Tryd.prog.info? 25).map (·.size) = some 2 := by kernel_rfl
/-- Check: what is wrong first. -/
def ChkPost (w : World) (P : List SV) (e : Ending) (w' : World) : Prop := e = .returned (.agg #[.int .i64 (lookS P).er, .int .i64 (lookS P).at_]) ∧ Below w.heap.size w w'
set_option maxRecDepth 100000 in
set_option maxHeartbeats 4000000 in
theorem check_any (w : World) (V : PV) (P : List SV) (hE : Env w.heap.size w V P) : Calls Tryd.prog 4 #[V.v P.length] w (ChkPost w P) := by
  have hk0 := (Below.refl w.heap.size w).alloc (Nat.le_refl _) (.cells #[.int .i64 0, .int .i64 0] 25)
  have HK := hide hk0
  have HLK := hide (look_any (w.alloc (.cells #[.int .i64 0, .int .i64 0] 25)) V P ⟨fun W q => hE.prog W (bnext hk0 q), fun W q => hE.shx W (bnext hk0 q), fun W q => hE.shp W (bnext hk0 q)⟩)
  clear hE hk0
  go_enter Tryd.func4, Tryd.ntmps4
  go_wp2_with fail
  refine (unhide HLK).mono ?_
  rintro e w2 ⟨z, bl, bf, n, rfl, hM, hb⟩
  have c0 := hM.c0
  have c1 := hM.c1
  have hf0 : w2.heap[w.heap.size]? = some (.cells #[.int .i64 0, .int .i64 0] 25 (0, 0)) := row_below (at_new rfl) hb
  have HB := hide (bnext (unhide HK) hb)
  have hzB := hM.oz
  rw [World.size_alloc] at hzB
  have g0 : w2.cell? ⟨w.heap.size, 0, none⟩ = some (.int .i64 0) := cr hf0
  have g1 : w2.cell? ⟨w.heap.size, 1, none⟩ = some (.int .i64 0) := cr hf0
  have r0 := frozen_of_row w2 w.heap.size 0 _ _ hf0
  have r1 := frozen_of_row w2 w.heap.size 1 _ _ hf0
  generalize her : (lookS P).er = er at *
  generalize hat2 : (lookS P).at_ = at2 at *
  have HQ := hide (And.intro her hat2)
  have HF3 : Hid (((w2.setCell ⟨w.heap.size, 0, none⟩ (.int .i64 er)).setCell ⟨w.heap.size, 1, none⟩ (.int .i64 at2)).heap[w.heap.size]? = some (.cells #[.int .i64 er, .int .i64 at2] 25 (0, 0))) := hide (heap_setCell_same _ _ 1 _ _ _ (heap_setCell_same _ _ 0 _ _ _ hf0))
  have HBZ := hide (below_cell (below_cell (unhide HB) (Nat.le_refl _) 0 (.int .i64 er)) (Nat.le_refl _) 1 (.int .i64 at2))
  have hzn : ¬ z = w.heap.size := by omega
  have hzn2 : ¬ w.heap.size = z := by omega
  clear hM hb hf0 HLK her hat2
  go_wp2_with fail
  refine bodyPost_ret (results_cell_row (p := 2) (ty := 25) rfl _ _ w.heap.size 25 #[.int .i64 er, .int .i64 at2] (0, 0) _ rfl (unhide HF3) Tryd.underlying25 rfl size_fau) rfl ?_
  exact ⟨by rw [(unhide HQ).1, (unhide HQ).2], unhide HBZ⟩
end Go.Proofs.YtpphjddljngkmaaDoor
