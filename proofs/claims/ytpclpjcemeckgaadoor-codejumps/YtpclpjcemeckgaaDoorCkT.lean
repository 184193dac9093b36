/- The checker: look, whole. -/
import Derived.Test.YtpclpjcemeckgaaDoorCkS
namespace Go.Proofs.YtpclpjcemeckgaaDoor
open Go.RowKit

section
variable {w W : World} {B z bl bf : Nat} {V : PV} {P : List SV}
theorem env_cells {n : Nat} {c : CS} (hE : Env B w V P) (hM : CkM B z bl bf n (V.v P.length) c W) (hb : Below B w W) : W.cell? ⟨z, 4, none⟩ = some (V.v P.length) ∧ W.cell? ⟨z, 0, none⟩ = some (.int .i64 c.er) ∧ PIn W V P := ⟨hM.c4, hM.c0, hE.prog W hb⟩
theorem useA (hE : Env B w V P) (hM : CkM B z bl bf 0 (V.v P.length) (CS.start P) W) (hb : Below B w W) :
    Calls Tryd.prog 16 #[.pointer (some ⟨z, 0, none⟩), .func (.func 17) #[.pointer (some ⟨z, 0, none⟩)] #[]] W fun e w' => e = .returned (.tuple #[]) ∧ CkM B z bl bf 0 (V.v P.length) (look1 P) w' ∧ Below B w w' ∧ ((look1 P).er = 0 → P.length ≤ 1000) := by
  refine (round_A z V P (fun _ c W => CkM B z bl bf 0 (V.v P.length) c W ∧ Below B w W ∧ (c.er = 0 → P.length ≤ 1000)) CS.alone (fun _ c W q => env_cells hE q.1 q.2.1) (fun _ c W o q => ⟨q.1.later ((Below.refl _ _).alloc (Nat.le_refl _) _), q.2.1.trans (((Below.refl _ _).alloc (Nat.le_refl _) o).mono q.1.le), q.2.2⟩) (fun i c W S hS he q => ?_) (CS.start P) W ⟨hM, hb, fun h => ?_⟩).mono fun e w' q => ⟨q.1, by obtain ⟨k, h⟩ := q.2; exact h⟩
  · exact (alone_any S W B z bl bf 0 i (V.v P.length) c (hE.stmt hS W q.2.1) (hE.shx W q.2.1) (hE.shp W q.2.1) q.1).mono fun e w' r => ⟨r.1, r.2.1, q.2.1.trans r.2.2, fun _ => q.2.2 he⟩
  · have := (tellIf_ok (show ((⟨0, 0, fun _ => none, fun _ => none⟩ : CS).tellIf (decide (1000 < P.length)) 5 0).er = 0 from h) (by decide)).2.2
    simpa using this
theorem useL (hE : Env B w V P) (hM : CkM B z bl bf 0 (V.v P.length) (look1 P) W) (hb : Below B w W) (hl : (look1 P).er = 0 → P.length ≤ 1000) :
    Calls Tryd.prog 16 #[.pointer (some ⟨z, 0, none⟩), .func (.func 18) #[.pointer (some ⟨z, 0, none⟩)] #[]] W fun e w' => e = .returned (.tuple #[]) ∧ (∃ n, CkM B z bl bf n (V.v P.length) (look2 P) w') ∧ Below B w w' := by
  refine (round_L z V P (fun i c W => CkM B z bl bf (2 * i) (V.v P.length) c W ∧ Below B w W ∧ (c.er = 0 → P.length ≤ 1000 ∧ ∀ S ∈ P, S.wrong = 0)) CS.learn (fun _ c W q => env_cells hE q.1 q.2.1) (fun _ c W o q => ⟨q.1.later ((Below.refl _ _).alloc (Nat.le_refl _) _), q.2.1.trans (((Below.refl _ _).alloc (Nat.le_refl _) o).mono q.1.le), q.2.2⟩) (fun i c W S hS he q => ?_) (look1 P) W ⟨hM, hb, fun h => ⟨hl h, alone_all P 0 _ h⟩⟩).mono fun e w' q => ⟨q.1, by obtain ⟨k, h⟩ := q.2; exact ⟨⟨_, h.1⟩, h.2.1⟩⟩
  obtain ⟨h1, h2⟩ := q.2.2 he
  have hi : i < P.length := (List.getElem?_eq_some_iff.1 hS).1
  exact (learn_any S W B z bl bf (2 * i) i (V.v P.length) c (fun W' q' => hE.stmt hS W' (q.2.1.trans q')) (eight (h2 S (List.mem_of_getElem? hS))) q.1 (by omega) (by omega)).mono fun e w' r => ⟨r.1, r.2.1, q.2.1.trans r.2.2, fun _ => ⟨h1, h2⟩⟩
theorem useF {n : Nat} (hE : Env B w V P) (hM : CkM B z bl bf n (V.v P.length) (look2 P) W) (hb : Below B w W) :
    Calls Tryd.prog 16 #[.pointer (some ⟨z, 0, none⟩), .func (.func 19) #[.pointer (some ⟨z, 0, none⟩)] #[]] W fun e w' => e = .returned (.tuple #[]) ∧ CkM B z bl bf n (V.v P.length) (lookS P) w' ∧ Below B w w' := by
  refine (round_F z V P (fun _ c W => CkM B z bl bf n (V.v P.length) c W ∧ Below B w W ∧ Good P P.length c) (CS.follow P) (fun _ c W q => env_cells hE q.1 q.2.1) (fun _ c W o q => ⟨q.1.later ((Below.refl _ _).alloc (Nat.le_refl _) _), q.2.1.trans (((Below.refl _ _).alloc (Nat.le_refl _) o).mono q.1.le), q.2.2⟩) (fun i c W S hS he q => ?_) (look2 P) W ⟨hM, hb, good_look2 P⟩).mono fun e w' q => ⟨q.1, by obtain ⟨k, h⟩ := q.2; exact ⟨h.1, h.2.1⟩⟩
  exact (follow_any S W B z bl bf n i V P c (fun W' q' => hE.stmt hS W' (q.2.1.trans q')) (hE.next q.2.1) q.1 q.2.2).mono fun e w' r => ⟨r.1, r.2.1, q.2.1.trans r.2.2, q.2.2.of (follow_fl P c _ S).1 (follow_fl P c _ S).2⟩
end
def LookPost (w : World) (V : PV) (P : List SV) (e : Ending) (w' : World) : Prop := ∃ z bl bf n, e = .returned (.pointer (some ⟨z, 0, none⟩)) ∧ CkM w.heap.size z bl bf n (V.v P.length) (lookS P) w' ∧ Below w.heap.size w w'
set_option maxRecDepth 100000 in
set_option maxHeartbeats 4000000 in
theorem look_any (w : World) (V : PV) (P : List SV) (hE : Env w.heap.size w V P) : Calls Tryd.prog 12 #[V.v P.length] w (LookPost w V P) := by
  have hpm := hE.prog w (Below.refl _ _)
  have hmx := hpm.max
  unfold maxLen at hmx
  have hcap := hpm.cap
  have HE := hide hE
  have hmm := @run_makeMap Tryd.prog
  have hmf : ∀ (fn : Fn) (first cap : Array Value) (w : World), (Instr.makeFunc fn first cap).run Tryd.prog w = .ok (.func fn first cap) w := fun _ _ _ _ => rfl
  obtain ⟨w1, hw1⟩ : ∃ w1, w1 = ((w.alloc (.map #[] 0)).alloc (.map #[] 0)).alloc (.cells #[.int .i64 0, .int .i64 0, .map (some w.heap.size), .map (some (w.heap.size + 1)), .slice V.xa P.length V.cap] 57) := ⟨_, rfl⟩
  have hb1 : Below w.heap.size w w1 := by rw [hw1]; exact (((Below.refl _ _).alloc (Nat.le_refl _) _).alloc (by rw [World.size_alloc]; omega) _).alloc (by rw [World.size_alloc, World.size_alloc]; omega) _
  have hM1 : CkM w.heap.size (w.heap.size + 2) w.heap.size (w.heap.size + 1) 0 (V.v P.length) ⟨0, 0, fun _ => none, fun _ => none⟩ w1 := by
    refine ⟨⟨?_⟩, ?_, ?_, by omega, by omega, by omega, by omega, by omega, by omega⟩
    · rw [hw1]; exact at_new (by simp only [World.size_alloc])
    · refine MI.below (w := w.alloc (.map #[] 0)) MI.new ?_
      rw [hw1, Below.heap_alloc _ _ _ (by simp only [World.size_alloc]; omega), Below.heap_alloc _ _ _ (by simp only [World.size_alloc]; omega)]
    · have h := MI.new (w := w.alloc (.map #[] 0))
      rw [World.size_alloc] at h
      refine h.below ?_
      rw [hw1, Below.heap_alloc _ _ _ (by simp only [World.size_alloc]; omega)]
  have HM1 := hide hM1
  have HB1 := hide hb1
  have HRW := hide hw1
  have HSt := hide (show CS.start P = (⟨0, 0, fun _ => none, fun _ => none⟩ : CS).tellIf (decide (1000 < P.length)) 5 0 from rfl)
  clear hE hpm hM1 hb1 hw1
  unfold PV.v
  go_enter Tryd.func12, Tryd.ntmps12
  go_upto_if 12 with fail
  rw [show ((w.alloc (.map #[] 0)).alloc (.map #[] 0)).alloc (.cells #[.int .i64 0, .int .i64 0, .map (some w.heap.size), .map (some (w.heap.size + 1)), .slice V.xa P.length V.cap] 57) = w1 from (unhide HRW).symm]
  go_cut [] from 12 (fun wx => Hid (CkM w.heap.size (w.heap.size + 2) w.heap.size (w.heap.size + 1) 0 (V.v P.length) (CS.start P) wx ∧ Below w.heap.size w wx))
  case first =>
    by_cases hl : 1000 < P.length
    · have HT := hide (tell_M (unhide HM1) 5 0)
      have ql : (1000 : Int) < (P.length : Int) := by omega
      have HS2 := hide (show CS.start P = (⟨0, 0, fun _ => none, fun _ => none⟩ : CS).tell 5 0 by rw [unhide HSt, CS.tellIf, if_pos (decide_eq_true hl)])
      clear hl
      go_wp2_with fail
      refine (unhide HT).mono ?_
      rintro e w2 ⟨rfl, hb2, hM2⟩
      have HZ := hide (show CkM w.heap.size (w.heap.size + 2) w.heap.size (w.heap.size + 1) 0 (V.v P.length) (CS.start P) w2 ∧ Below w.heap.size w w2 from ⟨by rw [unhide HS2]; exact hM2, (unhide HB1).trans (hb2.belowB (by omega) (unhide HB1).size)⟩)
      clear hb2 hM2
      go_wp2_with fail
      go_meet
      case rel => exact unhide HZ
    · have ql : ¬ (1000 : Int) < (P.length : Int) := by omega
      have HZ := hide (show CkM w.heap.size (w.heap.size + 2) w.heap.size (w.heap.size + 1) 0 (V.v P.length) (CS.start P) w1 ∧ Below w.heap.size w w1 from ⟨by rw [unhide HSt, CS.tellIf, if_neg (by rw [decide_eq_false hl]; decide)]; exact unhide HM1, unhide HB1⟩)
      clear hl
      go_wp2_with fail
      go_meet
      case rel => exact unhide HZ
  case rest =>
    go_wp2_with fail
    refine (useA (unhide HE) (unhide hcut).1 (unhide hcut).2).mono ?_
    rintro e w3 ⟨rfl, hM3, hb3, hl3⟩
    have HL := hide (useL (unhide HE) hM3 hb3 hl3)
    clear hM3 hb3 hl3
    go_wp2_with fail
    refine (unhide HL).mono ?_
    rintro e w4 ⟨rfl, ⟨n, hM4⟩, hb4⟩
    have HF := hide (useF (unhide HE) hM4 hb4)
    clear hM4 hb4
    go_wp2_with fail
    refine (unhide HF).mono ?_
    rintro e w5 ⟨rfl, hM5, hb5⟩
    have HZ := hide (And.intro hM5 hb5)
    clear hM5 hb5
    go_wp2_with fail
    go_ret
    exact ⟨_, _, _, n, rfl, unhide HZ⟩
end Go.Proofs.YtpclpjcemeckgaaDoor
