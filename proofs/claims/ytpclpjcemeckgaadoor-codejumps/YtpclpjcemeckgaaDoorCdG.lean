/- Make, whole. -/
import Derived.Test.YtpclpjcemeckgaaDoorCdF
namespace Go.Proofs.YtpclpjcemeckgaaDoor
open Go.RowKit

/-- What Make hands back: the fault, or the instructions and where statements begin. -/
def MakePost (w : World) (P : List SV) (e : Ending) (w' : World) : Prop :=
  (((lookS P).er ≠ 0 ∧ e = .returned (.tuple #[.slice none 0 0, .slice none 0 0, .agg #[.int .i64 (lookS P).er, .int .i64 (lookS P).at_]])) ∨
    ((lookS P).er = 0 ∧ ∃ ov sv, e = .returned (.tuple #[ov, sv, .agg #[.int .i64 0, .int .i64 0]]) ∧ Row w' w.heap.size 33 4 iC ov (codL (labF P) P) ∧ Row w' w.heap.size 3 1 nI sv (stsTo (labF P) P P.length))) ∧ Below w.heap.size w w'
set_option maxRecDepth 100000 in
set_option maxHeartbeats 8000000 in
theorem make_any (w : World) (V : PV) (P : List SV) (hE : Env w.heap.size w V P) (ht : TensAt w) : Calls Tryd.prog 6 #[V.v P.length] w (MakePost w P) := by
  have hk0 := (Below.refl w.heap.size w).alloc (Nat.le_refl _) (.cells #[.int .i64 0, .int .i64 0] 28)
  have HK := hide hk0
  have HCK := hide (check_any (w.alloc (.cells #[.int .i64 0, .int .i64 0] 28)) V P ⟨fun W q => hE.prog W (bnext hk0 q), fun W q => hE.shx W (bnext hk0 q), fun W q => hE.shp W (bnext hk0 q)⟩)
  have HPR := hide hE.prog
  have HTN := hide (fun W (q : Below w.heap.size w W) => tens_stay ht q)
  have HPO := hide (show ∀ e w', MakePost w P e w' ↔ (((lookS P).er ≠ 0 ∧ e = .returned (.tuple #[.slice none 0 0, .slice none 0 0, .agg #[.int .i64 (lookS P).er, .int .i64 (lookS P).at_]])) ∨ ((lookS P).er = 0 ∧ ∃ ov sv, e = .returned (.tuple #[ov, sv, .agg #[.int .i64 0, .int .i64 0]]) ∧ Row w' w.heap.size 33 4 iC ov (codL (labF P) P) ∧ Row w' w.heap.size 3 1 nI sv (stsTo (labF P) P P.length))) ∧ Below w.heap.size w w' from fun _ _ => Iff.rfl)
  have HRI := hide (fun h => look_right (P := P) h)
  clear hE hk0 ht
  go_enter Tryd.func6, Tryd.ntmps6
  go_wp2_with fail
  refine (unhide HCK).mono ?_
  rintro e w2 ⟨rfl, hb2⟩
  generalize (lookS P).er = er at *
  generalize (lookS P).at_ = at2 at *
  have hf0 : w2.heap[w.heap.size]? = some (.cells #[.int .i64 0, .int .i64 0] 28 (0, 0)) := row_below (at_new rfl) hb2
  have HB2 := hide (bnext (unhide HK) hb2)
  have h12 : w.heap.size < w2.heap.size := (Array.getElem?_eq_some_iff.1 hf0).1
  obtain ⟨w3, hw3⟩ : ∃ w3, w3 = w2.alloc (.cells #[.int .i64 er, .int .i64 at2] 28) := ⟨_, rfl⟩
  have hb3 : Below w2.heap.size w2 w3 := by rw [hw3]; exact (Below.refl _ _).alloc (Nat.le_refl _) _
  have hx3 : w3.heap[w2.heap.size]? = some (.cells #[.int .i64 er, .int .i64 at2] 28 (0, 0)) := by rw [hw3]; exact at_new rfl
  have hf3 := row_below hf0 hb3
  have hs3 : w3.heap.size = w2.heap.size + 1 := by rw [hw3, World.size_alloc]
  have d0 : w3.cell? ⟨w2.heap.size, 0, none⟩ = some (.int .i64 er) := by rw [cell_of_row _ _ _ _ _ _ hx3]; rfl
  have d1 : w3.cell? ⟨w2.heap.size, 1, none⟩ = some (.int .i64 at2) := by rw [cell_of_row _ _ _ _ _ _ hx3]; rfl
  have HB3 := hide (bnext (unhide HB2) hb3)
  have HF3 := hide hf3
  have HW3 := hide hw3
  have HS3 := hide hs3
  clear hb2 hb3 hx3 hf0 hw3 hs3 HCK
  by_cases he : er = 0
  · have HE := hide he
    have hRt := unhide HRI he
    have hL : ∀ (i : Nat) (S : SV), P[i]? = some S → SR S := fun i S hS => sv_right (hRt.own i S hS)
    have q0 : (er == 0) = true := by rw [beq_iff_eq]; exact he
    have r0 : (er != 0) = false := by rw [bne, q0]; rfl
    have hCE : CE w3.heap.size w3 V P := ⟨fun W q => unhide HPR W (bnext (unhide HB3) q), fun W q => unhide HTN W (bnext (unhide HB3) q)⟩
    have HNM := hide (newMaker_any w3 V P hCE hRt.len hL)
    have HCE := hide hCE
    have HR := hide hRt
    have HL := hide hL
    have hpl := hRt.len
    clear he hRt hL hCE
    go_wp2_with fail
    rw [show w2.alloc (.cells #[.int .i64 er, .int .i64 at2] 28) = w3 from (unhide HW3).symm]
    refine (unhide HNM).mono ?_
    rintro e w4 ⟨z, bl, rfl, hM4, hb4⟩
    have HM4 := hide (And.intro hM4 hb4)
    clear hM4 hb4 d0 d1
    unfold PV.v
    go_wp2_with fail
    go_loopw [18] (fun i wr => ∃ k : Nat, k ≤ P.length ∧ i = .int .i64 (k : Int) ∧ Hid (MkM w3.heap.size z bl P.length (V.v P.length) (labF P) (outTo (labF P) P k) (stsTo (labF P) P k) wr ∧ Below w3.heap.size w3 wr)) (fun i _ => P.length - (intOf i).toNat)
    case atStart => exact ⟨0, by omega, rfl, unhide HM4⟩
    case round =>
      obtain ⟨k, hk, rfl, HI⟩ := hrel
      have hol := out_len (fl := labF P) (unhide HL) k hk
      have hsl := sts_len (labF P) P k
      rcases Nat.lt_or_ge k P.length with hkt | hkt
      · obtain ⟨S, hS⟩ : ∃ S, P[k]? = some S := ⟨P[k]'hkt, List.getElem?_eq_getElem _⟩
        have HST := hide (statement_any S k w3.heap.size z bl P.length V P (labF P) _ _ wr (unhide HI).1 ((unhide HCE).next (unhide HI).2) hS (unhide HL k S hS) (by omega) (fun t => by obtain ⟨m, h, -⟩ := lab_num P hpl t; exact ⟨m, h⟩) (by omega) (by omega))
        have HO := hide (show outTo (labF P) P (k + 1) = outTo (labF P) P k ++ stmI (labF P) k (outTo (labF P) P k).length S by show _ ++ stmAt _ _ _ _ = _; rw [stmAt_at hS])
        clear hS hol hsl
        go_wp2_with fail
        refine (unhide HST).mono ?_
        rintro e w5 ⟨rfl, hM5, hb5⟩
        have HZ := hide (show MkM w3.heap.size z bl P.length (V.v P.length) (labF P) (outTo (labF P) P (k + 1)) (stsTo (labF P) P (k + 1)) w5 ∧ Below w3.heap.size w3 w5 from ⟨by rw [unhide HO]; exact hM5, (unhide HI).2.trans hb5⟩)
        clear hM5 hb5 HST
        go_wp2_with fail
        exact ⟨⟨k + 1, by omega, by go_num, unhide HZ⟩, by simp [intOf]; omega⟩
      · obtain rfl : k = P.length := by omega
        have HA := hide (show Calls Tryd.prog 10 #[.pointer (some ⟨z, 0, none⟩), .agg #[.int .i64 22, .string ⟨#[]⟩, .int .i64 0, .int .i64 0]] wr (MkPost w3.heap.size z bl P.length (V.v P.length) (labF P) (rawL (labF P) P) (stsTo (labF P) P P.length) wr) from adI_any wr (i0 22) (unhide HI).1 (by omega))
        have HRL := hide (show (rawL (labF P) P).length ≤ 90000000 by unfold rawL; rw [List.length_append, List.length_cons, List.length_nil]; omega)
        have HSS := hide (show ∀ (k s : Nat), (stsTo (labF P) P P.length)[k]? = some s → s ≤ 90000000 from fun k s h => by
          have hk2 : k < P.length := by have := (List.getElem?_eq_some_iff.1 h).1; omega
          rw [sts_get (labF P) P P.length k hk2] at h
          have := out_len (fl := labF P) (unhide HL) k (by omega)
          have := Option.some.inj h
          omega)
        clear hol hsl
        go_wp2_with fail
        refine (unhide HA).mono ?_
        rintro e w5 ⟨rfl, hM5, hb5⟩
        have HB5 := hide ((unhide HI).2.trans hb5)
        have HAI := hide (aim_any w3.heap.size z bl P.length (V.v P.length) (labF P) (rawL (labF P) P) _ w5 hM5 (unhide HRL) (fun k x hx h19 => by obtain ⟨m, h1, h2⟩ := raw_jump (unhide HR) (List.mem_of_getElem? hx) h19; exact ⟨m, h1, by omega⟩) (unhide HSS))
        clear hM5 hb5
        go_wp2_with fail
        refine (unhide HAI).mono ?_
        rintro e w6 ⟨rfl, hM6, hb6⟩
        have hM6 : MkM w3.heap.size z bl P.length (V.v P.length) (labF P) (codL (labF P) P) (stsTo (labF P) P P.length) w6 := hM6
        have hB6 := (unhide HB5).trans hb6
        obtain ⟨ov, sv, hov, hro, hsv⟩ := hM6.blk
        have hs3 := unhide HS3
        have hf6 : w6.heap[w.heap.size]? = some (.cells #[.int .i64 0, .int .i64 0] 28 (0, 0)) := (hB6.block _ (by omega)).trans (unhide HF3)
        have g0 : w6.cell? ⟨w.heap.size, 0, none⟩ = some (.int .i64 0) := by rw [cell_of_row _ _ _ _ _ _ hf6]; rfl
        have g1 : w6.cell? ⟨w.heap.size, 1, none⟩ = some (.int .i64 0) := by rw [cell_of_row _ _ _ _ _ _ hf6]; rfl
        have f0 := frozen_of_row w6 w.heap.size 0 _ _ hf6
        have f1 := frozen_of_row w6 w.heap.size 1 _ _ hf6
        have p2 : w6.cell? ⟨z, 2, none⟩ = some ov := by rw [cell_of_row _ _ _ _ _ _ hov]; rfl
        have p3 : w6.cell? ⟨z, 3, none⟩ = some sv := by rw [cell_of_row _ _ _ _ _ _ hov]; rfl
        have hzn : ¬ z = w.heap.size := by have := hM6.oz; omega
        have hzn2 : ¬ w.heap.size = z := fun e => hzn e.symm
        obtain ⟨w7, hw7⟩ : ∃ w7, w7 = (w6.setCell ⟨w.heap.size, 0, none⟩ (.int .i64 0)).setCell ⟨w.heap.size, 1, none⟩ (.int .i64 0) := ⟨_, rfl⟩
        have hk7 : ∀ k, k ≠ w.heap.size → w7.heap[k]? = w6.heap[k]? := fun k h => by rw [hw7]; exact (heap_setCell_other _ ⟨w.heap.size, 1, none⟩ k _ h).trans (heap_setCell_other _ ⟨w.heap.size, 0, none⟩ k _ h)
        have HF7 := hide (show ((w6.setCell ⟨w.heap.size, 0, none⟩ (.int .i64 0)).setCell ⟨w.heap.size, 1, none⟩ (.int .i64 0)).heap[w.heap.size]? = some (.cells #[.int .i64 0, .int .i64 0] 28 (0, 0)) from heap_setCell_same _ _ 1 _ _ _ (heap_setCell_same _ _ 0 _ _ _ hf6))
        have HZ := hide (show Row w7 w.heap.size 33 4 iC ov (codL (labF P) P) ∧ Row w7 w.heap.size 3 1 nI sv (stsTo (labF P) P P.length) ∧ Below w.heap.size w w7 from
          ⟨(hro.same fun k h => hk7 k (by have := (hro.low h).1; omega)).weak (by omega), (hsv.same fun k h => hk7 k (by have := (hsv.low h).1; omega)).weak (by omega), by rw [hw7]; exact below_cell (below_cell ((unhide HB3).trans (hB6.mono (by omega))) (Nat.le_refl _) 0 _) (Nat.le_refl _) 1 _⟩)
        have HW7 := hide hw7
        clear hM6 hb6 hB6 hov hro hsv hf6 hk7 hw7 hs3
        go_wp2_with fail
        go_region
        go_wp2_with fail
        refine bodyPost_ret (res_make _ _ w.heap.size #[.int .i64 0, .int .i64 0] rfl (unhide HF7) rfl) rfl ?_
        refine (unhide HPO _ _).2 ⟨.inr ⟨unhide HE, ov, sv, rfl, (unhide HZ).1.same fun k _ => by rw [unhide HW7]; rfl, (unhide HZ).2.1.same fun k _ => by rw [unhide HW7]; rfl⟩, ?_⟩
        have h9 := (unhide HZ).2.2.drew
        rw [unhide HW7] at h9
        exact h9
  · have q0 : (er == 0) = false := by rw [beq_eq_false_iff_ne]; exact he
    have r0 : (er != 0) = true := by rw [bne, q0]; rfl
    have HE := hide he
    have hf3 := unhide HF3
    have g0 : w3.cell? ⟨w.heap.size, 0, none⟩ = some (.int .i64 0) := by rw [cell_of_row _ _ _ _ _ _ hf3]; rfl
    have g1 : w3.cell? ⟨w.heap.size, 1, none⟩ = some (.int .i64 0) := by rw [cell_of_row _ _ _ _ _ _ hf3]; rfl
    have f0 := frozen_of_row w3 w.heap.size 0 _ _ hf3
    have f1 := frozen_of_row w3 w.heap.size 1 _ _ hf3
    have hn1 : ¬ w2.heap.size = w.heap.size := by omega
    have hn2 : ¬ w.heap.size = w2.heap.size := by omega
    have HF7 := hide (show ((w3.setCell ⟨w.heap.size, 0, none⟩ (.int .i64 er)).setCell ⟨w.heap.size, 1, none⟩ (.int .i64 at2)).heap[w.heap.size]? = some (.cells #[.int .i64 er, .int .i64 at2] 28 (0, 0)) from heap_setCell_same _ _ 1 _ _ _ (heap_setCell_same _ _ 0 _ _ _ hf3))
    have HBZ := hide (below_cell (below_cell (unhide HB3) (Nat.le_refl _) 0 (.int .i64 er)) (Nat.le_refl _) 1 (.int .i64 at2))
    clear he hf3
    go_wp2_with fail
    rw [show w2.alloc (.cells #[.int .i64 er, .int .i64 at2] 28) = w3 from (unhide HW3).symm]
    go_region
    go_wp2_with fail
    refine bodyPost_ret (res_make _ _ w.heap.size #[.int .i64 er, .int .i64 at2] rfl (unhide HF7) rfl) rfl ?_
    exact (unhide HPO _ _).2 ⟨.inl ⟨unhide HE, rfl⟩, (unhide HBZ).drew⟩
end Go.Proofs.YtpclpjcemeckgaaDoor
