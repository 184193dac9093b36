/- CheckTells, the law's walk. -/
import Derived.Test.YtpphjddljngkmaaDoorRefChIP
import Derived.Test.YtpphjddljngkmaaDoorRefChQP
import Derived.Test.YtpphjddljngkmaaDoorCkXP
import Derived.Test.YtpphjddljngkmaaDoorCdSP
namespace Go.Proofs.YtpphjddljngkmaaDoor
open Go.RowKit

/-- The document's Check says what the checker says. -/
theorem refCheck_look (V : PV) (P : List SV) (w : World) (hp : PIn w V P) (hM : Sml P) :
    Calls Tryd.prog 5 #[V.v P.length] w fun e w' => e = .returned (.agg #[.int .i64 (lookS P).er, .int .i64 (lookS P).at_]) ∧ Below w.heap.size w w' := by
  have h := chk_look P
  rw [h.1, h.2.1]
  exact refCheck_any V P w hp hM
theorem refReached_look (V : PV) (P : List SV) (w : World) (hp : PIn w V P) (hM : Sml P) : Calls Tryd.prog 9 #[V.v P.length] w (ReachPost w P) := by
  have h := chk_look P
  refine (refReached_any V P w hp hM).mono fun e w' q => ?_
  obtain ⟨q, hb⟩ := q
  refine ⟨?_, hb⟩
  rcases q with ⟨h0, rfl⟩ | ⟨h0, rb, o, hR, rfl, hr, hrB⟩
  · exact .inl ⟨by rw [h.1]; exact h0, by rw [h.1, h.2.1]⟩
  · have e : o = reachS P (lookS P) := rch_reach (chk_ok h0) (h.2.2 h0) hR
    exact .inr ⟨by rw [h.1]; exact h0, rb, rfl, by rw [← e]; exact hr, hrB⟩
set_option maxRecDepth 100000 in
set_option maxHeartbeats 8000000 in
theorem checkTells_walk (V : PV) (P : List SV) (nm : ByteArray) (w : World) (hX : ShapesX w) (hP : Shapes w) (hPr : PIn w V P) (hM : Sml P) :
    Calls Tryd.prog 3 #[V.v P.length, .string nm] w fun e w' => e = .returned (.bool true) ∧ Below w.heap.size w w' := by
  have HEN := hide (fun W (q : Below w.heap.size w W) => (⟨fun W' q' => hPr.later (bnext q q'), fun W' q' => (hX.later q).later q', fun W' q' => (hP.later q).later q'⟩ : Env W.heap.size W V P))
  have HPR := hide (fun W (q : Below w.heap.size w W) => hPr.later q)
  have HM := hide hM
  have HC1 := hide (check_any w V P (unhide HEN w (Below.refl _ _)))
  have hsm := look_sm P
  have heq := eq_fau (lookS P).er (lookS P).at_ hsm.1.1 (by have := hsm.1.2; omega) hsm.2.1 (by have := hsm.2.2; omega)
  have hmx := hPr.max
  unfold maxLen at hmx
  have hcap := hPr.cap
  unfold ChkPost at HC1
  have HC2 := hide (fun W (q : Below w.heap.size w W) => refCheck_look V P W (unhide HPR W q) (unhide HM))
  have HR1 := hide (fun W (q : Below w.heap.size w W) => reached_any W V P (unhide HEN W q))
  have HR2 := hide (fun W (q : Below w.heap.size w W) => refReached_look V P W (unhide HPR W q) (unhide HM))
  have HBU := hide (fun W => builtin_any nm W)
  have HAR := hide (fun W => refArgs_any nm W)
  have HRL := hide (reach_len P (lookS P))
  unfold ReachPost at HR1 HR2
  unfold PV.v at HC1 HC2 HR1 HR2 ⊢
  clear hX hP hPr hM hsm
  generalize reachS P (lookS P) = r at *
  generalize (lookS P).er = er at *
  generalize (lookS P).at_ = at2 at *
  go_enter Tryd.func3, Tryd.ntmps3
  go_wp2_with fail
  refine (unhide HC1).mono ?_
  rintro e w1 ⟨rfl, hb1⟩
  have HB1 := hide hb1
  clear hb1 HC1
  go_wp2_with fail
  refine (unhide HC2 w1 (unhide HB1)).mono ?_
  rintro e w2 ⟨rfl, hb2⟩
  have HB2 := hide (bnext2 (unhide HB1) hb2)
  clear hb2 HC2
  go_wp2_with fail
  refine (unhide HBU w2).mono ?_
  rintro e w3 ⟨rfl, rfl⟩
  go_wp2_with fail
  refine (unhide HAR w3).mono ?_
  rintro e w4 ⟨rfl, hb4⟩
  have HB4 := hide (bnext2 (unhide HB2) hb4)
  clear hb4
  generalize blt nm = bb at *
  go_wp2_with fail
  refine (unhide HR1 w4 (unhide HB4)).mono ?_
  rintro e w5 ⟨hr, hb5⟩
  have HB5 := hide (bnext2 (unhide HB4) hb5)
  clear hb5 HR1
  rcases hr with ⟨he, rfl⟩ | ⟨he, rb, rfl, hrb, hrB⟩
  case inl =>
    have HBA := hide ((unhide HB5).alloc (unhide HB5).size (.cells #[.int .i64 er, .int .i64 at2] 25))
    go_wp2_with fail
    refine (unhide HR2 _ (unhide HBA)).mono ?_
    rintro e w6 ⟨hr2, hb6⟩
    have HB6 := hide (bnext2 (unhide HBA) hb6)
    have hf := row_below (show (w5.alloc (.cells #[.int .i64 er, .int .i64 at2] 25)).heap[w5.heap.size]? = some (.cells #[.int .i64 er, .int .i64 at2] 25 (0, 0)) from at_new rfl) hb6
    have hlt6 : w5.heap.size < w6.heap.size := (Array.getElem?_eq_some_iff.1 hf).1
    rcases hr2 with ⟨-, rfl⟩ | ⟨h0, -⟩
    case inr => exact absurd h0 he
    have HR6 := hide (show (w6.alloc (.cells #[.int .i64 er, .int .i64 at2] 25)).heap[w5.heap.size]? = some (.cells #[.int .i64 er, .int .i64 at2] 25 (0, 0)) from at_old hlt6 hf)
    have c0 : (w6.alloc (.cells #[.int .i64 er, .int .i64 at2] 25)).cell? ⟨w5.heap.size, 0, none⟩ = some (.int .i64 er) := cr (unhide HR6)
    have c1 : (w6.alloc (.cells #[.int .i64 er, .int .i64 at2] 25)).cell? ⟨w5.heap.size, 1, none⟩ = some (.int .i64 at2) := cr (unhide HR6)
    have d0 : (w6.alloc (.cells #[.int .i64 er, .int .i64 at2] 25)).cell? ⟨w6.heap.size, 0, none⟩ = some (.int .i64 er) := cr (at_new rfl)
    have d1 : (w6.alloc (.cells #[.int .i64 er, .int .i64 at2] 25)).cell? ⟨w6.heap.size, 1, none⟩ = some (.int .i64 at2) := cr (at_new rfl)
    have HB7 := hide ((unhide HB6).alloc (unhide HB6).size (.cells #[.int .i64 er, .int .i64 at2] 25))
    clear hb6 hf he HR2
    go_wp2_with fail
    go_loopw [54] (fun i wl => i = .int .i64 0 ∧ Hid (Below w.heap.size w wl)) (fun _ _ => 0)
    case atStart => exact ⟨rfl, HB7⟩
    case round =>
      obtain ⟨rfl, HBL⟩ := hrel
      go_wp2_with fail
      go_ret
      exact ⟨rfl, unhide HBL⟩
  case inr =>
    have HBA := hide ((unhide HB5).alloc (unhide HB5).size (.cells #[.int .i64 0, .int .i64 0] 25))
    go_wp2_with fail
    refine (unhide HR2 _ (unhide HBA)).mono ?_
    rintro e w6 ⟨hr2, hb6⟩
    have HB6 := hide (bnext2 (unhide HBA) hb6)
    have hf := row_below (show (w5.alloc (.cells #[.int .i64 0, .int .i64 0] 25)).heap[w5.heap.size]? = some (.cells #[.int .i64 0, .int .i64 0] 25 (0, 0)) from at_new rfl) hb6
    have hrb6 := row_below (at_old (o := .cells #[.int .i64 0, .int .i64 0] 25) (Array.getElem?_eq_some_iff.1 hrb).1 hrb) hb6
    have hlt6 : w5.heap.size < w6.heap.size := (Array.getElem?_eq_some_iff.1 hf).1
    rcases hr2 with ⟨h0, -⟩ | ⟨-, rb2, rfl, hrb2, -⟩
    case inl => exact absurd he h0
    have HR6 := hide (show (w6.alloc (.cells #[.int .i64 0, .int .i64 0] 25)).heap[w5.heap.size]? = some (.cells #[.int .i64 0, .int .i64 0] 25 (0, 0)) from at_old hlt6 hf)
    obtain ⟨w7, hw7⟩ : ∃ w7, w7 = w6.alloc (.cells #[.int .i64 0, .int .i64 0] 25) := ⟨_, rfl⟩
    have HS6 := hide (show w7.heap[w6.heap.size]? = some (.cells #[.int .i64 0, .int .i64 0] 25 (0, 0)) by rw [hw7]; exact at_new rfl)
    have HRB := hide (show w7.heap[rb]? = some (.cells (bV r) 4 (0, 0)) by rw [hw7]; exact at_old (Array.getElem?_eq_some_iff.1 hrb6).1 hrb6)
    have HRC := hide (show w7.heap[rb2]? = some (.cells (bV r) 4 (0, 0)) by rw [hw7]; exact at_old (Array.getElem?_eq_some_iff.1 hrb2).1 hrb2)
    have HB7 := hide (show Below w.heap.size w w7 by rw [hw7]; exact (unhide HB6).alloc (unhide HB6).size _)
    rw [← hw7] at HR6
    clear hb6 hf hrb hrb6 hrb2 HR2
    go_upto_region 9 with fail
    rw [← hw7]
    clear hw7
    subst he
    have c0 : w7.cell? ⟨w5.heap.size, 0, none⟩ = some (.int .i64 0) := cr (unhide HR6)
    have c1 : w7.cell? ⟨w5.heap.size, 1, none⟩ = some (.int .i64 0) := cr (unhide HR6)
    have d0 : w7.cell? ⟨w6.heap.size, 0, none⟩ = some (.int .i64 0) := cr (unhide HS6)
    have d1 : w7.cell? ⟨w6.heap.size, 1, none⟩ = some (.int .i64 0) := cr (unhide HS6)
    have heq0 := fun w => eq_fau 0 0 (by decide) (by decide) (by decide) (by decide) w
    go_wp2_with fail
    go_loopw [54] (fun i wl => ∃ k : Nat, k ≤ P.length ∧ i = .int .i64 (k : Int) ∧ Hid (Below w7.heap.size w7 wl)) (fun i _ => P.length - (intOf i).toNat)
    case atStart => exact ⟨0, by omega, rfl, Below.refl _ _⟩
    case round =>
      obtain ⟨k, hk, rfl, HBL⟩ := hrel
      rcases Nat.lt_or_ge k P.length with hlt | hge
      · obtain ⟨b, hb⟩ : ∃ b, r[k]? = some b := ⟨r[k]'(by rw [unhide HRL]; exact hlt), List.getElem?_eq_getElem _⟩
        have ca := bool_cell (row_below (unhide HRB) (unhide HBL)) hb
        have cb := bool_cell (row_below (unhide HRC) (unhide HBL)) hb
        have hia := sl_idx (g := rb) (o := 0) (cap := P.length) (i := k) (n := P.length) Tryd.underlying28 size_boolS hlt
        have hib := sl_idx (g := rb2) (o := 0) (cap := P.length) (i := k) (n := P.length) Tryd.underlying28 size_boolS hlt
        rw [Nat.zero_add] at hia hib
        have hkk : (k : Int) < (P.length : Int) := by omega
        clear hb
        go_wp2_with fail
        go_quiet (fail)
        go_wp2_with fail
        exact ⟨⟨k + 1, by omega, by go_num, hide (below_drewN (unhide HBL) _)⟩, by simp [intOf]; omega⟩
      · obtain rfl : k = P.length := by omega
        have HBE := hide (bnext2 (unhide HB7) (unhide HBL))
        go_wp2_with fail
        go_ret
        exact ⟨rfl, unhide HBE⟩
end Go.Proofs.YtpphjddljngkmaaDoor
