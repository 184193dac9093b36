/- CodeJumps, the law's walk. -/
import Derived.Test.YtpclpjcemeckgaaDoorCdL
import Derived.Lib.QuietBelow
namespace Go.Proofs.YtpclpjcemeckgaaDoor
open Go.RowKit

set_option maxRecDepth 100000 in
set_option maxHeartbeats 16000000 in
theorem codeJumps_walk (V : PV) (P : List SV) (w : World) (hX : ShapesX w) (hP : Shapes w) (ht : TensAt w) (hlt : ∀ W, Below w.heap.size w W → PIn W V P) :
    Calls Tryd.prog 3 #[V.v P.length] w fun e w' => e = .returned (.bool true) ∧ Below w.heap.size w w' := by
  have HAL := hide (alive13_any w hX hP ht)
  have HMK := hide (fun W (q : Below w.heap.size w W) => make_any W V P ⟨fun W' q' => hlt W' (bnext q q'), fun W' q' => (hX.later q).later q', fun W' q' => (hP.later q).later q'⟩ (tens_stay ht q))
  have HCK := hide (fun W (q : Below w.heap.size w W) => check_any W V P ⟨fun W' q' => hlt W' (bnext q q'), fun W' q' => (hX.later q).later q', fun W' q' => (hP.later q).later q'⟩)
  have HJ := hide (fun h => cod_jmp (P := P) h)
  have HSM := hide (look_sm P)
  clear hX hP ht hlt
  go_enter Tryd.func3, Tryd.ntmps3
  go_wp2_with fail
  refine (unhide HAL).mono ?_
  rintro e w1 ⟨rfl, hb1⟩
  have HB1 := hide hb1
  have HM1 := hide (unhide HMK w1 hb1)
  clear hb1 HAL HMK
  go_wp2_with fail
  refine (unhide HM1).mono ?_
  rintro e w2 ⟨hr2, hb2⟩
  have HB2 := hide (bnext (unhide HB1) hb2)
  clear hb2 HM1
  rcases hr2 with ⟨he, rfl⟩ | ⟨he, ov, sv, rfl, hro, hsv⟩
  · have q0 : ((lookS P).er == 0) = false := by rw [beq_eq_false_iff_ne]; exact he
    have r0 : ((lookS P).er != 0) = true := by rw [bne, q0]; rfl
    have hsm := unhide HSM
    have heq := eq_fau (lookS P).er (lookS P).at_ hsm.1.1 (by have := hsm.1.2; omega) hsm.2.1 (by have := hsm.2.2; omega)
    obtain ⟨w3, hw3⟩ : ∃ w3, w3 = w2.alloc (.cells #[.int .i64 (lookS P).er, .int .i64 (lookS P).at_] 28) := ⟨_, rfl⟩
    have hb3 : Below w2.heap.size w2 w3 := by rw [hw3]; exact (Below.refl _ _).alloc (Nat.le_refl _) _
    have hx3 : w3.heap[w2.heap.size]? = some (.cells #[.int .i64 (lookS P).er, .int .i64 (lookS P).at_] 28 (0, 0)) := by rw [hw3]; exact at_new rfl
    have HB3 := hide (bnext (unhide HB2) hb3)
    have HC3 := hide (fun d os => Calls.regrown_of (w := w3) (d := d) (os := os) (unhide HCK _ ((unhide HB3).trans ((below_regrown w3 d os).mono (unhide HB3).size))))
    clear he HJ HCK hsm
    generalize (lookS P).er = er at *
    generalize (lookS P).at_ = at2 at *
    have d0 : w3.cell? ⟨w2.heap.size, 0, none⟩ = some (.int .i64 er) := by rw [cell_of_row _ _ _ _ _ _ hx3]; rfl
    have d1 : w3.cell? ⟨w2.heap.size, 1, none⟩ = some (.int .i64 at2) := by rw [cell_of_row _ _ _ _ _ _ hx3]; rfl
    have HW3 := hide hw3
    have g0 := fun d os => cell_regrown d0 d os
    have g1 := fun d os => cell_regrown d1 d os
    clear hx3 hb3 hw3
    go_wp2_with fail
    rw [show w2.alloc (.cells #[.int .i64 er, .int .i64 at2] 28) = w3 from (unhide HW3).symm]
    refine wp_region_quiet_below (by kernel_rfl) (by kernel_rfl) ?_
    repeat (quiet_step (first
      | (go_at_call 7; exact unhide HC3 _ _)))
    refine wpQuiet_nil ?_
    intro _ hw'
    obtain ⟨⟨dq, osq⟩, hw''⟩ := hw'
    subst hw''
    have HB4 := hide ((unhide HB3).trans ((below_regrown w3 dq osq).mono (unhide HB3).size))
    generalize Go.Sort.grow (redrawn w3 dq) osq = w4 at *
    go_wp2_with fail
    go_ret
    exact ⟨rfl, unhide HB4⟩
  · have HD := hide (unhide HJ he)
    clear he HJ HCK HSM
    generalize codL (labF P) P = L at *
    generalize stsTo (labF P) P P.length = st at *
    have hst := (unhide HD).len
    have hp := (unhide HD).pos
    have hmx := (unhide HD).max
    have hfw := (unhide HD).few
    obtain ⟨g, ocap, hov, -, -⟩ := hro.form (fun e => by rw [e] at hp; simp at hp)
    subst hov
    obtain ⟨sa, scap, hsvv, hsn, -⟩ := hsv.len
    rw [hst] at hsvv hsn
    subst hsvv
    have HST := hide hst
    clear hst
    have hal : Below w2.heap.size w2 (w2.alloc (.cells #[.int .i64 0, .int .i64 0] 28)) := (Below.refl _ _).alloc (Nat.le_refl _) _
    have HRO := hide (hro.later hal)
    have HSV := hide (hsv.later hal)
    have HB3 := hide (bnext (unhide HB2) hal)
    obtain ⟨x9, hx9, hop9⟩ := (unhide HD).last
    obtain ⟨op9, tx9, nn9, tg9⟩ := x9
    have hop9 : op9 = 22 := hop9
    subst hop9
    have hlv : ((L.length : Int) - 1) = ((L.length - 1 : Nat) : Int) := by omega
    have hla : ((L.length : Int) + 1) = ((L.length + 1 : Nat) : Int) := by omega
    have e9 := (unhide HRO).cell iC_len rfl hx9 (show (iC ⟨22, tx9, nn9, tg9⟩)[0]? = some (.int .i64 22) from rfl)
    rw [Nat.add_zero] at e9
    have hi9 := fun W => idx4 (g := g) (cap := ocap) (n := L.length) (i := L.length - 1) (by omega) W
    rw [← hlv] at hi9
    have hm9 := fun W => make_marks (L.length + 1) (by omega) W
    rw [← hla] at hm9
    have hb9 := fun (y : Nat) W => sl_idx (g := y) (o := 0) (cap := L.length + 1) (i := L.length - 1) (n := L.length + 1) Tryd.underlying34 size_boolS (by omega) W
    rw [← hlv] at hb9
    simp only [Nat.zero_add] at hb9
    have q1 : ¬ (L.length : Int) = 0 := by omega
    have q2 : ((L.length : Int) == 0) = false := by rw [beq_eq_false_iff_ne]; exact q1
    have hv9 : (bV (List.replicate (L.length + 1) false))[L.length - 1]? = some (.bool false) := by
      unfold bV
      rw [List.getElem?_toArray, List.getElem?_map, List.getElem?_replicate, if_pos (by omega)]; rfl
    obtain ⟨F, hF⟩ : ∃ F, F = Obj.cells #[.int .i64 0, .int .i64 0] 28 := ⟨_, rfl⟩
    have HI0 := hide (show ∃ B, Mrk L st 0 B ∧ ((w2.alloc (.cells #[.int .i64 0, .int .i64 0] 28)).alloc (.cells ((bV (List.replicate (L.length + 1) false)).setIfInBounds (L.length - 1) (.bool true)) 4)).heap[w2.heap.size + 1]? = some (.cells (bV B) 4 (0, 0)) ∧ Below (w2.heap.size + 1) (w2.alloc (.cells #[.int .i64 0, .int .i64 0] 28)) ((w2.alloc (.cells #[.int .i64 0, .int .i64 0] 28)).alloc (.cells ((bV (List.replicate (L.length + 1) false)).setIfInBounds (L.length - 1) (.bool true)) 4)) from by
      rw [← hF]
      have hs : (w2.alloc F).heap.size = w2.heap.size + 1 := World.size_alloc _ _
      refine ⟨_, Mrk.start (unhide HD), ?_, (Below.refl _ _).alloc (Nat.le_of_eq hs.symm) _⟩
      rw [← bV_set]
      exact at_new hs.symm)
    have hs3 : (w2.alloc (.cells #[.int .i64 0, .int .i64 0] 28)).heap.size = w2.heap.size + 1 := World.size_alloc _ _
    have HS3 := hide hs3
    clear hro hsv hal hx9 hlv hla hF hs3
    unfold PV.v
    go_wp2_with fail
    go_loopw [70] (fun i wr => ∃ k : Nat, k ≤ P.length ∧ i = .int .i64 (k : Int) ∧ Hid (∃ B, Mrk L st k B ∧ wr.heap[w2.heap.size + 1]? = some (.cells (bV B) 4 (0, 0)) ∧ Below (w2.heap.size + 1) (w2.alloc (.cells #[.int .i64 0, .int .i64 0] 28)) wr)) (fun i _ => P.length - (intOf i).toNat)
    case atStart => exact ⟨0, Nat.zero_le _, rfl, unhide HI0⟩
    case round =>
      clear HI0 hm9 hb9 hi9 e9 hv9 q1 q2
      obtain ⟨k, hk, rfl, HI⟩ := hrel
      obtain ⟨Bm, hBm, hrow, hbel⟩ := unhide HI
      have hbel3 : Below (w2.alloc (.cells #[.int .i64 0, .int .i64 0] 28)).heap.size (w2.alloc (.cells #[.int .i64 0, .int .i64 0] 28)) wr := by rw [unhide HS3]; exact hbel
      have hro := (unhide HRO).later hbel3
      have hsv := (unhide HSV).later hbel3
      have HRO4 := hide hro
      have HSV4 := hide hsv
      have HB4 := hide (bnext (unhide HB3) hbel3)
      generalize w2.heap.size + 1 = y at *
      generalize w2.alloc (.cells #[.int .i64 0, .int .i64 0] 28) = w3 at *
      rcases Nat.lt_or_ge k P.length with hkt | hkt
      · obtain ⟨s, hs⟩ : ∃ s, st[k]? = some s := ⟨st[k]'(by rw [unhide HST]; exact hkt), List.getElem?_eq_getElem _⟩
        obtain ⟨sg, sc2, hsf, -, -⟩ := hsv.form (fun e => by have hst := unhide HST; rw [e] at hst; simp at hst; omega)
        injection hsf with f1 f2 f3
        subst f1 f3; clear f2
        obtain ⟨hsl, ⟨op, tx, nn, tg⟩, hx, hop, hn⟩ := (unhide HD).begins k s hs
        have hop : op = 1 := hop
        have hn : nn = (k : Int) := hn
        subst hop hn
        have cs := hsv.cell (fun _ => rfl) (i := k) (k := 0) (u := .int .i64 (s : Int)) (by rw [unhide HST]) hs rfl
        have e0 := hro.cell iC_len rfl hx (show (iC ⟨1, tx, (k : Int), tg⟩)[0]? = some (.int .i64 1) from rfl)
        have e2 := hro.cell iC_len rfl hx (show (iC ⟨1, tx, (k : Int), tg⟩)[2]? = some (.int .i64 (k : Int)) from rfl)
        rw [Nat.mul_one, Nat.add_zero] at cs
        rw [Nat.add_zero] at e0
        have hxs := fun W => sl_idx (g := sg) (o := 0) (cap := scap) (i := k) (n := P.length) Tryd.underlying25 size_intS hkt W
        have hxb := fun W => sl_idx (g := y) (o := 0) (cap := L.length + 1) (i := s) (n := L.length + 1) Tryd.underlying34 size_boolS (by omega) W
        have hx4 := fun W => idx4 (g := g) (cap := ocap) (n := L.length) (i := s) (by omega) W
        simp only [Nat.zero_add] at hxs hxb
        have a0 : ¬ (s : Int) < 0 := by omega
        have a1 : ¬ (L.length : Int) ≤ (s : Int) := by omega
        obtain ⟨b, hb⟩ : ∃ b, Bm[s]? = some b := ⟨Bm[s]'(by have := hBm.1; omega), List.getElem?_eq_getElem _⟩
        have cb := bV_cell hrow hb
        have fb := frozen_of_row wr y s _ _ hrow
        have HZ := hide (show ∃ B, Mrk L st (k + 1) B ∧ (wr.setCell ⟨y, s, none⟩ (.bool true)).heap[y]? = some (.cells (bV B) 4 (0, 0)) ∧ Below y w3 (wr.setCell ⟨y, s, none⟩ (.bool true)) from
          ⟨_, hBm.next hs (by omega), by rw [← bV_set]; exact heap_setCell_same _ _ _ _ _ _ hrow, below_cell hbel (Nat.le_refl _) _ _⟩)
        rcases Nat.eq_zero_or_pos k with hk0 | hk0
        · have b0 : ¬ (0 : Int) < (k : Int) := by omega
          clear hro hsv hrow hbel hbel3 hBm hb hx hs hk0
          go_wp2_with fail
          exact ⟨⟨k + 1, by omega, by go_num, unhide HZ⟩, by simp [intOf]; omega⟩
        · have b0 : (0 : Int) < (k : Int) := by omega
          obtain ⟨s', hs'⟩ : ∃ s', st[k - 1]? = some s' := ⟨st[k - 1]'(by rw [unhide HST]; omega), List.getElem?_eq_getElem _⟩
          have hlt := (unhide HD).rise (k - 1) s' s hs' (by rw [Nat.sub_add_cancel hk0]; exact hs)
          have cp := hsv.cell (fun _ => rfl) (i := k - 1) (k := 0) (u := .int .i64 (s' : Int)) (by rw [unhide HST]) hs' rfl
          rw [Nat.mul_one, Nat.add_zero] at cp
          have hxp := fun W => sl_idx (g := sg) (o := 0) (cap := scap) (i := k - 1) (n := P.length) Tryd.underlying25 size_intS (by omega) W
          simp only [Nat.zero_add] at hxp
          rw [show ((k - 1 : Nat) : Int) = (k : Int) - 1 by omega] at hxp
          have b1 : ¬ (s : Int) ≤ (s' : Int) := by omega
          clear hro hsv hrow hbel hbel3 hBm hb hx hs hs' hlt
          go_wp2_with fail
          exact ⟨⟨k + 1, by omega, by go_num, unhide HZ⟩, by simp [intOf]; omega⟩
      · obtain rfl : k = P.length := by omega
        have HMK := hide hBm
        have HRW := hide hrow
        have hyl : y < wr.heap.size := (Array.getElem?_eq_some_iff.1 hrow).1
        clear hro hsv hrow hbel hbel3 hBm HI
        obtain ⟨wm, rfl⟩ : ∃ wm, wm = wr := ⟨wr, rfl⟩
        go_wp2_with fail
        go_loopw [9, 10, 119] (fun a b i wq => ∃ k m : Nat, k ≤ L.length ∧ m ≤ 1000 ∧ i = .int .i64 (k : Int) ∧ a = .int .i64 (m : Int) ∧ b = .int .i64 ((m : Int) - 1) ∧ Hid (Cnt st k m ∧ Below wm.heap.size wm wq)) (fun _ _ i _ => L.length - (intOf i).toNat)
        case atStart => exact ⟨0, 0, Nat.zero_le _, by omega, rfl, rfl, rfl, Cnt.start _, Below.refl _ _⟩
        case round =>
          obtain ⟨k, m, hk, hm, rfl, rfl, rfl, HI⟩ := hrel
          have hrow := row_below (unhide HRW) (unhide HI).2
          have hro := (unhide HRO4).later (unhide HI).2
          have hsv := (unhide HSV4).later (unhide HI).2
          rcases Nat.lt_or_ge k L.length with hkt | hkt
          · obtain ⟨x, hx⟩ : ∃ x, L[k]? = some x := ⟨L[k]'hkt, List.getElem?_eq_getElem _⟩
            obtain ⟨op, tx, nn, tg⟩ := x
            have e0 := hro.cell iC_len rfl hx (show (iC ⟨op, tx, nn, tg⟩)[0]? = some (.int .i64 op) from rfl)
            have e1 := hro.cell iC_len rfl hx (show (iC ⟨op, tx, nn, tg⟩)[1]? = some (.string tx) from rfl)
            have e2 := hro.cell iC_len rfl hx (show (iC ⟨op, tx, nn, tg⟩)[2]? = some (.int .i64 nn) from rfl)
            have e3 := hro.cell iC_len rfl hx (show (iC ⟨op, tx, nn, tg⟩)[3]? = some (.int .i64 tg) from rfl)
            rw [Nat.add_zero] at e0
            have hgl : g < wr.heap.size := World.block_lt_of_cell? _ _ e0
            have hix := idx4 (g := g) (cap := ocap) hkt
            have HZ := hide (show ∀ W, Below wr.heap.size wr W → Below wm.heap.size wm W from fun W q => bnext (unhide HI).2 q)
            have HZ4 := hide (unhide HZ (wr.alloc (.cells #[.int .i64 op, .string tx, .int .i64 nn, .int .i64 tg] 33)) ((Below.refl _ _).alloc (Nat.le_refl _) _))
            by_cases h1 : op = 1
            · subst h1
              obtain ⟨hsm, hcn⟩ := (unhide HI).1.step (unhide HD) hx rfl
              obtain ⟨x', t, hx', ht, hkt', hte, y', hy', hyo⟩ := (unhide HD).goes m k hsm
              rw [hx] at hx'
              obtain rfl := Option.some.inj hx'
              have ht : tg = (t : Int) := ht
              subst ht
              obtain ⟨yo, yt, yn, yg⟩ := y'
              have hyo : 19 ≤ yo := hyo
              have htl : t < L.length := (List.getElem?_eq_some_iff.1 hy').1
              have ey := hro.cell iC_len rfl hy' (show (iC ⟨yo, yt, yn, yg⟩)[0]? = some (.int .i64 yo) from rfl)
              rw [Nat.add_zero] at ey
              have hxt := fun W => idx4 (g := g) (cap := ocap) (n := L.length) (i := t) htl W
              have a0 : ¬ (t : Int) ≤ (k : Int) := by omega
              have a2 : ¬ yo < 19 := by omega
              have HCN := hide hcn
              have hm2 : m + 1 ≤ 1000 := by have := hcn.1; rw [unhide HST] at this; omega
              by_cases hmn : m + 1 < P.length
              · obtain ⟨s2, hs2⟩ : ∃ s2, st[m + 1]? = some s2 := ⟨st[m + 1]'(by rw [unhide HST]; exact hmn), List.getElem?_eq_getElem _⟩
                rw [List.getD_eq_getElem?_getD, hs2] at hte
                have hte : t < s2 := hte
                obtain ⟨sg, sc2, hsf, -, -⟩ := hsv.form (fun e => by have hst := unhide HST; rw [e] at hst; simp at hst; omega)
                injection hsf with f1 f2 f3
                subst f1 f3; clear f2
                have cp := hsv.cell (fun _ => rfl) (i := m + 1) (k := 0) (u := .int .i64 (s2 : Int)) (by rw [unhide HST]) hs2 rfl
                rw [Nat.mul_one, Nat.add_zero] at cp
                have hsl2 : sg < wr.heap.size := World.block_lt_of_cell? _ _ cp
                have hxp := fun W => sl_idx (g := sg) (o := 0) (cap := scap) (i := m + 1) (n := P.length) Tryd.underlying25 size_intS hmn W
                simp only [Nat.zero_add] at hxp
                rw [show ((m + 1 : Nat) : Int) = (m : Int) + 1 by omega] at hxp
                have b0 : (m : Int) + 1 < (P.length : Int) := by omega
                have a1 : ¬ (s2 : Int) ≤ (t : Int) := by omega
                clear hro hsv hrow hx hcn hte hsm hy' hyo hmn HZ hs2
                go_wp2_with fail
                exact ⟨⟨k + 1, m + 1, by omega, hm2, by go_num, by go_num, by congr 1 <;> omega, unhide HCN, unhide HZ4⟩, by simp [intOf]; omega⟩
              · rw [List.getD_eq_getElem?_getD, List.getElem?_eq_none (by rw [unhide HST]; omega)] at hte
                have hte : t < L.length - 1 := hte
                have b0 : ¬ (m : Int) + 1 < (P.length : Int) := by omega
                have a1 : ¬ (L.length : Int) - 1 ≤ (t : Int) := by omega
                clear hro hsv hrow hx hcn hte hsm hy' hyo hmn HZ
                go_wp2_with fail
                exact ⟨⟨k + 1, m + 1, by omega, hm2, by go_num, by go_num, by congr 1 <;> omega, unhide HCN, unhide HZ4⟩, by simp [intOf]; omega⟩
            · have HCN := hide ((unhide HI).1.other (unhide HD) hx h1)
              have q1 : (op == 1) = false := by rw [beq_eq_false_iff_ne]; exact h1
              by_cases h19 : op = 19
              · obtain ⟨t, ht, htl, htb⟩ := (unhide HMK).jump (unhide HD) hx h19
                have ht : tg = (t : Int) := ht
                subst ht h19
                have cb := bV_cell hrow htb
                have hyl2 : y < wr.heap.size := World.block_lt_of_cell? _ _ cb
                have hxb := fun W => sl_idx (g := y) (o := 0) (cap := L.length + 1) (i := t) (n := L.length + 1) Tryd.underlying34 size_boolS (by omega) W
                simp only [Nat.zero_add] at hxb
                have a0 : ¬ (t : Int) < 0 := by omega
                have a1 : ¬ (L.length : Int) ≤ (t : Int) := by omega
                clear hro hsv hrow hx htb HZ h1
                go_wp2_with fail
                exact ⟨⟨k + 1, m, by omega, by omega, by go_num, by go_num, by go_num, unhide HCN, unhide HZ4⟩, by simp [intOf]; omega⟩
              · have q19 : (op == 19) = false := by rw [beq_eq_false_iff_ne]; exact h19
                by_cases hlo : op < 19
                · have htb := (unhide HMK).ends (unhide HD) hx hlo
                  have cb := bV_cell hrow htb
                  have hyl2 : y < wr.heap.size := World.block_lt_of_cell? _ _ cb
                  have hxb := fun W => sl_idx (g := y) (o := 0) (cap := L.length + 1) (i := k + 1) (n := L.length + 1) Tryd.underlying34 size_boolS (by omega) W
                  simp only [Nat.zero_add] at hxb
                  rw [show ((k + 1 : Nat) : Int) = (k : Int) + 1 by omega] at hxb
                  clear hro hsv hrow hx htb HZ h1 h19
                  go_wp2_with fail
                  exact ⟨⟨k + 1, m, by omega, by omega, by go_num, by go_num, by go_num, unhide HCN, unhide HZ4⟩, by simp [intOf]; omega⟩
                · clear hro hsv hrow hx HZ h1 h19
                  go_wp2_with fail
                  exact ⟨⟨k + 1, m, by omega, by omega, by go_num, by go_num, by go_num, unhide HCN, unhide HZ4⟩, by simp [intOf]; omega⟩
          · obtain rfl : k = L.length := by omega
            have hmN := (unhide HI).1.done (unhide HD)
            subst hmN
            clear hro hsv hrow
            go_wp2_with fail
            go_ret
            exact ⟨rfl, bnext (unhide HB4) (unhide HI).2⟩
end Go.Proofs.YtpclpjcemeckgaaDoor
