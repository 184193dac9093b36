/- What Abs, Set and GCD do on the document's numbers (GCD: of two that are not below nought, without the factors). -/
import Derived.Test.YtfjbafdgjpdbdaaBigQuo
namespace Go.Proofs.Ytfjbafdgjpdbdaa
open Go.RowKit

set_option maxHeartbeats 400000 in
theorem iabs_any (z x : Nat) (n : Int) (w : World) (hz : IntBlock w z) (hx : IntAt w x n) (lm : (wordsOf n.natAbs).length ≤ 10000000) :
    Calls Try.prog 31 #[ptr z, ptr x] w fun e w' => e = .returned (ptr z) ∧ IntAt w' z (n.natAbs : Int) ∧ But z w w' := by
  obtain ⟨u, hxr, hu⟩ := hx
  have x1 : w.cell? ⟨x, 1, none⟩ = some u := by rw [cell_row hxr]; rfl
  have C := hide (twin_any n.natAbs u w hu (by omega))
  have HS := hide (show signedOf false n.natAbs = (n.natAbs : Int) from rfl)
  generalize n.natAbs = m at *
  clear hxr hu
  go_enter Try.func31, Try.ntmps31
  go_wp2_with fail
  refine (unhide C).mono ?_
  rintro e w1 ⟨⟨v, rfl, hv⟩, hb⟩
  have C2 := hide (give_any z m false v w1 (hz.below hb) hv (by omega))
  rw [unhide HS] at C2
  go_wp2_with fail
  refine (unhide C2).mono ?_
  rintro e w2 ⟨rfl, hi, hb2⟩
  go_wp2
  go_ret
  exact ⟨rfl, hi, (But.of_below hb).trans hb2⟩

set_option maxHeartbeats 1000000 in
theorem iset_fresh (z x : Nat) (n : Int) (w : World) (hz : IntBlock w z) (nx : x ≠ z) (hx : IntAt w x n) (lm : (wordsOf n.natAbs).length ≤ 10000000) :
    Calls Try.prog 44 #[ptr z, ptr x] w fun e w' => e = .returned (ptr z) ∧ IntAt w' z n ∧ But z w w' := by
  obtain ⟨u, hxr, hu⟩ := hx
  have x0 : w.cell? ⟨x, 0, none⟩ = some (.bool (decide (n < 0))) := by rw [cell_row hxr]; rfl
  have x1 : w.cell? ⟨x, 1, none⟩ = some u := by rw [cell_row hxr]; rfl
  have C := hide (twin_any n.natAbs u w.drew hu.drew (by omega))
  have HS := hide (signedOf_self n)
  generalize decide (n < 0) = s at *
  have HZ := hide hz
  clear hxr hu hz
  go_enter Try.func44, Try.ntmps44
  go_wp2_with fail
  go_region_held3 (fun w' => w'.cell? ⟨x, 0, none⟩ = some (.bool s) ∧ w'.cell? ⟨x, 1, none⟩ = some u) (go_keep)
    (first
      | (go_at_call 41; refine (unhide C).mono ?_; rintro e w1 ⟨⟨r, rfl, hr⟩, hb⟩; have k0 := (hb.cell (p := ⟨x, 0, none⟩) (lt_of_cell x0)).trans x0; have k1 := (hb.cell (p := ⟨x, 1, none⟩) (lt_of_cell x1)).trans x1)
      | (go_at_call 36; refine (give_any z n.natAbs _ _ _ ((unhide HZ).drew.below hb) hr (by omega)).mono ?_; rintro e w2 ⟨rfl, hi, hb2⟩; have j0 := (cell_but hb2 nx (lt_of_cell k0)).trans k0; have j1 := (cell_but hb2 nx (lt_of_cell k1)).trans k1))
  all_goals go_wp2
  all_goals go_ret
  all_goals exact ⟨rfl, by rw [← unhide HS]; exact hi, (But.of_below (undrew hb)).trans hb2⟩

abbrev newObj : Obj := .cells #[.bool false, .slice none 0 0] 31
theorem one_fresh (w : World) : IntAt (w.alloc newObj) w.heap.size 0 ∧ Below w.heap.size w (w.alloc newObj) ∧ (w.alloc newObj).heap.size = w.heap.size + 1 :=
  ⟨fresh_int w, (Below.refl _ _).alloc (Nat.le_refl _) _, by simp⟩
theorem two_fresh (w : World) : IntAt ((w.alloc newObj).alloc newObj) w.heap.size 0 ∧ IntAt ((w.alloc newObj).alloc newObj) (w.heap.size + 1) 0 ∧ Below w.heap.size w ((w.alloc newObj).alloc newObj) ∧ ((w.alloc newObj).alloc newObj).heap.size = w.heap.size + 2 := by
  have h1 := one_fresh w
  have h2 := one_fresh (w.alloc newObj)
  rw [h1.2.2] at h2
  refine ⟨h1.1.below (by rw [h1.2.2]; exact h2.2.1), h2.1, h1.2.1.trans (h2.2.1.mono (by omega)), by omega⟩

/-- The bound on the factors, one round on. -/
theorem factor_step (P Q C : Nat) (s t : Int) (h : P * t.natAbs + Q * s.natAbs ≤ C) : Q * (s - ((P / Q : Nat) : Int) * t).natAbs + P % Q * t.natAbs ≤ C := by
  have h1 : (s - ((P / Q : Nat) : Int) * t).natAbs ≤ s.natAbs + P / Q * t.natAbs := by
    have := Int.natAbs_sub_le s (((P / Q : Nat) : Int) * t)
    rw [Int.natAbs_mul, Int.natAbs_natCast] at this
    exact this
  have h2 := Nat.mul_le_mul_left Q h1
  have h3 : Q * (P / Q) + P % Q = P := Nat.div_add_mod P Q
  have h4 : Q * (P / Q * t.natAbs) + P % Q * t.natAbs = P * t.natAbs := by rw [← Nat.mul_assoc, ← Nat.add_mul, h3]
  rw [Nat.mul_add] at h2
  omega
theorem factor_small {P Q C : Nat} {s t : Int} (h : P * t.natAbs + Q * s.natAbs ≤ C) (hP : 0 < P) (hQ : 0 < Q) (hC : C < 18446744073709551616) : t.natAbs < 18446744073709551616 ∧ s.natAbs < 18446744073709551616 := by
  have h1 := Nat.le_mul_of_pos_left t.natAbs hP
  have h2 := Nat.le_mul_of_pos_left s.natAbs hQ
  omega

/-- What words in a world are worth: for a measure alone. -/
def worthAt (w : World) : Value → Nat
  | .slice (some a) len _ => val ((List.range len).map fun j => match w.cell? ⟨a.block, j, none⟩ with | some (.int _ x) => x.toNat | _ => 0)
  | _ => 0
def sizeAt (w : World) : Value → Nat
  | .pointer (some a) => match w.cell? ⟨a.block, 1, none⟩ with | some v => worthAt w v | none => 0
  | _ => 0
theorem NumAt.worth {w : World} {v : Value} {n : Nat} (h : NumAt w v n) : worthAt w v = n := by
  rcases h with ⟨rfl, h⟩ | ⟨b, cap, rfl, _, hc⟩
  · have := (wordsOf_len_zero n).1 (by rw [h]; rfl)
    subst this; rfl
  · have e : ((List.range (wordsOf n).length).map fun j => match w.cell? ⟨b, j, none⟩ with | some (.int _ x) => x.toNat | _ => 0) = wordsOf n := by
      apply List.ext_getElem
      · simp
      · intro i h1 h2
        have := hc i h2
        simp only [List.getElem_map, List.getElem_range, this, Int.toNat_natCast]
        rw [List.getD_eq_getElem?_getD, List.getElem?_eq_getElem h2]; rfl
    show val _ = n
    rw [e, val_wordsOf]
theorem IntAt.worth {w : World} {z : Nat} {n : Int} (h : IntAt w z n) : sizeAt w (ptr z) = n.natAbs := by
  obtain ⟨v, h1, h2⟩ := h
  have : w.cell? ⟨z, 1, none⟩ = some v := by rw [cell_row h1]; rfl
  show (match w.cell? ⟨z, 1, none⟩ with | some v => worthAt w v | none => 0) = _
  rw [this]
  exact h2.worth

set_option maxRecDepth 100000 in
set_option maxHeartbeats 4000000 in
theorem igcd_fresh (z a b m n : Nat) (w : World) (hz : IntBlock w z) (hx : IntAt w a (m : Int)) (hy : IntAt w b (n : Int)) (hm : m < 18446744073709551616) (hn : n < 18446744073709551616) :
    Calls Try.prog 32 #[ptr z, .pointer none, .pointer none, ptr a, ptr b] w fun e w' => e = .returned (ptr z) ∧ IntAt w' z (Nat.gcd m n : Int) ∧ But z w w' := by
  have HX := hide hx
  have HY := hide hy
  have hml := wordsOf_len_two hm
  have hnl := wordsOf_len_two hn
  obtain ⟨u, hxr, hu⟩ := hx
  obtain ⟨v, hyr, hv⟩ := hy
  have x0 : w.cell? ⟨a, 0, none⟩ = some (.bool (decide ((m : Int) < 0))) := by rw [cell_row hxr]; rfl
  have x1 : w.cell? ⟨a, 1, none⟩ = some u := by rw [cell_row hxr]; rfl
  have y0 : w.cell? ⟨b, 0, none⟩ = some (.bool (decide ((n : Int) < 0))) := by rw [cell_row hyr]; rfl
  have y1 : w.cell? ⟨b, 1, none⟩ = some v := by rw [cell_row hyr]; rfl
  rw [Int.natAbs_natCast] at hu hv
  rw [decide_eq_false (by omega)] at x0 y0
  obtain ⟨pa, ca, rfl, hca, _⟩ := hu.slice
  obtain ⟨pb, cb, rfl, hcb, _⟩ := hv.slice
  have Z1 := wordsOf_len_zero m
  have Z2 := wordsOf_len_zero n
  clear hxr hyr hu hv
  by_cases h0 : m = 0
  · have A1 := hide (iabs_any z b (n : Int) w.drew.drew hz.drew.drew (show IntAt w.drew.drew b (n : Int) from unhide HY) (by rw [Int.natAbs_natCast]; omega))
    rw [Int.natAbs_natCast] at A1
    have hp := Z1.2 h0
    rw [hp] at x1 hca
    have HG := hide (show Nat.gcd m n = n by rw [h0]; exact Nat.gcd_zero_left n)
    rw [unhide HG]
    clear Z1 Z2 hz HX HY h0 hp hml
    go_enter Try.func32, Try.ntmps32
    go_wp2
    go_region
    go_wp2
    go_region
    go_wp2_with fail
    refine (unhide A1).mono ?_
    rintro e w1 ⟨rfl, hi, hb⟩
    go_wp2
    go_ret
    exact ⟨rfl, hi, ⟨hb.os, hb.tape, hb.output, hb.size, hb.block⟩⟩
  · have hp : (wordsOf m).length ≠ 0 := fun e => h0 (Z1.1 e)
    by_cases h1 : n = 0
    · have A1 := hide (iabs_any z a (m : Int) w.drew.drew hz.drew.drew (show IntAt w.drew.drew a (m : Int) from unhide HX) (by rw [Int.natAbs_natCast]; omega))
      rw [Int.natAbs_natCast] at A1
      have hq := Z2.2 h1
      rw [hq] at y1 hcb
      have HG := hide (show Nat.gcd m n = m by rw [h1]; exact Nat.gcd_zero_right m)
      rw [unhide HG]
      clear Z1 Z2 hz HX HY h0 h1 hq hnl
      generalize (wordsOf m).length = p at *
      have d1 : ((p : Int) == 0) = false := by simp; omega
      go_enter Try.func32, Try.ntmps32
      go_wp2
      go_region
      go_wp2
      go_region
      go_wp2_with fail
      refine (unhide A1).mono ?_
      rintro e w1 ⟨rfl, hi, hb⟩
      go_wp2
      go_ret
      exact ⟨rfl, hi, ⟨hb.os, hb.tape, hb.output, hb.size, hb.block⟩⟩
    · have hq : (wordsOf n).length ≠ 0 := fun e => h1 (Z2.1 e)
      clear Z1 Z2
      generalize (wordsOf m).length = p at *
      generalize (wordsOf n).length = q at *
      have d1 : ((p : Int) == 0) = false := by simp; omega
      have d2 : ((q : Int) == 0) = false := by simp; omega
      have HZ := hide hz
      have hzl := hz.lt
      have hal := (unhide HX).block.lt
      have hbl := (unhide HY).block.lt
      have F1 := one_fresh w
      have A1 := hide (iabs_any w.heap.size a (m : Int) (w.alloc newObj) F1.1.block ((unhide HX).below F1.2.1) (by rw [Int.natAbs_natCast]; exact Nat.le_trans (wordsOf_len_two hm) (by decide)))
      rw [Int.natAbs_natCast] at A1
      have HF1 := hide F1
      clear hz F1
      go_enter Try.func32, Try.ntmps32
      go_wp2_with fail
      refine (unhide A1).mono ?_
      rintro e w1 ⟨rfl, hi1, hb1⟩
      have hw1 := But.below (unhide HF1).2.1 hb1 (Nat.le_refl _)
      have F2 := one_fresh w1
      have hs1 : w.heap.size < w1.heap.size := hi1.block.lt
      have A2 := hide (iabs_any w1.heap.size b (n : Int) (w1.alloc newObj) F2.1.block (((unhide HY).below hw1).below F2.2.1) (by rw [Int.natAbs_natCast]; exact Nat.le_trans (wordsOf_len_two hn) (by decide)))
      rw [Int.natAbs_natCast] at A2
      have HF2 := hide F2
      clear F2 hb1 A1 HF1
      go_wp2_with fail
      refine (unhide A2).mono ?_
      rintro e w2 ⟨rfl, hi2, hb2⟩
      have hw12 := But.below (unhide HF2).2.1 hb2 (Nat.le_refl _)
      have hi1' := hi1.below hw12
      have hw2 := bnext hw1 hw12
      clear hi1 hb2 A2 HF2 hw12
      have N1 := hide (newInt_any 1 w2 (by unfold in64; decide))
      go_wp2_with fail
      refine (unhide N1).mono ?_
      rintro e w3 ⟨rfl, hi3, hb3⟩
      have hi1'' := hi1'.below hb3
      have hi2' := hi2.below hb3
      have hw3 := bnext hw2 hb3
      have N2 := hide (newInt_any 0 w3 (by unfold in64; decide))
      clear hi1' hi2 hb3 N1 hw2
      go_wp2_with fail
      refine (unhide N2).mono ?_
      rintro e w4 ⟨rfl, hi4, hb4⟩
      have g1 := hide (hi1''.below hb4)
      have g2 := hide (hi2'.below hb4)
      have g3 := hide (hi3.below hb4)
      have g4 := hide hi4
      have hw4 := bnext hw3 hb4
      clear hi1'' hi2' hi3 hi4 hb4 hw3 N2
      generalize w1.heap.size = k1 at *
      generalize w2.heap.size = k2 at *
      generalize w3.heap.size = k3 at *
      go_wp2
      go_loopw [15, 16, 17, 18] (fun vp vq vs vt wr => ∃ (bp bq bs bt P Q : Nat) (s t : Int), vp = ptr bp ∧ vq = ptr bq ∧ vs = ptr bs ∧ vt = ptr bt ∧ 0 < P ∧ P < 18446744073709551616 ∧ Q < 18446744073709551616 ∧ w.heap.size ≤ bp ∧ w.heap.size ≤ bq ∧ Hid (IntAt wr bp (P : Int)) ∧ Hid (IntAt wr bq (Q : Int)) ∧ Hid (IntAt wr bs s) ∧ Hid (IntAt wr bt t) ∧ Hid (Nat.gcd P Q = Nat.gcd m n) ∧ Hid (P * t.natAbs + Q * s.natAbs ≤ n) ∧ Below w.heap.size w wr) (fun vp vq vs vt wr => sizeAt wr vq)
      case atStart => exact ⟨w.heap.size, k1, k2, k3, m, n, 1, 0, rfl, rfl, rfl, rfl, by omega, hm, hn, Nat.le_refl _, by omega, g1, g2, g3, g4, hide rfl, hide (by simp), hw4⟩
      case round =>
        clear g1 g2 g3 g4 hs1 hw1 hw4 HX HY x0 x1 y0 y1
        obtain ⟨bp, bq, bs, bt, P, Q, s, t, rfl, rfl, rfl, rfl, hP0, hP, hQ, hlp, hlq, I1, I2, I3, I4, HG, HB, hb⟩ := hrel
        by_cases hQ0 : Q = 0
        · subst hQ0
          obtain ⟨v, hv1, hv2⟩ := unhide I2
          have y1 : wr.cell? ⟨bq, 1, none⟩ = some v := by rw [cell_row hv1]; rfl
          rcases hv2 with ⟨rfl, _⟩ | ⟨bb, cc, rfl, _, _⟩
          all_goals
            have hg : Nat.gcd m n = P := by rw [← unhide HG]; exact Nat.gcd_zero_right P
            have C := hide (iset_fresh z bp (P : Int) wr ((unhide HZ).below hb) (by omega) (unhide I1) (by rw [Int.natAbs_natCast]; exact Nat.le_trans (wordsOf_len_two hP) (by decide)))
            have HG2 := hide hg
            clear hv1 hg
            try rw [show (wordsOf (Int.natAbs ((0 : Nat) : Int))).length = 0 from rfl] at y1
            go_wp2_with fail
            refine (unhide C).mono ?_
            rintro e w1 ⟨rfl, hi, hb1⟩
            go_wp2
            go_ret
            exact ⟨rfl, by rw [unhide HG2]; exact hi, (But.of_below hb).trans hb1⟩
        · obtain ⟨v, hv1, hv2⟩ := unhide I2
          have y1 : wr.cell? ⟨bq, 1, none⟩ = some v := by rw [cell_row hv1]; rfl
          rw [Int.natAbs_natCast] at hv2
          obtain ⟨pv, cv, rfl, hcv, _⟩ := hv2.slice
          have hql : (wordsOf Q).length ≠ 0 := fun e => hQ0 ((wordsOf_len_zero Q).1 e)
          have hql2 := wordsOf_len_two hQ
          generalize (wordsOf Q).length = lq at *
          have F := two_fresh wr
          have hlt1 := (unhide I1).block.lt
          have hlt2 := (unhide I2).block.lt
          have hlt3 := (unhide I3).block.lt
          have hlt4 := (unhide I4).block.lt
          have hst := hide (factor_step P Q n s t (unhide HB))
          have hsm := factor_small (unhide HB) hP0 (by omega) hn
          have C1 := hide (quoRem_any wr.heap.size bp bq (wr.heap.size + 1) (P : Int) (Q : Int) ((wr.alloc newObj).alloc newObj) F.1.block F.2.1.block (by omega) ((unhide I1).below F.2.2.1) ((unhide I2).below F.2.2.1) (by rw [Int.natAbs_natCast]; exact hP) (by rw [Int.natAbs_natCast]; exact hQ) (by omega))
          rw [show (P : Int).tdiv (Q : Int) = ((P / Q : Nat) : Int) by rw [Int.tdiv_eq_ediv_of_nonneg (by omega)]; rfl, show (P : Int).tmod (Q : Int) = ((P % Q : Nat) : Int) by rw [Int.tmod_eq_emod_of_nonneg (by omega)]; rfl] at C1
          have hdl : P / Q ≤ P := Nat.div_le_self P Q
          have hrl : P % Q < Q := Nat.mod_lt P (by omega)
          have HG3 := hide (show Nat.gcd Q (P % Q) = Nat.gcd m n by rw [← unhide HG, Nat.gcd_comm P Q, Nat.gcd_rec Q P, Nat.gcd_comm])
          generalize P / Q = d at *
          generalize P % Q = r at *
          have HF := hide F.2.2
          have HSM := hide hsm
          clear hv1 hv2 F hsm
          go_wp2_with fail
          refine (unhide C1).mono ?_
          rintro e w1 ⟨rfl, hd, hr, hb1⟩
          have hw1 : Below wr.heap.size wr w1 := (unhide HF).1.trans (hb1.below (Nat.le_refl _) (by omega) (by rw [(unhide HF).2]; omega))
          have I2' := (unhide I2).below hw1
          have I3' := (unhide I3).below hw1
          have I4' := (unhide I4).below hw1
          have hs1 : wr.heap.size + 1 < w1.heap.size := hr.block.lt
          have F2 := two_fresh w1
          have l1 : (wordsOf ((d : Int)).natAbs).length ≤ 2 := wordsOf_len_two (by rw [Int.natAbs_natCast]; omega)
          have l2 : (wordsOf t.natAbs).length ≤ 2 := wordsOf_len_two (unhide HSM).1
          have l3 : (wordsOf s.natAbs).length ≤ 2 := wordsOf_len_two (unhide HSM).2
          have l4 : (wordsOf ((d : Int) * t).natAbs).length ≤ 4 := by
            apply wordsOf_length_le
            rw [Int.natAbs_mul]
            have := Nat.mul_lt_mul'' (show (d : Int).natAbs < 18446744073709551616 by rw [Int.natAbs_natCast]; omega) (unhide HSM).1
            omega
          have C2 := hide (imul_fresh (w1.heap.size + 1) wr.heap.size bt (d : Int) t ((w1.alloc newObj).alloc newObj) F2.2.1.block (by omega) (by omega) (hd.below F2.2.2.1) (I4'.below F2.2.2.1) (by omega) (by omega))
          have J2 := hide (I2'.below F2.2.2.1)
          have J3 := hide (I3'.below F2.2.2.1)
          have J4 := hide (I4'.below F2.2.2.1)
          have JR := hide (hr.below F2.2.2.1)
          have JS := hide F2.1
          have JM := hide F2.2.1.block
          have HF2 := hide F2.2.2
          have HQM := hide (show sizeAt wr (ptr bq) = Q by have := (unhide I2).worth; rw [Int.natAbs_natCast] at this; exact this)
          have hw1' := hide hw1
          have hsz := hb.size
          generalize wr.heap.size = h2 at *
          clear I2' I3' I4' F2 hb1 hd hr C1 HF hw1 I1 I2 I3 I4
          go_wp2_with fail
          refine (unhide C2).mono ?_
          rintro e w5 ⟨rfl, hm5, hb5⟩
          have K2 := (unhide J2).but hb5 (unhide JM) (by omega)
          have K3 := (unhide J3).but hb5 (unhide JM) (by omega)
          have K4 := (unhide J4).but hb5 (unhide JM) (by omega)
          have KR := (unhide JR).but hb5 (unhide JM) (by omega)
          have KS := (unhide JS).block.but hb5 (by omega)
          have hw5 : Below w1.heap.size w1 w5 := (unhide HF2).1.trans (hb5.belowz (by omega) (by rw [(unhide HF2).2]; omega))
          have C3 := hide (isub_fresh w1.heap.size bs (w1.heap.size + 1) s ((d : Int) * t) w5 KS (by omega) (by omega) K3 hm5 (by omega) (by omega))
          clear C2 J2 J3 J4 JR JS JM HF2 hb5 hm5
          go_wp2_with fail
          refine (unhide C3).mono ?_
          rintro e w6 ⟨rfl, hi6, hb6⟩
          have E2 := hide (K2.but hb6 KS (by omega))
          have E4 := hide (K4.but hb6 KS (by omega))
          have ER := hide (KR.but hb6 KS (by omega))
          have E6 := hide hi6
          have hw6 : Below w1.heap.size w1 w6 := hw5.trans (hb6.belowz (Nat.le_refl _) hw5.size)
          have hbw : Below w.heap.size w w6 := (hb.trans ((unhide hw1').mono (by have := hb.size; omega))).trans (hw6.mono (by have := hb.size; omega))
          clear C3 K2 K3 K4 KR KS hw5 hi6 hb6
          have HEM := hide (show sizeAt w6 (ptr (h2 + 1)) = r by have := (unhide ER).worth; rw [Int.natAbs_natCast] at this; exact this)
          go_wp2
          exact ⟨⟨bq, h2 + 1, bt, w1.heap.size, Q, r, t, s - (d : Int) * t, rfl, rfl, rfl, rfl, by omega, hQ, by omega, hlq, by omega, E2, ER, E4, E6, HG3, hst, hbw⟩, by rw [unhide HEM, unhide HQM]; exact hrl⟩
end Go.Proofs.Ytfjbafdgjpdbdaa
