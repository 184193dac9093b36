/- CodeDepth, the law's walk. -/
import Derived.Test.YtpclpjcemeckgaaDoorCdI
namespace Go.Proofs.YtpclpjcemeckgaaDoor
open Go.RowKit

set_option maxRecDepth 100000 in
set_option maxHeartbeats 16000000 in
theorem codeDepth_walk (V : PV) (P : List SV) (w : World) (hX : ShapesX w) (hP : Shapes w) (ht : TensAt w) (hlt : ∀ W, Below w.heap.size w W → PIn W V P) :
    Calls Tryd.prog 4 #[V.v P.length] w fun e w' => e = .returned (.bool true) ∧ Below w.heap.size w w' := by
  have HAL := hide (alive13_any w hX hP ht)
  have HMK := hide (fun W (q : Below w.heap.size w W) => make_any W V P ⟨fun W' q' => hlt W' (bnext q q'), fun W' q' => (hX.later q).later q', fun W' q' => (hP.later q).later q'⟩ (tens_stay ht q))
  have HEV := hide (fun h => cod_even (P := P) h)
  have HRL := hide (show (lookS P).er = 0 → (codL (labF P) P).length ≤ 90000000 from fun h => by
    have hR := look_right h
    have := out_len (fl := labF P) (fun i S hS => sv_right (hR.own i S hS)) P.length (Nat.le_refl _)
    have := hR.len
    unfold codL rawL
    rw [List.length_map, List.length_append, List.length_cons, List.length_nil]; omega)
  have hzf : ∀ (a b : Int), (#[Value.int .i64 a, .int .i64 b] : Array Value).all (·.oneCell') = true := fun a b => by simp [Value.oneCell']
  clear hX hP ht hlt
  go_enter Tryd.func4, Tryd.ntmps4
  go_wp2_with fail
  refine (unhide HAL).mono ?_
  rintro e w1 ⟨rfl, hb1⟩
  have HB1 := hide hb1
  have HM1 := hide (unhide HMK w1 hb1)
  clear hb1 HAL HMK
  go_wp2_with fail
  refine (unhide HM1).mono ?_
  rintro e w2 ⟨hr2, hb2⟩
  have HB2 := hide (bnext (unhide HB1) hb2)
  clear hb2 HM1
  rcases hr2 with ⟨he, rfl⟩ | ⟨he, ov, sv, rfl, hro, hsv⟩
  · have q0 : ((lookS P).er == 0) = false := by rw [beq_eq_false_iff_ne]; exact he
    have r0 : ((lookS P).er != 0) = true := by rw [bne, q0]; rfl
    clear he HEV HRL
    generalize (lookS P).er = er at *
    generalize (lookS P).at_ = at2 at *
    go_wp2_with fail
    go_ret
    exact ⟨rfl, (unhide HB2).alloc (unhide HB2).size _⟩
  · have HD := hide (unhide HEV he)
    have hln := unhide HRL he
    clear he HEV HRL
    generalize codL (labF P) P = L at *
    obtain ⟨oa, ocap, rfl, -, -⟩ := hro.len
    obtain ⟨sa, scap, rfl, -, -⟩ := hsv.len
    have hal : Below w2.heap.size w2 (w2.alloc (.cells #[.int .i64 0, .int .i64 0] 28)) := (Below.refl _ _).alloc (Nat.le_refl _) _
    have HRO := hide (hro.later hal)
    have HB3 := hide (bnext (unhide HB2) hal)
    clear hro hsv hal
    generalize (stsTo (labF P) P P.length).length = sn at *
    go_wp2_with fail
    generalize w2.alloc (.cells #[.int .i64 0, .int .i64 0] 28) = w3 at *
    go_loopw [6, 7, 25] (fun a b i wr => ∃ (k : Nat) (p : Nat × Nat), k ≤ L.length ∧ i = .int .i64 (k : Int) ∧ a = .int .i64 (p.1 : Int) ∧ b = .int .i64 (p.2 : Int) ∧ p.1 ≤ k ∧ p.2 ≤ k ∧ Hid (DRun (L.drop k) p (0, 0) ∧ Below w3.heap.size w3 wr)) (fun _ _ i _ => L.length - (intOf i).toNat)
    case atStart => exact ⟨0, (0, 0), by omega, rfl, rfl, rfl, Nat.le_refl _, Nat.le_refl _, unhide HD, Below.refl _ _⟩
    case round =>
      obtain ⟨k, ⟨t, s⟩, hk, rfl, rfl, rfl, hp1, hp2, HI⟩ := hrel
      have hp1 : t ≤ k := hp1
      have hp2 : s ≤ k := hp2
      rcases Nat.lt_or_ge k L.length with hkt | hkt
      · obtain ⟨x, hx⟩ : ∃ x, L[k]? = some x := ⟨L[k]'hkt, List.getElem?_eq_getElem _⟩
        obtain ⟨⟨t2, s2⟩, hst, hrn⟩ := (unhide HI).1.at_ hx
        have hg := hst.grow
        have hg1 : t2 ≤ t + 1 := hg.1
        have hg2 : s2 ≤ s + 1 := hg.2
        have hro := (unhide HRO).later (unhide HI).2
        obtain ⟨g, gcap, hov, -, -⟩ := hro.form (fun e => by rw [e] at hkt; simp at hkt)
        injection hov with e1 _ e3
        subst e1 e3
        have HZ := hide (show ∀ W, Below wr.heap.size wr W → DRun (L.drop (k + 1)) (t2, s2) (0, 0) ∧ Below w3.heap.size w3 W from fun W q => ⟨hrn, bnext (unhide HI).2 q⟩)
        obtain ⟨op, tx, nn, tg⟩ := x
        have e0 := hro.cell iC_len rfl hx (show (iC ⟨op, tx, nn, tg⟩)[0]? = some (.int .i64 op) from rfl)
        have e1 := hro.cell iC_len rfl hx (show (iC ⟨op, tx, nn, tg⟩)[1]? = some (.string tx) from rfl)
        have e2 := hro.cell iC_len rfl hx (show (iC ⟨op, tx, nn, tg⟩)[2]? = some (.int .i64 nn) from rfl)
        have e3 := hro.cell iC_len rfl hx (show (iC ⟨op, tx, nn, tg⟩)[3]? = some (.int .i64 tg) from rfl)
        rw [Nat.add_zero] at e0
        have hgl : g < wr.heap.size := World.block_lt_of_cell? _ _ e0
        have hix := idx4 (g := g) (cap := ocap) hkt
        have HZ4 := hide (unhide HZ (wr.alloc (.cells #[.int .i64 op, .string tx, .int .i64 nn, .int .i64 tg] 33)) ((Below.refl _ _).alloc (Nat.le_refl _) _))
        clear hro hx hrn hg HZ
        unfold DStep at hst
        simp only at hst
        rcases hst with ⟨h | h, h1, h2⟩ | ⟨h | h, h0, h1, h2⟩ | ⟨h, h0, h1, h2⟩ | ⟨h | h, ⟨m, hm, h0, h1⟩, h2⟩ | ⟨h, h1, h2⟩ | ⟨h | h, h0, h1, h2⟩ | ⟨h, h0, h1, h2⟩ | ⟨h | h, h0, h1, h2⟩ | ⟨h, h0, h1, h2⟩ | ⟨h, h0, h1, h2⟩ | ⟨h, h0, h00, h1, h2⟩ | ⟨h | h, h1⟩ | ⟨h, h1, h2⟩
        · have hT := h1
          have hS := h2
          subst h
          have b0 : ¬ (t : Int) < 0 := by omega
          have b1 : ¬ (s : Int) < 0 := by omega
          go_wp2_with fail
          exact ⟨⟨k + 1, (t2, s2), by omega, by go_num, by rw [hT] <;> go_num, by rw [hS] <;> go_num, by show t2 ≤ k + 1; omega, by show s2 ≤ k + 1; omega, unhide HZ4⟩, by simp [intOf]; omega⟩
        · have hT := h1
          have hS := h2
          subst h
          have b0 : ¬ (t : Int) < 0 := by omega
          have b1 : ¬ (s : Int) < 0 := by omega
          go_wp2_with fail
          exact ⟨⟨k + 1, (t2, s2), by omega, by go_num, by rw [hT] <;> go_num, by rw [hS] <;> go_num, by show t2 ≤ k + 1; omega, by show s2 ≤ k + 1; omega, unhide HZ4⟩, by simp [intOf]; omega⟩
        · have hT := h1
          have hS := h2
          subst h
          have b0 : ¬ (t : Int) < 1 := by omega
          have b1 : ¬ (s : Int) < 0 := by omega
          go_wp2_with fail
          exact ⟨⟨k + 1, (t2, s2), by omega, by go_num, by rw [hT] <;> go_num, by rw [hS] <;> go_num, by show t2 ≤ k + 1; omega, by show s2 ≤ k + 1; omega, unhide HZ4⟩, by simp [intOf]; omega⟩
        · have hT := h1
          have hS := h2
          subst h
          have b0 : ¬ (t : Int) < 1 := by omega
          have b1 : ¬ (s : Int) < 0 := by omega
          go_wp2_with fail
          exact ⟨⟨k + 1, (t2, s2), by omega, by go_num, by rw [hT] <;> go_num, by rw [hS] <;> go_num, by show t2 ≤ k + 1; omega, by show s2 ≤ k + 1; omega, unhide HZ4⟩, by simp [intOf]; omega⟩
        · have hT := h1
          have hS := h2
          subst h
          have b0 : ¬ (t : Int) < 2 := by omega
          have b1 : ¬ (s : Int) < 0 := by omega
          go_wp2_with fail
          exact ⟨⟨k + 1, (t2, s2), by omega, by go_num, by rw [hT] <;> go_num, by rw [hS] <;> go_num, by show t2 ≤ k + 1; omega, by show s2 ≤ k + 1; omega, unhide HZ4⟩, by simp [intOf]; omega⟩
        · have hT := h1
          have hS := h2
          subst h
          subst hm
          have b0 : ¬ (t : Int) < m := by omega
          have b1 : ¬ (s : Int) < 0 := by omega
          go_wp2_with fail
          exact ⟨⟨k + 1, (t2, s2), by omega, by go_num, by rw [hT] <;> go_num, by rw [hS] <;> go_num, by show t2 ≤ k + 1; omega, by show s2 ≤ k + 1; omega, unhide HZ4⟩, by simp [intOf]; omega⟩
        · have hT := h1
          have hS := h2
          subst h
          subst hm
          have b0 : ¬ (t : Int) < m := by omega
          have b1 : ¬ (s : Int) < 0 := by omega
          go_wp2_with fail
          exact ⟨⟨k + 1, (t2, s2), by omega, by go_num, by rw [hT] <;> go_num, by rw [hS] <;> go_num, by show t2 ≤ k + 1; omega, by show s2 ≤ k + 1; omega, unhide HZ4⟩, by simp [intOf]; omega⟩
        · have hT := h1
          have hS := h2
          subst h
          have b0 : ¬ (t : Int) < 0 := by omega
          have b1 : ¬ (s : Int) + 1 < 0 := by omega
          go_wp2_with fail
          exact ⟨⟨k + 1, (t2, s2), by omega, by go_num, by rw [hT] <;> go_num, by rw [hS] <;> go_num, by show t2 ≤ k + 1; omega, by show s2 ≤ k + 1; omega, unhide HZ4⟩, by simp [intOf]; omega⟩
        · have hT := h1
          have hS := h2
          subst h
          have b0 : ¬ (t : Int) < 1 := by omega
          have b1 : ¬ (s : Int) + 1 < 0 := by omega
          go_wp2_with fail
          exact ⟨⟨k + 1, (t2, s2), by omega, by go_num, by rw [hT] <;> go_num, by rw [hS] <;> go_num, by show t2 ≤ k + 1; omega, by show s2 ≤ k + 1; omega, unhide HZ4⟩, by simp [intOf]; omega⟩
        · have hT := h1
          have hS := h2
          subst h
          have b0 : ¬ (t : Int) < 1 := by omega
          have b1 : ¬ (s : Int) + 1 < 0 := by omega
          go_wp2_with fail
          exact ⟨⟨k + 1, (t2, s2), by omega, by go_num, by rw [hT] <;> go_num, by rw [hS] <;> go_num, by show t2 ≤ k + 1; omega, by show s2 ≤ k + 1; omega, unhide HZ4⟩, by simp [intOf]; omega⟩
        · have hT := h1
          have hS := h2
          subst h
          have b0 : ¬ (t : Int) < 0 := by omega
          have b1 : ¬ (s : Int) < 0 := by omega
          have b2 : ¬ (s : Int) < 1 := by omega
          go_wp2_with fail
          exact ⟨⟨k + 1, (t2, s2), by omega, by go_num, by rw [hT] <;> go_num, by rw [hS] <;> go_num, by show t2 ≤ k + 1; omega, by show s2 ≤ k + 1; omega, unhide HZ4⟩, by simp [intOf]; omega⟩
        · have hT := h1
          have hS := h2
          subst h
          have b0 : ¬ (t : Int) < 1 := by omega
          have b1 : ¬ (s : Int) < 0 := by omega
          go_wp2_with fail
          exact ⟨⟨k + 1, (t2, s2), by omega, by go_num, by rw [hT] <;> go_num, by rw [hS] <;> go_num, by show t2 ≤ k + 1; omega, by show s2 ≤ k + 1; omega, unhide HZ4⟩, by simp [intOf]; omega⟩
        · have hT := h1
          have hS := h2
          subst h
          have b0 : ¬ (t : Int) < 1 := by omega
          have b1 : ¬ (s : Int) < 0 := by omega
          go_wp2_with fail
          exact ⟨⟨k + 1, (t2, s2), by omega, by go_num, by rw [hT] <;> go_num, by rw [hS] <;> go_num, by show t2 ≤ k + 1; omega, by show s2 ≤ k + 1; omega, unhide HZ4⟩, by simp [intOf]; omega⟩
        · have hT := h1
          have hS := h2
          subst h
          have b0 : ¬ (t : Int) < 1 := by omega
          have b1 : ¬ (s : Int) < 0 := by omega
          go_wp2_with fail
          exact ⟨⟨k + 1, (t2, s2), by omega, by go_num, by rw [hT] <;> go_num, by rw [hS] <;> go_num, by show t2 ≤ k + 1; omega, by show s2 ≤ k + 1; omega, unhide HZ4⟩, by simp [intOf]; omega⟩
        · have hT := h1
          have hS := h2
          subst h
          have b0 : ¬ (t : Int) < 3 := by omega
          have b1 : ¬ (s : Int) < 0 := by omega
          go_wp2_with fail
          exact ⟨⟨k + 1, (t2, s2), by omega, by go_num, by rw [hT] <;> go_num, by rw [hS] <;> go_num, by show t2 ≤ k + 1; omega, by show s2 ≤ k + 1; omega, unhide HZ4⟩, by simp [intOf]; omega⟩
        · have hT := h1
          have hS := h2
          subst h
          have b0 : ¬ (t : Int) < 1 := by omega
          have b1 : ¬ (s : Int) - 1 < 0 := by omega
          go_wp2_with fail
          exact ⟨⟨k + 1, (t2, s2), by omega, by go_num, by rw [hT] <;> go_num, by rw [hS] <;> go_num, by show t2 ≤ k + 1; omega, by show s2 ≤ k + 1; omega, unhide HZ4⟩, by simp [intOf]; omega⟩
        · injection h1 with h1 h2
          have hT : t2 = t := h1
          have hS : s2 = s := h2
          subst h
          have b0 : ¬ (t : Int) < 0 := by omega
          have b1 : ¬ (s : Int) < 0 := by omega
          go_wp2_with fail
          exact ⟨⟨k + 1, (t2, s2), by omega, by go_num, by rw [hT] <;> go_num, by rw [hS] <;> go_num, by show t2 ≤ k + 1; omega, by show s2 ≤ k + 1; omega, unhide HZ4⟩, by simp [intOf]; omega⟩
        · injection h1 with h1 h2
          have hT : t2 = t := h1
          have hS : s2 = s := h2
          subst h
          have b0 : ¬ (t : Int) < 0 := by omega
          have b1 : ¬ (s : Int) < 0 := by omega
          go_wp2_with fail
          exact ⟨⟨k + 1, (t2, s2), by omega, by go_num, by rw [hT] <;> go_num, by rw [hS] <;> go_num, by show t2 ≤ k + 1; omega, by show s2 ≤ k + 1; omega, unhide HZ4⟩, by simp [intOf]; omega⟩
        · injection h1 with a1 a2
          injection h2 with c1 c2
          subst a1 a2 c1 c2
          have h4 : op = 19 ∨ op = 20 ∨ op = 21 ∨ op = 22 := by omega
          clear h
          rcases h4 with rfl | rfl | rfl | rfl
          · go_wp2_with fail
            exact ⟨⟨k + 1, (0, 0), by omega, by go_num, by go_num, by go_num, by show 0 ≤ k + 1; omega, by show 0 ≤ k + 1; omega, unhide HZ4⟩, by simp [intOf]; omega⟩
          · go_wp2_with fail
            exact ⟨⟨k + 1, (0, 0), by omega, by go_num, by go_num, by go_num, by show 0 ≤ k + 1; omega, by show 0 ≤ k + 1; omega, unhide HZ4⟩, by simp [intOf]; omega⟩
          · go_wp2_with fail
            exact ⟨⟨k + 1, (0, 0), by omega, by go_num, by go_num, by go_num, by show 0 ≤ k + 1; omega, by show 0 ≤ k + 1; omega, unhide HZ4⟩, by simp [intOf]; omega⟩
          · go_wp2_with fail
            exact ⟨⟨k + 1, (0, 0), by omega, by go_num, by go_num, by go_num, by show 0 ≤ k + 1; omega, by show 0 ≤ k + 1; omega, unhide HZ4⟩, by simp [intOf]; omega⟩
      · obtain rfl : k = L.length := by omega
        have hd : (t, s) = ((0, 0) : Nat × Nat) := by
          have h := (unhide HI).1
          rw [List.drop_length] at h
          exact h
        injection hd with e1 e2
        subst e1 e2
        go_wp2_with fail
        go_ret
        exact ⟨rfl, bnext (unhide HB3) (unhide HI).2⟩
end Go.Proofs.YtpclpjcemeckgaaDoor
