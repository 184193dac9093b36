/- The reader of patterns: a piece and the names that are given it. -/
import Derived.Test.YtimbfelbalfmiaaDoorRdI
import Derived.Test.YtimbfelbalfmiaaDoorRegionSink
namespace Go.Proofs.YtimbfelbalfmiaaDoor
open Go.RowKit

section
variable {P : Program} {ops : Array Oper} {Q : Exit → Act → World → Prop} {S : World → Prop} {n : Nat}
/-- Two operations may come up. -/
theorem stepE2 {i j : Nat} {oi oj : Oper} {f : Nat} {listed : Array Bool} {a : Act} {w : World} (hr : Region.ready .any ops listed = [i, j]) (hi : ops[i]? = some oi) (hj : ops[j]? = some oj) (hin : decide (i < n) = true) (hjn : decide (j < n) = true)
    (h1 : ∀ K : Act → World → Prop, (∀ a' w', S w' → (Inv ops n (listed.setIfInBounds i true) → AnyE P ops Q S n f (listed.setIfInBounds i true) a' w') → K a' w') →
      if Region.wanted oi (yielded ops a.tmps) = true then Oper.wp P oi a w K Q else K (a.put oi.dst undef) w)
    (h2 : ∀ K : Act → World → Prop, (∀ a' w', S w' → (Inv ops n (listed.setIfInBounds j true) → AnyE P ops Q S n f (listed.setIfInBounds j true) a' w') → K a' w') →
      if Region.wanted oj (yielded ops a.tmps) = true then Oper.wp P oj a w K Q else K (a.put oj.dst undef) w) : Inv ops n listed → AnyE P ops Q S n (f + 1) listed a w := fun inv =>
  ⟨fun h0 => absurd (hr ▸ h0) (by simp), fun k hk => by
    have hk' : k = i ∨ k = j := by rw [hr] at hk; simpa using hk
    rcases hk' with rfl | rfl
    · exact wpOp_step hi fun K hK => h1 K fun a' w' hS hA => hK a' w' ⟨fun _ => hS, hA (inv.set hk (of_decide_eq_true hin))⟩
    · exact wpOp_step hj fun K hK => h2 K fun a' w' hS hA => hK a' w' ⟨fun _ => hS, hA (inv.set hk (of_decide_eq_true hjn))⟩⟩
end
theorem rowN_liesX {k' B gk : Nat} {g : Option Nat} {nm : ByteArray} {w : World} {U : PT} (hk : k' ≤ 100) (hn : nm.size ≤ 65536) (hr : w.heap[gk]? = some (.cells (patO U) 24 (0, 0))) (hB : B ≤ gk) (hg : some gk ≠ g) (hU : LiesX B g w U) : LiesX B g w (rowN (k' : Int) nm gk 1 [U]) := by
  intro X hX
  have hlt : gk < w.heap.size := (Array.getElem?_eq_some_iff.1 hr).1
  have hr2 : X.heap[gk]? = some (.cells (patO U) 24 (0, 0)) := (hX gk hB hlt hg).trans hr
  exact rowN_in (row_one hr2 (B := B) hB) (fun x hx => by rw [List.mem_singleton] at hx; subst hx; exact hU X hX) (k' : Int) rfl hk hn
theorem wanted_op {P : Program} {o : Oper} {ops : Array Oper} {a : Act} {w : World} {K : Act → World → Prop} {Q : Exit → Act → World → Prop} {E : Prop} (hg : o.guard = none) (h : Oper.wp P o a w K Q) : if Region.wanted o (yielded ops a.tmps) = true then Oper.wp P o a w K Q else E := by
  rw [if_pos (by simp [Region.wanted, hg])]; exact h
theorem LiesX.setRow {B g : Nat} {w : World} {U : PT} (h : LiesX B (some g) w U) (cs : Array Value) : LiesX B (some g) (w.setRow g cs) U := h.step (by simp) fun i _ _ h3 => setRow_other w g i cs (fun e => h3 (by rw [e]))
theorem piece_end {s : ByteArray} {z a1 gp gk K f k0 : Nat} {o : Int} {w W wr : World} {V q : PT} {t : ByteArray} {RR : Rd PT} (ha : a1 ≤ s.size) (hf : s.size < a1 + f) (hgp : gp < W.heap.size) (hR : Rdr W z s a1 o) (hB : But z w W)
    (hX : W.heap[w.heap.size]? = some (.cells zeroP 24 (0, 0))) (hP : W.heap[gp]? = some (.cells (patO V) 24 (0, 0))) (hk : W.heap[gk]? = some (.cells (patO V) 24 (0, 0))) (hgk : gk ≠ gp) (hlk : w.heap.size + 1 ≤ gk) (hlp : w.heap.size + 1 ≤ gp) (hgz : gp ≠ z)
    (hc : V.can = q) (hL : LiesX (w.heap.size + 1) (some gp) W V) (hE : RR = gvF s f (mkP (K : Int) ⟨#[]⟩ 0 t [q]) a1) (hK : K ≤ 22) (ht : t.size ≤ 65536) (hm : atIn wr z = k0) (hlt : k0 < a1) :
    (∃ (f k : Nat) (q' V' : PT), k ≤ s.size ∧ s.size < k + f ∧ gp + 1 ≤ (W.setRow gp (patO (rowN (K : Int) t gk 1 [V]))).heap.size ∧ Hid (Rdr (W.setRow gp (patO (rowN (K : Int) t gk 1 [V]))) z s k o) ∧ Hid (But z w (W.setRow gp (patO (rowN (K : Int) t gk 1 [V])))) ∧ Hid ((W.setRow gp (patO (rowN (K : Int) t gk 1 [V]))).heap[w.heap.size]? = some (.cells zeroP 24 (0, 0))) ∧ Hid ((W.setRow gp (patO (rowN (K : Int) t gk 1 [V]))).heap[gp]? = some (.cells (patO V') 24 (0, 0))) ∧ Hid (V'.can = q' ∧ LiesX (w.heap.size + 1) (some gp) (W.setRow gp (patO (rowN (K : Int) t gk 1 [V]))) V') ∧ Hid (RR = gvF s f q' k)) ∧
    s.size + 1 - atIn (W.setRow gp (patO (rowN (K : Int) t gk 1 [V]))) z < s.size + 1 - atIn wr z := by
  have hR2 := hR.setRow hgz (patO (rowN (K : Int) t gk 1 [V]))
  refine ⟨⟨f, a1, mkP (K : Int) ⟨#[]⟩ 0 t [q], rowN (K : Int) t gk 1 [V], ha, hf, by rw [show (W.setRow gp (patO (rowN (K : Int) t gk 1 [V]))).heap.size = W.heap.size by simp]; exact hgp, hR2, but_setRow hB (by omega) _, (setRow_other W gp _ _ (by omega)).trans hX, setRow_heap _ _ _ _ _ _ hP, ⟨?_, ?_⟩, hE⟩, ?_⟩
  · rw [rowN_can, List.map_cons, List.map_nil, hc]
  · exact rowN_liesX (by omega) ht ((setRow_other W gp gk _ hgk).trans hk) hlk (fun e => hgk (by injection e)) (hL.setRow _)
  · rw [hR2.at, hm]; omega
theorem gvK_le (b : Nat) : gvK b ≤ 22 := by unfold gvK; split <;> (try split) <;> omega
theorem gvF_step (s : ByteArray) (f : Nat) (p : PT) (i : Nat) : gvF s (f + 1) p i = if gvK (nx s i) = 0 then .ok (p, sk s i) else bnd (nmP s (sk s i + 1)) fun t e => gvF s f (mkP (gvK (nx s i)) ⟨#[]⟩ 0 t [p]) e := rfl
set_option maxRecDepth 100000 in
set_option maxHeartbeats 4000000 in
theorem piece_any {d : Nat} {B : ByteArray → Nat → Rd PT} (hB : ∀ s, Adv s (B s)) (HBA : Says 30 d (fun s => baP d (B s) s)) : Says 25 d (fun s => piP d (B s) s) := by
  intro s i z w hs hi hR hS hzG
  have hzl := hR.lt
  have hb0 : But z w (w.alloc (.cells zeroP 24)) := (But.refl z w).alloc _
  have hR0 := hR.below ((Below.refl _ _).alloc (Nat.le_refl _) (.cells zeroP 24))
  have hne : w.heap.size ≠ z := by omega
  have HB0 := hide hb0
  have HX0 := hide (show (w.alloc (.cells zeroP 24)).heap[w.heap.size]? = some (.cells zeroP 24 (0, 0)) from zbox)
  have HC := hide (show Calls Tryd.prog 30 #[.pointer (some ⟨z, 0, none⟩)] (w.alloc (.cells zeroP 24)) fun e w' => RdPost (patL (w.alloc (.cells zeroP 24)).heap.size) z s ((200 - d : Nat) : Int) (w.alloc (.cells zeroP 24)) (baP d (B s) s i) e w' from HBA s i z _ hs hi hR0 (hS.but hb0 hzG) hzG)
  show Calls _ _ _ _ fun e w' => RdPost (patL w.heap.size) z s ((200 - d : Nat) : Int) w (piP d (B s) s i) e w'
  have HRR := hide (show piP d (B s) s i = bnd (baP d (B s) s i) fun p j => gvF s (s.size + 1) p j from rfl)
  have HAD := hide (fun x j => baP_adv (d := d) (hB s) i x j hi)
  generalize piP d (B s) s i = RR at *
  generalize ((200 - d : Nat) : Int) = o at *
  generalize baP d (B s) s i = RB at *
  clear hb0 hR0 hR hS HBA hB
  rcases RB with ⟨er, a1⟩ | ⟨p0, j0⟩
  · have HRE := hide (show RR = .error (er, a1) by rw [unhide HRR, bnd_err])
    go_enter Tryd.func25, Tryd.ntmps25
    go_wp2_with (refine (unhide HC).mono ?_; intro e w3 hP; obtain ⟨hb3, rfl⟩ := of_err hP rfl; clear hP; have HB3 := hide ((unhide HB0).trans hb3); clear hb3; unfold thr)
    exact ⟨rfl, post_err (unhide HRE) (unhide HB3) rfl⟩
  · have HR1 := hide (show RR = gvF s (s.size + 1) p0 j0 by rw [unhide HRR, bnd_ok])
    have hadv := unhide HAD p0 j0 rfl
    clear HRR HAD
    go_enter Tryd.func25, Tryd.ntmps25
    go_wp2_with fail
    refine (unhide HC).mono ?_
    intro e w1 hP
    obtain ⟨hb1, ⟨U, rfl, hU, hL⟩, hRd1⟩ := of_ok hP rfl
    rw [World.size_alloc] at hL
    have hs1 : w.heap.size + 1 ≤ w1.heap.size := by have := hb1.size; rw [World.size_alloc] at this; exact this
    have HB1 := hide ((unhide HB0).trans hb1)
    have HX1 := hide (but_z hb1 (unhide HX0) hne)
    have H1 := hide hRd1
    have HU := hide (And.intro hU hL)
    clear hP hb1 hRd1 hU hL HC
    have hb2 : Below w1.heap.size w1 (w1.alloc (.cells (patO U) 24)) := (Below.refl _ _).alloc (Nat.le_refl _) _
    have HB2 := hide ((unhide HB1).trans (But.of_below hb2))
    have HX2 := hide (row_below (unhide HX1) hb2)
    have H2 := hide ((unhide H1).below hb2)
    have HP2 := hide (show (w1.alloc (.cells (patO U) 24)).heap[w1.heap.size]? = some (.cells (patO U) 24 (0, 0)) from at_new rfl)
    have HL2 := hide ((unhide HU).2.newrow (Nat.le_refl _) (.cells (patO U) 24))
    have hgz : w1.heap.size ≠ z := by omega
    clear hb2
    have hsz2 : (w1.alloc (.cells (patO U) 24)).heap.size = w1.heap.size + 1 := World.size_alloc _ _
    unfold pv
    go_wp2_with fail
    rw [show (#[.int .i64 U.k, .string U.t, .int .i64 U.n, .string U.nm, .slice U.xa U.len U.cap] : Array Value) = patO U from rfl]
    generalize (w1.alloc (.cells (patO U) 24)) = w2 at *
    clear H1 HB1 HX1
    generalize w1.heap.size = gp at *
    go_loopw [] (fun wr => ∃ (f k : Nat) (q V : PT), k ≤ s.size ∧ s.size < k + f ∧ gp + 1 ≤ wr.heap.size ∧ Hid (Rdr wr z s k o) ∧ Hid (But z w wr) ∧ Hid (wr.heap[w.heap.size]? = some (.cells zeroP 24 (0, 0))) ∧ Hid (wr.heap[gp]? = some (.cells (patO V) 24 (0, 0))) ∧ Hid (V.can = q ∧ LiesX (w.heap.size + 1) (some gp) wr V) ∧ Hid (RR = gvF s f q k)) (fun wr => s.size + 1 - atIn wr z)
    case atStart => exact ⟨s.size + 1, j0, p0, U, hadv.2, by omega, by omega, unhide H2, unhide HB2, unhide HX2, unhide HP2, ⟨(unhide HU).1, unhide HL2⟩, unhide HR1⟩
    case round =>
      obtain ⟨f, k, q, V, hk, hf, hgr, HR, HB, HX, HP, HV, HE⟩ := hrel
      have hks := sk_le s k hk
      have HN := hide (next_any wr hs hk (unhide HR))
      have HG := hide (giving_any (nx s k))
      have HM := hide (unhide HR).at
      have hf0 : f ≠ 0 := by omega
      obtain ⟨f', rfl⟩ : ∃ f', f = f' + 1 := ⟨f - 1, by omega⟩
      have HE2 := hide ((unhide HE).trans (gvF_step s f' q k))
      have hK22 := gvK_le (nx s k)
      have HLT := hide (fun (h : gvK (nx s k) ≠ 0) => nx_in (s := s) (i := k) (fun z => h (by rw [z]; rfl)))
      have HNM := hide (fun w h1 h2 => name_any (s := s) (i := sk s k + 1) (z := z) (o := o) w hs h1 h2)
      have HNA := hide (fun t e h => nmP_adv s (sk s k + 1) t e h)
      clear H2 HB2 HX2 HP2 HU HL2 HR1 HE
      generalize nx s k = b at *
      generalize gvK b = K at *
      generalize sk s k = m at *
      by_cases hK0 : K = 0
      · have HE3 := hide (show RR = .ok (q, m) by rw [unhide HE2, if_pos hK0])
        have e0 : ((K : Int) == 0) = true := by rw [beq_iff_eq]; omega
        clear HE2 hK0 HNM HNA HLT
        go_wp2_with fail
        refine (unhide HN).mono ?_
        rintro e w3 ⟨rfl, hb3, hR3⟩
        have HX3 := hide (but_z hb3 (unhide HX) hne)
        have HP3 := hide (but_z hb3 (unhide HP) (by omega))
        have HB3 := hide ((unhide HB).trans hb3)
        have HV3 := hide ((unhide HV).2.but hb3 (by omega))
        have H3 := hide hR3
        clear hb3 hR3
        go_wp2_with fail
        refine (unhide HG _).mono ?_
        rintro e w3 ⟨rfl, rfl⟩
        obtain ⟨x0, x1, x2, x3, x4⟩ := pats5s (unhide HP3)
        go_wp2_with (first
          | (refine wpList_store_row rfl 24 _ _ rfl w.heap.size (patO V) rfl rfl 24 zeroP (unhide HX3) size_pat rfl (patO_oneC _) ?_)
          | fail)
        (try simp only [Exit.inBlock, Exit.then])
        refine bodyPost_ret (results_cell_row rfl _ _ w.heap.size 24 (patO V) (0, 0) _ rfl (setRow_heap _ _ _ _ _ _ (unhide HX3)) Tryd.underlying24 rfl size_pat) rfl ?_
        exact post_ok (unhide HE3) (but_setRow (unhide HB3) (Nat.le_refl _) _) ⟨V, rfl, (unhide HV).1, ((unhide HV3).lies.setRow (by omega) _).mono (by omega)⟩ ((unhide H3).setRow hne _)
      · have e0 : ((K : Int) == 0) = false := by rw [beq_eq_false_iff_ne]; omega
        have HE3 := hide (show RR = bnd (nmP s (m + 1)) fun t e => gvF s f' (mkP K ⟨#[]⟩ 0 t [q]) e by rw [unhide HE2, if_neg hK0])
        have hmlt := unhide HLT hK0
        have HNM2 := hide (fun w h => unhide HNM w (by omega) h)
        have HNA2 := hide (fun t e h => unhide HNA t e (by omega) h)
        clear HE2 HNM HNA HLT hK0
        go_wp2_with fail
        refine (unhide HN).mono ?_
        rintro e w3 ⟨rfl, hb3, hR3⟩
        have hbs := hb3.trans ((But.refl z w3).setCell 1 (.int .i64 ((m + 1 : Nat) : Int)))
        have HX3 := hide (but_z hbs (unhide HX) hne)
        have HP3 := hide (but_z hbs (unhide HP) (by omega))
        have HB3 := hide ((unhide HB).trans hbs)
        have HV3 := hide ((unhide HV).2.but hbs (by omega))
        have H3 := hide (hR3.set1 (m + 1))
        have c1 := hR3.c1
        have fz := hR3.fz 1
        have hs3 := hb3.size
        clear hb3 hR3 hbs
        go_wp2_with fail
        refine (unhide HG _).mono ?_
        rintro e w3 ⟨rfl, rfl⟩
        go_wp2_with fail
        have HSZ := hide (show (w3.setCell ⟨z, 1, none⟩ (.int .i64 ((m : Int) + 1))).heap.size = w3.heap.size by simp)
        rw [show ((m + 1 : Nat) : Int) = (m : Int) + 1 from rfl] at H3 HB3 HX3 HP3 HV3
        generalize w3.setCell ⟨z, 1, none⟩ (.int .i64 ((m : Int) + 1)) = w4 at *
        have hs4 : gp + 1 ≤ w4.heap.size := by have := unhide HSZ; omega
        obtain ⟨x0, x1, x2, x3, x4⟩ := pats5s (unhide HP3)
        clear c1 fz
        obtain ⟨RN, hRN⟩ : ∃ RN, nmP s (m + 1) = RN := ⟨_, rfl⟩
        rw [hRN] at HNM2 HNA2 HE3
        have HRN := hide hRN
        clear hRN
        rcases RN with ⟨er, a1⟩ | ⟨t, a1⟩
        · have HE4 := hide (show RR = .error (er, a1) by rw [unhide HE3, bnd_err])
          have HNM3 := hide (fun W (hb : Below w4.heap.size w4 W) => (unhide HNM2 W ((unhide H3).below hb)).mono (R' := fun e w' => e = thr er a1 ∧ But z w4 w') fun e w' hP => ⟨(of_err hP rfl).2, (But.of_below hb).trans (of_err hP rfl).1⟩)
          clear HNM2
          obtain ⟨S0, hS0⟩ : ∃ S0 : World → Prop, S0 = fun w' => w'.cell? ⟨gp, 0, none⟩ = some (.int .i64 V.k) ∧ w'.cell? ⟨gp, 1, none⟩ = some (.string V.t) ∧ w'.cell? ⟨gp, 2, none⟩ = some (.int .i64 V.n) ∧ w'.cell? ⟨gp, 3, none⟩ = some (.string V.nm) ∧ w'.cell? ⟨gp, 4, none⟩ = some (.slice V.xa V.len V.cap) := ⟨_, rfl⟩
          have HS0 := hide hS0
          have hS : S0 w4.drew := by rw [hS0]; exact ⟨x0, x1, x2, x3, x4⟩
          have HKE := hide (show ∀ W, W.heap[gp]? = some (.cells (patO V) 24 (0, 0)) → S0 W from fun W h => by rw [hS0]; exact pats5s h)
          clear hS0
          refine startE (by kernel_rfl) 6 S0 ⟨by kernel_rfl, by kernel_rfl, by kernel_rfl, rfl⟩ ?_
          intro F
          refine takeE F (i := 0) (oi := _) (v := ?v0a) rfl (by kernel_rfl) (by kernel_rfl) (by rfl) (fun _ _ _ h => h) hS (Or.inl ⟨by rfl, ?y0a⟩) ?r0a
          case y0a => (intro w hSw; rw [unhide HS0] at hSw; (try dsimp only at hSw); go_split_ands; (go_simp <;> (try with_reducible rfl)))
          (try go_frame)
          refine takeE F (i := 1) (oi := _) (v := ?v1a) rfl (by kernel_rfl) (by kernel_rfl) (by rfl) (fun _ _ _ h => h) hS (Or.inl ⟨by rfl, ?y1a⟩) ?r1a
          case y1a => (intro w hSw; rw [unhide HS0] at hSw; (try dsimp only at hSw); go_split_ands; (go_simp <;> (try with_reducible rfl)))
          (try go_frame)
          refine takeE F (i := 3) (oi := _) (v := ?v3a) rfl (by kernel_rfl) (by kernel_rfl) (by rfl) (fun _ _ _ h => h) hS (Or.inl ⟨by rfl, ?y3a⟩) ?r3a
          case y3a => (intro w hSw; rw [unhide HS0] at hSw; (try dsimp only at hSw); go_split_ands; (go_simp <;> (try with_reducible rfl)))
          (try go_frame)
          refine stepE2 (i := 2) (j := 4) (by kernel_rfl) rfl rfl (by rfl) (by rfl) (fun K2 hK2 => ?_) (fun K2 hK2 => ?_)
          · go_simp
            refine (unhide HNM3 _ (Below.refl _ _).drew).mono ?_
            rintro e w5 ⟨rfl, hb5⟩
            have HB5 := hide ((unhide HB3).trans hb5)
            clear hb5
            unfold thr
            exact ⟨rfl, post_err (unhide HE4) (unhide HB5) rfl⟩
          · go_simp
            have hbA : Below w4.heap.size w4 (w4.alloc (.cells (patO V) 24)).drew := ((Below.refl _ _).alloc (Nat.le_refl _) _).drew
            refine hK2 _ _ (unhide HKE _ (row_below (unhide HP3) hbA)) ?_
            refine stepE (i := 2) (by kernel_rfl) rfl (by rfl) (fun K3 hK3 => ?_)
            go_simp
            refine (unhide HNM3 _ hbA).mono ?_
            rintro e w5 ⟨rfl, hb5⟩
            have HB5 := hide ((unhide HB3).trans hb5)
            clear hb5
            unfold thr
            exact ⟨rfl, post_err (unhide HE4) (unhide HB5) rfl⟩
        · have HNM3 := hide (fun W (hb : Below w4.heap.size w4 W) => (unhide HNM2 W ((unhide H3).below hb)).mono (R' := fun e w' => e = .returned (.string t) ∧ But z W w' ∧ Rdr w' z s a1 o) fun e w' hP => ⟨(of_ok hP rfl).2.1, (of_ok hP rfl).1, (of_ok hP rfl).2.2⟩)
          have HEO := hide (show RR = gvF s f' (mkP K ⟨#[]⟩ 0 t [q]) a1 by rw [unhide HE3, bnd_ok])
          have hadv5 := unhide HNA2 t a1 rfl
          have HTL := hide (nmP_le hs (unhide HRN))
          clear HNM2
          obtain ⟨S0, hS0⟩ : ∃ S0 : World → Prop, S0 = fun w' => w'.cell? ⟨gp, 0, none⟩ = some (.int .i64 V.k) ∧ w'.cell? ⟨gp, 1, none⟩ = some (.string V.t) ∧ w'.cell? ⟨gp, 2, none⟩ = some (.int .i64 V.n) ∧ w'.cell? ⟨gp, 3, none⟩ = some (.string V.nm) ∧ w'.cell? ⟨gp, 4, none⟩ = some (.slice V.xa V.len V.cap) := ⟨_, rfl⟩
          have HS0 := hide hS0
          have hS : S0 w4.drew := by rw [hS0]; exact ⟨x0, x1, x2, x3, x4⟩
          have HKE := hide (show ∀ W, W.heap[gp]? = some (.cells (patO V) 24 (0, 0)) → S0 W from fun W h => by rw [hS0]; exact pats5s h)
          clear hS0
          refine startE (by kernel_rfl) 6 S0 ⟨by kernel_rfl, by kernel_rfl, by kernel_rfl, rfl⟩ ?_
          intro F
          refine takeE F (i := 0) (oi := _) (v := ?v0c) rfl (by kernel_rfl) (by kernel_rfl) (by rfl) (fun _ _ _ h => h) hS (Or.inl ⟨by rfl, ?y0c⟩) ?r0c
          case y0c => (intro w hSw; rw [unhide HS0] at hSw; (try dsimp only at hSw); go_split_ands; (go_simp <;> (try with_reducible rfl)))
          (try go_frame)
          refine takeE F (i := 1) (oi := _) (v := ?v1c) rfl (by kernel_rfl) (by kernel_rfl) (by rfl) (fun _ _ _ h => h) hS (Or.inl ⟨by rfl, ?y1c⟩) ?r1c
          case y1c => (intro w hSw; rw [unhide HS0] at hSw; (try dsimp only at hSw); go_split_ands; (go_simp <;> (try with_reducible rfl)))
          (try go_frame)
          refine takeE F (i := 3) (oi := _) (v := ?v3c) rfl (by kernel_rfl) (by kernel_rfl) (by rfl) (fun _ _ _ h => h) hS (Or.inl ⟨by rfl, ?y3c⟩) ?r3c
          case y3c => (intro w hSw; rw [unhide HS0] at hSw; (try dsimp only at hSw); go_split_ands; (go_simp <;> (try with_reducible rfl)))
          (try go_frame)
          refine stepE2 (i := 2) (j := 4) (by kernel_rfl) rfl rfl (by rfl) (by rfl) (fun K2 hK2 => ?_) (fun K2 hK2 => ?_)
          · go_simp
            refine (unhide HNM3 _ (Below.refl _ _).drew).mono ?_
            rintro e w5 ⟨rfl, hb5, hR5⟩
            have hbw : But z w4 w5 := (But.of_below (Below.refl _ _).drew).trans hb5
            have HP5 := hide (but_z hbw (unhide HP3) hgz)
            refine hK2 _ _ (unhide HKE _ (unhide HP5)) ?_
            clear hS
            have hS : S0 w5 := unhide HKE _ (unhide HP5)
            refine stepE (i := 4) (by kernel_rfl) rfl (by rfl) (fun K3 hK3 => ?_)
            go_simp
            have hbA : Below w5.heap.size w5 (w5.alloc (.cells (patO V) 24)) := (Below.refl _ _).alloc (Nat.le_refl _) _
            refine hK3 _ _ (unhide HKE _ (row_below (unhide HP5) hbA)) ?_
            clear hS
            have hS : S0 (w5.alloc (.cells (patO V) 24)) := unhide HKE _ (row_below (unhide HP5) hbA)
            refine stepE (i := 5) (by kernel_rfl) rfl (by rfl) (fun K5 hK5 => ?_)
            go_simp
            refine hK5 _ _ hS ?_
            refine lastE (by kernel_rfl) rfl (by kernel_rfl) (fun K4 hK4 => ?_)
            refine wanted_op rfl (wp_store_row 24 (.tmp 3) (.tmp 25) rfl gp (patO (rowN (K : Int) t w5.heap.size 1 [V])) rfl rfl 24 (patO V) (row_below (unhide HP5) hbA) size_pat rfl (patO_oneC _) ?_)
            refine hK4 _ _ ?_
            (try simp only [List.getElem_toArray, List.getElem_cons_succ, List.getElem_cons_zero])
            (try go_frame)
            have HEND := hide (piece_end (K := K) (f := f') (gk := w5.heap.size) (t := t) (wr := wr) (by omega) (by omega) (by rw [World.size_alloc]; have := hbw.size; omega) (hR5.below hbA) ((unhide HB3).trans (hbw.trans (But.of_below hbA))) (row_below (but_z hbw (unhide HX3) hne) hbA) (row_below (unhide HP5) hbA) (at_new rfl) (by have := hbw.size; omega) (by have := hbw.size; omega) (by omega) hgz (unhide HV).1 (((unhide HV3).but hbw (by omega)).below hbA) (unhide HEO) (by omega) (unhide HTL) (unhide HM) (by omega))
            clear hK5 K5 hK4 hK3 hK2 K4 K3 K2 F hS HS0 HKE hb5 hR5 hbw hbA
            go_wp2_with fail
            exact unhide HEND
          · go_simp
            have hbA : Below w4.heap.size w4 (w4.alloc (.cells (patO V) 24)).drew := ((Below.refl _ _).alloc (Nat.le_refl _) _).drew
            refine hK2 _ _ (unhide HKE _ (row_below (unhide HP3) hbA)) ?_
            refine stepE (i := 2) (by kernel_rfl) rfl (by rfl) (fun K3 hK3 => ?_)
            go_simp
            refine (unhide HNM3 _ hbA).mono ?_
            rintro e w5 ⟨rfl, hb5, hR5⟩
            have hbw : But z w4 w5 := (But.of_below hbA).trans hb5
            have HP5 := hide (but_z hbw (unhide HP3) hgz)
            have HK5 := hide (but_z hb5 (show (w4.alloc (.cells (patO V) 24)).drew.heap[w4.heap.size]? = some (.cells (patO V) 24 (0, 0)) from at_new rfl) (by omega))
            refine hK3 _ _ (unhide HKE _ (unhide HP5)) ?_
            clear hS
            have hS : S0 w5 := unhide HKE _ (unhide HP5)
            refine stepE (i := 5) (by kernel_rfl) rfl (by rfl) (fun K5 hK5 => ?_)
            go_simp
            refine hK5 _ _ hS ?_
            refine lastE (by kernel_rfl) rfl (by kernel_rfl) (fun K4 hK4 => ?_)
            refine wanted_op rfl (wp_store_row 24 (.tmp 3) (.tmp 25) rfl gp (patO (rowN (K : Int) t w4.heap.size 1 [V])) rfl rfl 24 (patO V) (unhide HP5) size_pat rfl (patO_oneC _) ?_)
            refine hK4 _ _ ?_
            (try simp only [List.getElem_toArray, List.getElem_cons_succ, List.getElem_cons_zero])
            (try go_frame)
            have HEND := hide (piece_end (K := K) (f := f') (gk := w4.heap.size) (t := t) (wr := wr) (by omega) (by omega) (by have := hbw.size; omega) hR5 ((unhide HB3).trans hbw) (but_z hbw (unhide HX3) hne) (unhide HP5) (unhide HK5) (by omega) (by omega) (by omega) hgz (unhide HV).1 ((unhide HV3).but hbw (by omega)) (unhide HEO) (by omega) (unhide HTL) (unhide HM) (by omega))
            clear hK5 K5 hK4 hK3 hK2 K4 K3 K2 F hS HS0 HKE hb5 hR5 hbw hbA
            go_wp2_with fail
            exact unhide HEND
end Go.Proofs.YtimbfelbalfmiaaDoor
