/- The document's walk over signs: pieces with the names that are given them. -/
import Derived.Test.YtimbfelbalfmiaaDoorRsI
import Derived.Test.YtimbfelbalfmiaaDoorRegionSink
namespace Go.Proofs.YtimbfelbalfmiaaDoor
open Go.RowKit

theorem wpiece_any {d : Nat} (hd : d ≤ 200) {B : ByteArray → Nat → Rd PT} (hB : ∀ s, Adv s (B s)) (HA : 0 < d → WSays 10 (d - 1) B) : WSays 28 d (fun s => baP d (B s) s) := by
  intro s i z w hs hi hW
  by_cases h39 : nx s i = 39
  · exact wpiece_txt hd hs hi hW h39
  · by_cases h40 : nx s i = 40
    · exact wpiece_par hd hB HA hs hi hW h40
    · by_cases h64 : nx s i = 64
      · exact wpiece_cur hd hs hi hW h64
      · by_cases h42 : nx s i = 42
        · exact wpiece_cal hd hs hi hW h42
        · cases hl : letterN (nx s i)
          · exact wpiece_non hd hs hi hW h39 h40 h64 h42 hl
          · exact wpiece_wrd hd hB HA hs hi hW hl
section
variable {P : Program} {ops : Array Oper} {Q : Exit → Act → World → Prop} {S : World → Prop} {n : Nat}
/-- Two operations may come up. -/
theorem stepW2 {i j : Nat} {oi oj : Oper} {f : Nat} {listed : Array Bool} {a : Act} {w : World} (hr : Region.ready .any ops listed = [i, j]) (hi : ops[i]? = some oi) (hj : ops[j]? = some oj) (hin : decide (i < n) = true) (hjn : decide (j < n) = true)
    (h1 : ∀ K : Act → World → Prop, (∀ a' w', S w' → (Inv ops n (listed.setIfInBounds i true) → AnyE P ops Q S n f (listed.setIfInBounds i true) a' w') → K a' w') →
      if Region.wanted oi (yielded ops a.tmps) = true then Oper.wp P oi a w K Q else K (a.put oi.dst undef) w)
    (h2 : ∀ K : Act → World → Prop, (∀ a' w', S w' → (Inv ops n (listed.setIfInBounds j true) → AnyE P ops Q S n f (listed.setIfInBounds j true) a' w') → K a' w') →
      if Region.wanted oj (yielded ops a.tmps) = true then Oper.wp P oj a w K Q else K (a.put oj.dst undef) w) : Inv ops n listed → AnyE P ops Q S n (f + 1) listed a w := fun inv =>
  ⟨fun h0 => absurd (hr ▸ h0) (by simp), fun k hk => by
    have hk' : k = i ∨ k = j := by rw [hr] at hk; simpa using hk
    rcases hk' with rfl | rfl
    · exact wpOp_step hi fun K hK => h1 K fun a' w' hS hA => hK a' w' ⟨fun _ => hS, hA (inv.set hk (of_decide_eq_true hin))⟩
    · exact wpOp_step hj fun K hK => h2 K fun a' w' hS hA => hK a' w' ⟨fun _ => hS, hA (inv.set hk (of_decide_eq_true hjn))⟩⟩
theorem wantedW {P : Program} {o : Oper} {ops : Array Oper} {a : Act} {w : World} {K : Act → World → Prop} {Q : Exit → Act → World → Prop} {E : Prop} (hg : o.guard = none) (h : Oper.wp P o a w K Q) : if Region.wanted o (yielded ops a.tmps) = true then Oper.wp P o a w K Q else E := by
  rw [if_pos (by simp [Region.wanted, hg])]; exact h
end
theorem LiesX.setRowW {B g : Nat} {w : World} {U : PT} (h : LiesX B (some g) w U) (cs : Array Value) : LiesX B (some g) (w.setRow g cs) U := h.step (by simp) fun i _ _ h3 => setRow_other w g i cs (fun e => h3 (by rw [e]))
theorem gvW_step (s : ByteArray) (f : Nat) (p : PT) (i : Nat) : gvF s (f + 1) p i = if gvK (nx s i) = 0 then .ok (p, sk s i) else bnd (nmP s (sk s i + 1)) fun t e => gvF s f (mkP (gvK (nx s i)) ⟨#[]⟩ 0 t [p]) e := rfl
theorem sgs_skip {s : ByteArray} {i : Nat} (hi : i ≤ s.size) : sgs s i = sgs s (sk s i) := sgs_sk s (s.size + 1) i hi (by omega)
/-- How much is left of a walk: nothing, once something was wrong. -/
def mW (w : World) (z n : Nat) : Nat :=
  match w.cell? ⟨z, 3, none⟩ with
  | some (.int _ e) => if e = 0 then (match w.cell? ⟨z, 0, none⟩ with | some (.slice (some p) _ _) => (match w.cell? ⟨p.block, p.off + 2, none⟩ with | some (.int _ a) => n + 1 - a.toNat | _ => 0) | _ => 0) else 0
  | _ => 0
theorem mW_ok {w : World} {z n : Nat} {s : ByteArray} {x : Sg} {r : List Sg} {d a : Int} (h : Wk w z s (x :: r) d 0 a) : mW w z n = n + 1 - x.a := by
  have h3 := h.cells.2.1
  obtain ⟨g, o, m, cap, c0, -, x2, -⟩ := h.first
  unfold mW
  rw [h3, c0]
  simp only [if_true, x2]
  simp
theorem mW_bad {w : World} {z n : Nat} {s : ByteArray} {d er a : Int} (h : WkB w z s d er a) (he : er ≠ 0) : mW w z n = 0 := by
  have h3 := h.cells.2.1
  unfold mW
  rw [h3]
  simp only [if_neg he]
/-- What the loop over names that are given keeps. -/
def GInv (s : ByteArray) (z : Nat) (w : World) (gp : Nat) (o : Int) (RR : Rd PT) (wr : World) : Prop := gp + 1 ≤ wr.heap.size ∧ But z w wr ∧ wr.heap[w.heap.size]? = some (.cells zeroP 24 (0, 0)) ∧ ∃ V : PT, wr.heap[gp]? = some (.cells (patO V) 24 (0, 0)) ∧
  ((∃ f k q, k ≤ s.size ∧ s.size < k + f ∧ Wk wr z s (sgs s k) o 0 0 ∧ V.can = q ∧ LiesX (w.heap.size + 1) (some gp) wr V ∧ RR = gvF s f q k) ∨ (∃ (er : Int) (a : Nat) (D : Int), o ≤ D ∧ D ≤ 201 ∧ WkB wr z s D er a ∧ er ≠ 0 ∧ RR = .error (er, a)))
theorem given_end {s : ByteArray} {z gp gk K f k0 : Nat} {o : Int} {w W wr : World} {V q : PT} {t : ByteArray} {RR : Rd PT} (hgp : gp < W.heap.size) (hB : But z w W)
    (hX : W.heap[w.heap.size]? = some (.cells zeroP 24 (0, 0))) (hP : W.heap[gp]? = some (.cells (patO V) 24 (0, 0))) (hk : W.heap[gk]? = some (.cells (patO V) 24 (0, 0))) (hgk : gk ≠ gp) (hlk : w.heap.size + 1 ≤ gk) (hlp : w.heap.size + 1 ≤ gp) (hgz : z < gp)
    (hc : V.can = q) (hL : LiesX (w.heap.size + 1) (some gp) W V) (hK : K ≤ 22)
    (hZ : (∃ a1, a1 ≤ s.size ∧ s.size < a1 + f ∧ Wk W z s (sgs s a1) o 0 0 ∧ RR = gvF s f (mkP (K : Int) ⟨#[]⟩ 0 t [q]) a1 ∧ t.size ≤ 65536 ∧ k0 < a1) ∨ (∃ (er : Int) (a : Nat) (D : Int), o ≤ D ∧ D ≤ 201 ∧ WkB W z s D er a ∧ er ≠ 0 ∧ RR = .error (er, a)))
    (hm : mW wr z s.size = s.size + 1 - k0) (hk0 : k0 < s.size) :
    GInv s z w gp o RR (W.setRow gp (patO (rowN (K : Int) t gk 1 [V]))) ∧ mW (W.setRow gp (patO (rowN (K : Int) t gk 1 [V]))) z s.size < mW wr z s.size := by
  have hsz : (W.setRow gp (patO (rowN (K : Int) t gk 1 [V]))).heap.size = W.heap.size := by simp
  rcases hZ with ⟨a1, h1, h2, h3, h4, h5, h6⟩ | ⟨er, a, D, h1, h2, h3, h4, h5⟩
  · have hW := h3.box (n := gp) (cs := patO (rowN (K : Int) t gk 1 [V])) hgz
    refine ⟨⟨by omega, but_setRow hB (by omega) _, (setRow_other W gp _ _ (by omega)).trans hX, rowN (K : Int) t gk 1 [V], setRow_heap _ _ _ _ _ _ hP, .inl ⟨f, a1, mkP (K : Int) ⟨#[]⟩ 0 t [q], h1, h2, hW, ?_, ?_, h4⟩⟩, ?_⟩
    · rw [rowN_can, List.map_cons, List.map_nil, hc]
    · exact rowN_liesW (by omega) h5 ((setRow_other W gp gk _ hgk).trans hk) hlk (fun e => hgk (by injection e)) (hL.setRowW _)
    · obtain ⟨x, r, hx, ha, -⟩ := sgs_any h1
      rw [hx] at hW
      have := (sk_le s a1 h1).1
      rw [mW_ok hW, hm, ha]; omega
  · have hW := h3.box (n := gp) (cs := patO (rowN (K : Int) t gk 1 [V])) hgz
    refine ⟨⟨by omega, but_setRow hB (by omega) _, (setRow_other W gp _ _ (by omega)).trans hX, rowN (K : Int) t gk 1 [V], setRow_heap _ _ _ _ _ _ hP, .inr ⟨er, a, D, h1, h2, hW, h4, h5⟩⟩, ?_⟩
    rw [mW_bad hW h4, hm]; omega
theorem cm_gv {s : ByteArray} {k : Nat} (hk : k ≤ s.size) {x : Sg} {r : List Sg} (h : sgs s k = x :: r) : cmU ⟨#[46, 36]⟩ x.k 2 = !decide (gvK (nx s k) = 0) ∧ (gvK (nx s k) ≠ 0 → x.k = nx s k ∧ (nx s k = 46 ∨ nx s k = 36)) ∧ x.k ≤ 1000 := by
  have hb : nx s k < 256 := bat_lt s (sk s k)
  obtain ⟨y, r', hy, -, hc⟩ := sgs_any hk
  obtain ⟨rfl, rfl⟩ : y = x ∧ r' = r := by rw [h] at hy; injection hy with a b; exact ⟨a.symm, b.symm⟩
  have e : cmU ⟨#[46, 36]⟩ y.k 2 = (decide (y.k = 46) || decide (y.k = 36)) := by
    show ((false || cmN 46 y.k) || cmN 36 y.k) = _
    unfold cmN
    simp
  rw [e]
  have hl : letterN (nx s k) = true → 65 ≤ nx s k ∧ nx s k ≤ 90 := of_decide_eq_true
  have hd : digitN (nx s k) = true → 48 ≤ nx s k ∧ nx s k ≤ 57 := of_decide_eq_true
  have hend : sk s k = s.size → nx s k = 0 := fun h => bat_end s _ (by omega)
  unfold gvK
  by_cases h46 : nx s k = 46
  · have : y.k = 46 := by
      rw [h46, show letterN 46 = false by decide, show digitN 46 = false by decide] at hc
      simp only [Bool.false_eq_true, and_false, false_or] at hc
      omega
    simp [h46, this]
  · by_cases h36 : nx s k = 36
    · have : y.k = 36 := by
        rw [h36, show letterN 36 = false by decide, show digitN 36 = false by decide] at hc
        simp only [Bool.false_eq_true, and_false, false_or] at hc
        omega
      simp [h36, this]
    · have h1 : y.k ≠ 46 := by omega
      have h2 : y.k ≠ 36 := by omega
      have h3 : y.k ≤ 1000 := by omega
      simp [h46, h36, h1, h2, h3]
set_option maxRecDepth 100000 in
set_option maxHeartbeats 8000000 in
theorem wgiven_any {d : Nat} (hd : d ≤ 200) {B : ByteArray → Nat → Rd PT} (hB : ∀ s, Adv s (B s)) (HPI : WSays 28 d (fun s => baP d (B s) s)) : WSays 24 d (fun s => piP d (B s) s) := by
  intro s i z w hs hi hW
  have hdd : ((200 - d : Nat) : Int) ≤ 201 := by omega
  have hzl := hW.lt
  have hb0 : Below w.heap.size w (w.alloc (.cells zeroP 24)) := (Below.refl _ _).alloc (Nat.le_refl _) _
  have HX0 := hide (show (w.alloc (.cells zeroP 24)).heap[w.heap.size]? = some (.cells zeroP 24 (0, 0)) from zbox)
  have HC := hide (show Calls Tryd.prog 28 #[.pointer (some ⟨z, 0, none⟩)] (w.alloc (.cells zeroP 24)) fun e w' => WPost (patL (w.alloc (.cells zeroP 24)).heap.size) patV0 z s ((200 - d : Nat) : Int) (w.alloc (.cells zeroP 24)) (baP d (B s) s i) e w' from HPI s i z _ hs hi (hW.below hb0))
  show Calls _ _ _ _ fun e w' => WPost (patL w.heap.size) patV0 z s ((200 - d : Nat) : Int) w (piP d (B s) s i) e w'
  have HRR := hide (show piP d (B s) s i = bnd (baP d (B s) s i) fun p j => gvF s (s.size + 1) p j from rfl)
  have HAD := hide (fun x j => baP_adv (d := d) (hB s) i x j hi)
  generalize piP d (B s) s i = RR at *
  generalize ((200 - d : Nat) : Int) = o at *
  generalize baP d (B s) s i = RB at *
  clear hb0 hW HPI hB
  go_enter Tryd.func24, Tryd.ntmps24
  go_wp2_with fail
  refine (unhide HC).mono ?_
  intro e w1 hP
  obtain ⟨U, hU, hUL⟩ : ∃ U, e = .returned (pv U) ∧ ∀ p k, RB = .ok (p, k) → U.can = p ∧ Lies (w.heap.size + 1) w1 U := by
    rcases RB with ⟨er, a⟩ | ⟨p, k⟩
    · obtain ⟨U, h⟩ := (wof_err hP rfl).2.1
      exact ⟨U, h, fun p k q => by cases q⟩
    · obtain ⟨-, ⟨U, h, hc, hl⟩, -⟩ := wof_ok hP rfl
      rw [World.size_alloc] at hl
      exact ⟨U, h, fun p' k' q => by injection q with q; injection q with q _; subst q; exact ⟨hc, hl⟩⟩
  have hs1 : w.heap.size + 1 ≤ w1.heap.size := by have := hP.1.size; rw [World.size_alloc] at this; exact this
  have hb2 : Below w1.heap.size w1 (w1.alloc (.cells (patO U) 24)) := (Below.refl _ _).alloc (Nat.le_refl _) _
  have HI2 := hide (show GInv s z w w1.heap.size o RR (w1.alloc (.cells (patO U) 24)) from by
    refine ⟨by rw [World.size_alloc]; omega, (((But.refl z w).alloc _).trans hP.1).trans (But.of_below hb2), row_below (but_z hP.1 (unhide HX0) (by omega)) hb2, U, at_new rfl, ?_⟩
    rw [hU] at hP
    rcases RB with ⟨er, a⟩ | ⟨p, k⟩
    · obtain ⟨-, -, D, h1, h2, h3, h4⟩ := wof_err hP rfl
      exact .inr ⟨er, a, D, h1, h2, h3.below hb2, h4, by rw [unhide HRR, bnd_err]⟩
    · obtain ⟨-, -, h3⟩ := wof_ok hP rfl
      obtain ⟨hc, hl⟩ := hUL p k rfl
      have hadv := unhide HAD p k rfl
      exact .inl ⟨s.size + 1, k, p, hadv.2, by omega, h3.below hb2, hc, hl.newrow (Nat.le_refl _) _, by rw [unhide HRR, bnd_ok]⟩)
  have hgz : z < w1.heap.size := by omega
  subst hU
  clear hP hUL hb2 HC HAD HRR HX0
  unfold pv
  go_wp2_with fail
  rw [show (#[.int .i64 U.k, .string U.t, .int .i64 U.n, .string U.nm, .slice U.xa U.len U.cap] : Array Value) = patO U from rfl]
  generalize (w1.alloc (.cells (patO U) 24)) = w2 at *
  generalize w1.heap.size = gp at *
  go_loopw [] (fun wr => Hid (GInv s z w gp o RR wr)) (fun wr => mW wr z s.size)
  case atStart => exact unhide HI2
  case round =>
    obtain ⟨hgr, hBr, hXr, V, hPr, hSt⟩ := unhide hrel
    clear hrel HI2
    rcases hSt with ⟨f, k, q, hk, hf, hWr, hVc, hVL, hRR⟩ | ⟨er, a, D, hD1, hD2, hWr, her, hRR⟩
    · obtain ⟨x, r, hx, hxa, -⟩ := sgs_any hk
      obtain ⟨hcm, hkd, hx1000⟩ := cm_gv hk hx
      have hWx := hWr
      rw [hx] at hWx
      have HM := hide (mW_ok (n := s.size) hWx)
      rw [hxa] at HM
      have HCO := hide (comes_any ⟨#[46, 36]⟩ (by decide) hx1000 hWx)
      rw [show (⟨#[46, 36]⟩ : ByteArray).size = 2 from rfl, hcm] at HCO
      obtain ⟨f', rfl⟩ : ∃ f', f = f' + 1 := ⟨f - 1, by omega⟩
      have hRR2 := hRR.trans (gvW_step s f' q k)
      have hks := sk_le s k hk
      have c3 := hWr.cells.2.1
      by_cases hK0 : gvK (nx s k) = 0
      · have HE := hide (show RR = .ok (q, sk s k) by rw [hRR2, if_pos hK0])
        have HCO2 := hide (unhide HCO)
        rw [decide_eq_true hK0] at HCO2
        have HWr := hide (show Wk wr z s (sgs s (sk s k)) o 0 0 by rw [← sgs_skip hk]; exact hWr)
        have HV := hide (And.intro hVc hVL)
        have HXr := hide hXr
        have HPr := hide hPr
        have HBr := hide hBr
        clear hRR hRR2 hcm hkd hx hxa hWx hWr hK0 HCO hVc hVL hXr hPr hBr
        generalize sk s k = m at *
        go_wp2_with fail
        refine (unhide HCO2).mono ?_
        rintro e w3 ⟨rfl, hb3⟩
        obtain ⟨g0, g1, g2, g3, g4⟩ := pats5s (row_below (unhide HPr) hb3)
        have HX3 := hide (row_below (unhide HXr) hb3)
        have HB3 := hide ((unhide HBr).trans (But.of_below hb3))
        have HW3 := hide ((unhide HWr).below hb3)
        have HV3 := hide ((unhide HV).2.below hb3)
        clear hb3
        go_wp2_with (first
          | (refine wpList_store_row rfl 24 _ _ rfl w.heap.size (patO V) rfl rfl 24 zeroP (unhide HX3) size_pat rfl (patO_oneC _) ?_)
          | fail)
        (try simp only [Exit.inBlock, Exit.then])
        exact bodyPost_ret (results_cell_row rfl _ _ w.heap.size 24 (patO V) (0, 0) _ rfl (setRow_heap _ _ _ _ _ _ (unhide HX3)) Tryd.underlying24 rfl size_pat) rfl (wpost_ok (unhide HE) (but_setRow (unhide HB3) (Nat.le_refl _) _) ⟨V, rfl, (unhide HV).1, ((unhide HV3).lies.setRow (by omega) _).mono (by omega)⟩ ((unhide HW3).box hzl))
      · have HRE := hide (show RR = bnd (nmP s (sk s k + 1)) fun t e => gvF s f' (mkP (gvK (nx s k)) ⟨#[]⟩ 0 t [q]) e by rw [hRR2, if_neg hK0])
        have HCO2 := hide (unhide HCO)
        rw [decide_eq_false hK0] at HCO2
        obtain ⟨hxk, h4636⟩ := hkd hK0
        have hlt := nx_in (s := s) (i := k) (by omega)
        have hK22 : gvK (nx s k) = 21 ∧ nx s k = 46 ∨ gvK (nx s k) = 22 ∧ nx s k = 36 := by
          rcases h4636 with h | h
          · exact .inl ⟨by rw [h]; rfl, h⟩
          · exact .inr ⟨by rw [h]; rfl, h⟩
        have HTK := hide (fun W (h : Wk W z s (sgs s k) o 0 0) => wtk_ok hk h (nx s k) rfl (by omega) (by omega) (by rcases h4636 with h | h <;> (rw [h]; decide)) (by rcases h4636 with h | h <;> (rw [h]; decide)) (by omega))
        have HNM := hide (fun W (h : Wk W z s (sgs s (sk s k + 1)) o 0 0) => wname_any (w := W) (z := z) hlt hdd h)
        have HNA := hide (fun t e => nmP_adv s (sk s k + 1) t e hlt)
        have HNL := hide (fun t e => nmP_le (s := s) (i := sk s k + 1) (t := t) (j := e) hs)
        have HV := hide (And.intro hVc hVL)
        have HXr := hide hXr
        have HPr := hide hPr
        have HBr := hide hBr
        have HWr := hide hWr
        have HWx := hide (show Wk wr z s (x :: r) o 0 0 from hWx)
        rw [show (x : Sg) = x from rfl] at HWx
        clear hRR hRR2 hcm hkd hx hxa hWx hWr hK0 HCO hVc hVL hXr hPr hBr h4636
        have HXK := hide hxk
        obtain ⟨c, hc⟩ : ∃ c, nx s k = c := ⟨_, rfl⟩
        obtain ⟨K, hKK⟩ : ∃ K, gvK (nx s k) = K := ⟨_, rfl⟩
        rw [hKK, hc] at hK22
        rw [hKK] at HRE
        rw [hc] at HTK
        have HXC := hide (hxk.trans hc)
        clear hxk HXK hc hKK
        generalize sk s k = m at *
        obtain ⟨RN, hRN⟩ : ∃ RN, nmP s (m + 1) = RN := ⟨_, rfl⟩
        rw [hRN] at HRE HNM HNA HNL
        clear hRN
        go_wp2_with fail
        refine (unhide HCO2).mono ?_
        rintro e w3 ⟨rfl, hb3⟩
        have HP3 := hide (row_below (unhide HPr) hb3)
        have HX3 := hide (row_below (unhide HXr) hb3)
        have HB3 := hide ((unhide HBr).trans (But.of_below hb3))
        have HV3 := hide ((unhide HV).2.below hb3)
        have HT3 := hide (unhide HTK w3 ((unhide HWr).below hb3))
        obtain ⟨g, og, n, cap, c0, x0, -, hgl, hnc, hmax, hzl3⟩ := ((unhide HWx).below hb3).first
        rw [unhide HXC] at x0
        unfold maxLen at hmax
        have hs3 := hb3.size
        clear hb3 HTK HPr HXr HBr HWr HWx
        rcases hK22 with ⟨rfl, rfl⟩ | ⟨rfl, rfl⟩
        · simp only [Int.cast_ofNat_Int] at x0
          go_wp2_with fail
          refine (unhide HT3).mono ?_
          rintro e w4 ⟨rfl, hb4, hW4⟩
          have HP4 := hide (but_z hb4 (unhide HP3) (by omega))
          have HX4 := hide (but_z hb4 (unhide HX3) (by omega))
          have HB4 := hide ((unhide HB3).trans hb4)
          have HV4 := hide ((unhide HV3).but hb4 (by omega))
          have hs4 := hb4.size
          have HN4 := hide (fun W (hb : Below w4.heap.size w4 W) => (unhide HNM W (hW4.below hb)).mono (R' := fun e w' => ∃ t, e = .returned (.string t) ∧ But z W w' ∧ ((∃ a1, RN = .ok (t, a1) ∧ Wk w' z s (sgs s a1) o 0 0) ∨ (∃ (er : Int) (a : Nat) (D : Int), o ≤ D ∧ D ≤ 201 ∧ WkB w' z s D er a ∧ er ≠ 0 ∧ RN = .error (er, a)))) fun e w' hP => by
            rcases RN with ⟨er, a⟩ | ⟨t, a1⟩
            · obtain ⟨h1, ⟨t, h2⟩, D, h3, h4, h5, h6⟩ := wof_err hP rfl
              exact ⟨t, h2, h1, .inr ⟨er, a, D, h3, h4, h5, h6, rfl⟩⟩
            · obtain ⟨h1, h2, h3⟩ := wof_ok hP rfl
              exact ⟨t, h2, h1, .inl ⟨a1, rfl, h3⟩⟩)
          have HEN := hide (fun (W : World) (t : ByteArray) (gk : Nat) (h1 : gp < W.heap.size) (h2 : But z w4 W) (h3 : W.heap[gp]? = some (.cells (patO V) 24 (0, 0))) (h4 : W.heap[gk]? = some (.cells (patO V) 24 (0, 0))) (h5 : gp < gk) (h6 : (∃ a1, RN = .ok (t, a1) ∧ Wk W z s (sgs s a1) o 0 0) ∨ (∃ (er : Int) (a : Nat) (D : Int), o ≤ D ∧ D ≤ 201 ∧ WkB W z s D er a ∧ er ≠ 0 ∧ RN = .error (er, a))) => given_end (s := s) (K := 21) (f := f') (k0 := m) (q := q) (wr := wr) (RR := RR) h1 ((unhide HB4).trans h2) (but_z h2 (unhide HX4) (by omega)) h3 h4 (by omega) (by omega) (by omega) hgz (unhide HV).1 ((unhide HV4).but h2 (by omega)) (by omega) (by
            rcases h6 with ⟨a1, q1, q2⟩ | ⟨er, a, D, q1, q2, q3, q4, q5⟩
            · have had := unhide HNA t a1 q1
              exact .inl ⟨a1, had.2, by omega, q2, by rw [unhide HRE, q1, bnd_ok], unhide HNL t a1 q1, by omega⟩
            · exact .inr ⟨er, a, D, q1, q2, q3, q4, by rw [unhide HRE, q5, bnd_err]⟩) (unhide HM) hlt)
          obtain ⟨x0, x1, x2, x3, x4⟩ := pats5s (unhide HP4)
          clear hb4 hW4 HNM HT3 HX3 HB3 HV3 HP3
          unfold sgE
          go_wp2_with fail
          obtain ⟨S0, hS0⟩ : ∃ S0 : World → Prop, S0 = fun w' => w'.cell? ⟨gp, 0, none⟩ = some (.int .i64 V.k) ∧ w'.cell? ⟨gp, 1, none⟩ = some (.string V.t) ∧ w'.cell? ⟨gp, 2, none⟩ = some (.int .i64 V.n) ∧ w'.cell? ⟨gp, 3, none⟩ = some (.string V.nm) ∧ w'.cell? ⟨gp, 4, none⟩ = some (.slice V.xa V.len V.cap) := ⟨_, rfl⟩
          have HS0 := hide hS0
          have hS : S0 w4.drew := by rw [hS0]; exact ⟨x0, x1, x2, x3, x4⟩
          have HKE := hide (show ∀ W, W.heap[gp]? = some (.cells (patO V) 24 (0, 0)) → S0 W from fun W h => by rw [hS0]; exact pats5s h)
          clear hS0
          refine startE (by kernel_rfl) 6 S0 ⟨by kernel_rfl, by kernel_rfl, by kernel_rfl, rfl⟩ ?_
          intro F
          refine takeE F (i := 0) (oi := _) (v := ?v0a) rfl (by kernel_rfl) (by kernel_rfl) (by rfl) (fun _ _ _ h => h) hS (Or.inl ⟨by rfl, ?y0a⟩) ?r0a
          case y0a => (intro w hSw; rw [unhide HS0] at hSw; (try dsimp only at hSw); go_split_ands; (go_simp <;> (try with_reducible rfl)))
          (try go_frame)
          refine takeE F (i := 1) (oi := _) (v := ?v1a) rfl (by kernel_rfl) (by kernel_rfl) (by rfl) (fun _ _ _ h => h) hS (Or.inl ⟨by rfl, ?y1a⟩) ?r1a
          case y1a => (intro w hSw; rw [unhide HS0] at hSw; (try dsimp only at hSw); go_split_ands; (go_simp <;> (try with_reducible rfl)))
          (try go_frame)
          refine takeE F (i := 3) (oi := _) (v := ?v3a) rfl (by kernel_rfl) (by kernel_rfl) (by rfl) (fun _ _ _ h => h) hS (Or.inl ⟨by rfl, ?y3a⟩) ?r3a
          case y3a => (intro w hSw; rw [unhide HS0] at hSw; (try dsimp only at hSw); go_split_ands; (go_simp <;> (try with_reducible rfl)))
          (try go_frame)
          refine stepW2 (i := 2) (j := 4) (by kernel_rfl) rfl rfl (by rfl) (by rfl) (fun K2 hK2 => ?_) (fun K2 hK2 => ?_)
          · go_simp
            refine (unhide HN4 _ (Below.refl _ _).drew).mono ?_
            rintro e w5 ⟨t, rfl, hb5, hZ5⟩
            have hbw : But z w4 w5 := (But.of_below (Below.refl _ _).drew).trans hb5
            have HP5 := hide (but_z hbw (unhide HP4) (by omega))
            refine hK2 _ _ (unhide HKE _ (unhide HP5)) ?_
            clear hS
            have hS : S0 w5 := unhide HKE _ (unhide HP5)
            refine stepE (i := 4) (by kernel_rfl) rfl (by rfl) (fun K3 hK3 => ?_)
            go_simp
            have hbA : Below w5.heap.size w5 (w5.alloc (.cells (patO V) 24)) := (Below.refl _ _).alloc (Nat.le_refl _) _
            refine hK3 _ _ (unhide HKE _ (row_below (unhide HP5) hbA)) ?_
            clear hS
            have hS : S0 (w5.alloc (.cells (patO V) 24)) := unhide HKE _ (row_below (unhide HP5) hbA)
            refine stepE (i := 5) (by kernel_rfl) rfl (by rfl) (fun K5 hK5 => ?_)
            go_simp
            refine hK5 _ _ hS ?_
            refine lastE (by kernel_rfl) rfl (by kernel_rfl) (fun K4 hK4 => ?_)
            refine wantedW rfl (wp_store_row 24 (.tmp 3) (.tmp 39) rfl gp (patO (rowN ((21 : Nat) : Int) t w5.heap.size 1 [V])) rfl rfl 24 (patO V) (row_below (unhide HP5) hbA) size_pat rfl (patO_oneC _) ?_)
            refine hK4 _ _ ?_
            (try simp only [List.getElem_toArray, List.getElem_cons_succ, List.getElem_cons_zero])
            (try go_frame)
            have hs5 := hbw.size
            have HEND := hide (unhide HEN _ t w5.heap.size (by rw [World.size_alloc]; omega) (hbw.trans (But.of_below hbA)) (row_below (unhide HP5) hbA) (at_new rfl) (by omega) (by
              rcases hZ5 with ⟨a1, q1, q2⟩ | ⟨er, a, D, q1, q2, q3, q4, q5⟩
              · exact .inl ⟨a1, q1, q2.below hbA⟩
              · exact .inr ⟨er, a, D, q1, q2, q3.below hbA, q4, q5⟩))
            clear hK5 K5 hK4 hK3 hK2 K4 K3 K2 F hS HS0 HKE hb5 hbw hbA hZ5
            go_wp2_with fail
            exact unhide HEND
          · go_simp
            have hbA : Below w4.heap.size w4 (w4.alloc (.cells (patO V) 24)).drew := ((Below.refl _ _).alloc (Nat.le_refl _) _).drew
            refine hK2 _ _ (unhide HKE _ (row_below (unhide HP4) hbA)) ?_
            refine stepE (i := 2) (by kernel_rfl) rfl (by rfl) (fun K3 hK3 => ?_)
            go_simp
            refine (unhide HN4 _ hbA).mono ?_
            rintro e w5 ⟨t, rfl, hb5, hZ5⟩
            have hbw : But z w4 w5 := (But.of_below hbA).trans hb5
            have HP5 := hide (but_z hbw (unhide HP4) (by omega))
            have HK5 := hide (but_z hb5 (show (w4.alloc (.cells (patO V) 24)).drew.heap[w4.heap.size]? = some (.cells (patO V) 24 (0, 0)) from at_new rfl) (by omega))
            refine hK3 _ _ (unhide HKE _ (unhide HP5)) ?_
            clear hS
            have hS : S0 w5 := unhide HKE _ (unhide HP5)
            refine stepE (i := 5) (by kernel_rfl) rfl (by rfl) (fun K5 hK5 => ?_)
            go_simp
            refine hK5 _ _ hS ?_
            refine lastE (by kernel_rfl) rfl (by kernel_rfl) (fun K4 hK4 => ?_)
            refine wantedW rfl (wp_store_row 24 (.tmp 3) (.tmp 39) rfl gp (patO (rowN ((21 : Nat) : Int) t w4.heap.size 1 [V])) rfl rfl 24 (patO V) (unhide HP5) size_pat rfl (patO_oneC _) ?_)
            refine hK4 _ _ ?_
            (try simp only [List.getElem_toArray, List.getElem_cons_succ, List.getElem_cons_zero])
            (try go_frame)
            have hs5 := hbw.size
            have HEND := hide (unhide HEN _ t w4.heap.size (by omega) hbw (unhide HP5) (unhide HK5) (by omega) hZ5)
            clear hK5 K5 hK4 hK3 hK2 K4 K3 K2 F hS HS0 HKE hb5 hbw hbA hZ5
            go_wp2_with fail
            exact unhide HEND
        · simp only [Int.cast_ofNat_Int] at x0
          go_wp2_with fail
          refine (unhide HT3).mono ?_
          rintro e w4 ⟨rfl, hb4, hW4⟩
          have HP4 := hide (but_z hb4 (unhide HP3) (by omega))
          have HX4 := hide (but_z hb4 (unhide HX3) (by omega))
          have HB4 := hide ((unhide HB3).trans hb4)
          have HV4 := hide ((unhide HV3).but hb4 (by omega))
          have hs4 := hb4.size
          have HN4 := hide (fun W (hb : Below w4.heap.size w4 W) => (unhide HNM W (hW4.below hb)).mono (R' := fun e w' => ∃ t, e = .returned (.string t) ∧ But z W w' ∧ ((∃ a1, RN = .ok (t, a1) ∧ Wk w' z s (sgs s a1) o 0 0) ∨ (∃ (er : Int) (a : Nat) (D : Int), o ≤ D ∧ D ≤ 201 ∧ WkB w' z s D er a ∧ er ≠ 0 ∧ RN = .error (er, a)))) fun e w' hP => by
            rcases RN with ⟨er, a⟩ | ⟨t, a1⟩
            · obtain ⟨h1, ⟨t, h2⟩, D, h3, h4, h5, h6⟩ := wof_err hP rfl
              exact ⟨t, h2, h1, .inr ⟨er, a, D, h3, h4, h5, h6, rfl⟩⟩
            · obtain ⟨h1, h2, h3⟩ := wof_ok hP rfl
              exact ⟨t, h2, h1, .inl ⟨a1, rfl, h3⟩⟩)
          have HEN := hide (fun (W : World) (t : ByteArray) (gk : Nat) (h1 : gp < W.heap.size) (h2 : But z w4 W) (h3 : W.heap[gp]? = some (.cells (patO V) 24 (0, 0))) (h4 : W.heap[gk]? = some (.cells (patO V) 24 (0, 0))) (h5 : gp < gk) (h6 : (∃ a1, RN = .ok (t, a1) ∧ Wk W z s (sgs s a1) o 0 0) ∨ (∃ (er : Int) (a : Nat) (D : Int), o ≤ D ∧ D ≤ 201 ∧ WkB W z s D er a ∧ er ≠ 0 ∧ RN = .error (er, a))) => given_end (s := s) (K := 22) (f := f') (k0 := m) (q := q) (wr := wr) (RR := RR) h1 ((unhide HB4).trans h2) (but_z h2 (unhide HX4) (by omega)) h3 h4 (by omega) (by omega) (by omega) hgz (unhide HV).1 ((unhide HV4).but h2 (by omega)) (by omega) (by
            rcases h6 with ⟨a1, q1, q2⟩ | ⟨er, a, D, q1, q2, q3, q4, q5⟩
            · have had := unhide HNA t a1 q1
              exact .inl ⟨a1, had.2, by omega, q2, by rw [unhide HRE, q1, bnd_ok], unhide HNL t a1 q1, by omega⟩
            · exact .inr ⟨er, a, D, q1, q2, q3, q4, by rw [unhide HRE, q5, bnd_err]⟩) (unhide HM) hlt)
          obtain ⟨x0, x1, x2, x3, x4⟩ := pats5s (unhide HP4)
          clear hb4 hW4 HNM HT3 HX3 HB3 HV3 HP3
          unfold sgE
          go_wp2_with fail
          obtain ⟨S0, hS0⟩ : ∃ S0 : World → Prop, S0 = fun w' => w'.cell? ⟨gp, 0, none⟩ = some (.int .i64 V.k) ∧ w'.cell? ⟨gp, 1, none⟩ = some (.string V.t) ∧ w'.cell? ⟨gp, 2, none⟩ = some (.int .i64 V.n) ∧ w'.cell? ⟨gp, 3, none⟩ = some (.string V.nm) ∧ w'.cell? ⟨gp, 4, none⟩ = some (.slice V.xa V.len V.cap) := ⟨_, rfl⟩
          have HS0 := hide hS0
          have hS : S0 w4.drew := by rw [hS0]; exact ⟨x0, x1, x2, x3, x4⟩
          have HKE := hide (show ∀ W, W.heap[gp]? = some (.cells (patO V) 24 (0, 0)) → S0 W from fun W h => by rw [hS0]; exact pats5s h)
          clear hS0
          refine startE (by kernel_rfl) 6 S0 ⟨by kernel_rfl, by kernel_rfl, by kernel_rfl, rfl⟩ ?_
          intro F
          refine takeE F (i := 0) (oi := _) (v := ?v0b) rfl (by kernel_rfl) (by kernel_rfl) (by rfl) (fun _ _ _ h => h) hS (Or.inl ⟨by rfl, ?y0b⟩) ?r0b
          case y0b => (intro w hSw; rw [unhide HS0] at hSw; (try dsimp only at hSw); go_split_ands; (go_simp <;> (try with_reducible rfl)))
          (try go_frame)
          refine takeE F (i := 1) (oi := _) (v := ?v1b) rfl (by kernel_rfl) (by kernel_rfl) (by rfl) (fun _ _ _ h => h) hS (Or.inl ⟨by rfl, ?y1b⟩) ?r1b
          case y1b => (intro w hSw; rw [unhide HS0] at hSw; (try dsimp only at hSw); go_split_ands; (go_simp <;> (try with_reducible rfl)))
          (try go_frame)
          refine takeE F (i := 3) (oi := _) (v := ?v3b) rfl (by kernel_rfl) (by kernel_rfl) (by rfl) (fun _ _ _ h => h) hS (Or.inl ⟨by rfl, ?y3b⟩) ?r3b
          case y3b => (intro w hSw; rw [unhide HS0] at hSw; (try dsimp only at hSw); go_split_ands; (go_simp <;> (try with_reducible rfl)))
          (try go_frame)
          refine stepW2 (i := 2) (j := 4) (by kernel_rfl) rfl rfl (by rfl) (by rfl) (fun K2 hK2 => ?_) (fun K2 hK2 => ?_)
          · go_simp
            refine (unhide HN4 _ (Below.refl _ _).drew).mono ?_
            rintro e w5 ⟨t, rfl, hb5, hZ5⟩
            have hbw : But z w4 w5 := (But.of_below (Below.refl _ _).drew).trans hb5
            have HP5 := hide (but_z hbw (unhide HP4) (by omega))
            refine hK2 _ _ (unhide HKE _ (unhide HP5)) ?_
            clear hS
            have hS : S0 w5 := unhide HKE _ (unhide HP5)
            refine stepE (i := 4) (by kernel_rfl) rfl (by rfl) (fun K3 hK3 => ?_)
            go_simp
            have hbA : Below w5.heap.size w5 (w5.alloc (.cells (patO V) 24)) := (Below.refl _ _).alloc (Nat.le_refl _) _
            refine hK3 _ _ (unhide HKE _ (row_below (unhide HP5) hbA)) ?_
            clear hS
            have hS : S0 (w5.alloc (.cells (patO V) 24)) := unhide HKE _ (row_below (unhide HP5) hbA)
            refine stepE (i := 5) (by kernel_rfl) rfl (by rfl) (fun K5 hK5 => ?_)
            go_simp
            refine hK5 _ _ hS ?_
            refine lastE (by kernel_rfl) rfl (by kernel_rfl) (fun K4 hK4 => ?_)
            refine wantedW rfl (wp_store_row 24 (.tmp 3) (.tmp 39) rfl gp (patO (rowN ((22 : Nat) : Int) t w5.heap.size 1 [V])) rfl rfl 24 (patO V) (row_below (unhide HP5) hbA) size_pat rfl (patO_oneC _) ?_)
            refine hK4 _ _ ?_
            (try simp only [List.getElem_toArray, List.getElem_cons_succ, List.getElem_cons_zero])
            (try go_frame)
            have hs5 := hbw.size
            have HEND := hide (unhide HEN _ t w5.heap.size (by rw [World.size_alloc]; omega) (hbw.trans (But.of_below hbA)) (row_below (unhide HP5) hbA) (at_new rfl) (by omega) (by
              rcases hZ5 with ⟨a1, q1, q2⟩ | ⟨er, a, D, q1, q2, q3, q4, q5⟩
              · exact .inl ⟨a1, q1, q2.below hbA⟩
              · exact .inr ⟨er, a, D, q1, q2, q3.below hbA, q4, q5⟩))
            clear hK5 K5 hK4 hK3 hK2 K4 K3 K2 F hS HS0 HKE hb5 hbw hbA hZ5
            go_wp2_with fail
            exact unhide HEND
          · go_simp
            have hbA : Below w4.heap.size w4 (w4.alloc (.cells (patO V) 24)).drew := ((Below.refl _ _).alloc (Nat.le_refl _) _).drew
            refine hK2 _ _ (unhide HKE _ (row_below (unhide HP4) hbA)) ?_
            refine stepE (i := 2) (by kernel_rfl) rfl (by rfl) (fun K3 hK3 => ?_)
            go_simp
            refine (unhide HN4 _ hbA).mono ?_
            rintro e w5 ⟨t, rfl, hb5, hZ5⟩
            have hbw : But z w4 w5 := (But.of_below hbA).trans hb5
            have HP5 := hide (but_z hbw (unhide HP4) (by omega))
            have HK5 := hide (but_z hb5 (show (w4.alloc (.cells (patO V) 24)).drew.heap[w4.heap.size]? = some (.cells (patO V) 24 (0, 0)) from at_new rfl) (by omega))
            refine hK3 _ _ (unhide HKE _ (unhide HP5)) ?_
            clear hS
            have hS : S0 w5 := unhide HKE _ (unhide HP5)
            refine stepE (i := 5) (by kernel_rfl) rfl (by rfl) (fun K5 hK5 => ?_)
            go_simp
            refine hK5 _ _ hS ?_
            refine lastE (by kernel_rfl) rfl (by kernel_rfl) (fun K4 hK4 => ?_)
            refine wantedW rfl (wp_store_row 24 (.tmp 3) (.tmp 39) rfl gp (patO (rowN ((22 : Nat) : Int) t w4.heap.size 1 [V])) rfl rfl 24 (patO V) (unhide HP5) size_pat rfl (patO_oneC _) ?_)
            refine hK4 _ _ ?_
            (try simp only [List.getElem_toArray, List.getElem_cons_succ, List.getElem_cons_zero])
            (try go_frame)
            have hs5 := hbw.size
            have HEND := hide (unhide HEN _ t w4.heap.size (by omega) hbw (unhide HP5) (unhide HK5) (by omega) hZ5)
            clear hK5 K5 hK4 hK3 hK2 K4 K3 K2 F hS HS0 HKE hb5 hbw hbA hZ5
            go_wp2_with fail
            exact unhide HEND
    · have HE := hide hRR
      have c3 := hWr.cells.2.1
      have q3 : (er == 0) = false := by rw [beq_eq_false_iff_ne]; exact her
      have HER := hide her
      have HWr := hide hWr
      have HXr := hide hXr
      obtain ⟨g0, g1, g2, g3, g4⟩ := pats5s hPr
      have HBr := hide hBr
      clear hRR hWr hXr hPr hBr her
      go_wp2_with (first
        | (refine wpList_store_row rfl 24 _ _ rfl w.heap.size (patO V) rfl rfl 24 zeroP (unhide HXr) size_pat rfl (patO_oneC _) ?_)
        | fail)
      (try simp only [Exit.inBlock, Exit.then])
      exact bodyPost_ret (results_cell_row rfl _ _ w.heap.size 24 (patO V) (0, 0) _ rfl (setRow_heap _ _ _ _ _ _ (unhide HXr)) Tryd.underlying24 rfl size_pat) rfl (wpost_err (unhide HE) (but_setRow (unhide HBr) (Nat.le_refl _) _) ⟨V, rfl⟩ hD1 hD2 ((unhide HWr).box hzl) (unhide HER))
end Go.Proofs.YtimbfelbalfmiaaDoor
