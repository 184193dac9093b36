/- The document's walk over signs: pieces one behind the other, and alternatives. -/
import Derived.Test.YtimbfelbalfmiaaDoorRsJ
import Derived.Test.YtimbfelbalfmiaaDoorRdK
namespace Go.Proofs.YtimbfelbalfmiaaDoor
open Go.RowKit

theorem Row.butW {w w' : World} {B z : Nat} {v : Value} {L : List PT} (h : Row w B 24 5 five v L) (hb : But z w w') (hz : z < B) : Row w' B 24 5 five v L := h.same fun k hk => hb.block k (h.low hk).2 (by have := (h.low hk).1; omega)
theorem Wk.grown {W W' : World} {z B : Nat} {s : ByteArray} {l : List Sg} {d er a : Int} {v : Value} {L : List PT} (h : Wk W z s l d er a) (hr : Row W B 24 5 five v L) (hg : W.grownBy W' v.ownBlock) (hz : z < B) : Wk W' z s l d er a :=
  h.other fun i hi => hg.block i (Nat.lt_of_le_of_lt hi h.lt) fun e => by have := (hr.low e.symm).1; omega
theorem WkB.grown {W W' : World} {z B : Nat} {s : ByteArray} {d er a : Int} {v : Value} {L : List PT} (h : WkB W z s d er a) (hr : Row W B 24 5 five v L) (hg : W.grownBy W' v.ownBlock) (hz : z < B) : WkB W' z s d er a := by
  obtain ⟨x, r, h⟩ := h
  exact ⟨x, r, h.grown hr hg hz⟩
/-- What the loop over kids keeps. -/
def CInv (s : ByteArray) (z : Nat) (w : World) (o : Int) (K : Nat) (F : Nat → List PT → Nat → Rd (List PT)) (RR : Rd PT) (v : Value) (wr : World) : Prop := But z w wr ∧ wr.heap[w.heap.size]? = some (.cells zeroP 24 (0, 0)) ∧ w.heap.size + 1 ≤ wr.heap.size ∧ ∃ L : List PT, L ≠ [] ∧ L.length ≤ 65537 ∧ Row wr (w.heap.size + 1) 24 5 five v L ∧
  ((∃ f k l, k ≤ s.size ∧ s.size < k + f ∧ L.length ≤ k ∧ Wk wr z s (sgs s k) o 0 0 ∧ KidsL (w.heap.size + 1) wr v L l ∧ RR = bnd (F f l k) fun l e => .ok (togP K l, e)) ∨ (∃ (er : Int) (a : Nat) (D : Int), o ≤ D ∧ D ≤ 201 ∧ WkB wr z s D er a ∧ er ≠ 0 ∧ RR = .error (er, a)))
theorem cinv_put {s : ByteArray} {z : Nat} {w w3 w4 w6 wr : World} {o : Int} {K : Nat} {F : Nat → List PT → Nat → Rd (List PT)} {RR RP : Rd PT} {v v' : Value} {L l : List PT} {U : PT} {f k0 : Nat} (hs : s.size ≤ 65536) (hzl : z < w.heap.size) (hB : But z w w3) (hX : w3.heap[w.heap.size]? = some (.cells zeroP 24 (0, 0))) (hsz : w.heap.size + 1 ≤ w3.heap.size) (hLl : L.length ≤ s.size) (hKL : KidsL (w.heap.size + 1) w3 v L l)
    (hb : But z w3 w4) (hrow : Row w6 (w.heap.size + 1) 24 5 five v' (L ++ [U])) (hg : (w4.alloc (.cells (patO U) 24)).grownBy w6 v.ownBlock) (hn : v'.ownBlock = v.ownBlock ∨ v'.ownBlock = some (w4.alloc (.cells (patO U) 24)).heap.size)
    (hRR : RR = bnd (bnd RP fun p j => F f (l ++ [p]) j) fun l e => .ok (togP K l, e))
    (hZ : (∃ p a1, RP = .ok (p, a1) ∧ a1 ≤ s.size ∧ s.size < a1 + f ∧ L.length + 1 ≤ a1 ∧ k0 < a1 ∧ Wk w4 z s (sgs s a1) o 0 0 ∧ U.can = p ∧ Lies w3.heap.size w4 U) ∨ (∃ (er : Int) (a : Nat) (D : Int), o ≤ D ∧ D ≤ 201 ∧ WkB w4 z s D er a ∧ er ≠ 0 ∧ RP = .error (er, a)))
    (hm : mW wr z s.size = s.size + 1 - k0) (hk0 : k0 < s.size) : CInv s z w o K F RR v' w6 ∧ mW w6 z s.size < mW wr z s.size := by
  have hb5 : Below w4.heap.size w4 (w4.alloc (.cells (patO U) 24)) := (Below.refl _ _).alloc (Nat.le_refl _) _
  have hr5 : Row (w4.alloc (.cells (patO U) 24)) (w.heap.size + 1) 24 5 five v L := (hKL.row.butW hb (by omega)).later hb5
  have hbw := grown_but hr5 hg (hB.trans (hb.trans (But.of_below hb5))) (by omega)
  have hxw := grown_old hr5 hg (row_below (but_z hb hX (by omega)) hb5) (by omega)
  have hsw : w.heap.size + 1 ≤ w6.heap.size := (Array.getElem?_eq_some_iff.1 hxw).1
  have hll : (L ++ [U]).length = L.length + 1 := by simp
  rcases hZ with ⟨p, a1, h1, h2, h3, h4, h5, h6, h7, h8⟩ | ⟨er, a, D, h1, h2, h3, h4, h5⟩
  · have hW6 := (h6.below hb5).grown hr5 hg (by omega)
    refine ⟨⟨hbw, hxw, hsw, L ++ [U], by simp, by omega, hrow, .inl ⟨f, a1, l ++ [p], h2, h3, by omega, hW6, ?_, ?_⟩⟩, ?_⟩
    · have h := hKL.snoc hsz hb (by omega) h8 hrow hg hn
      rw [h7] at h
      exact h
    · rw [hRR, h1, bnd_ok]
    · obtain ⟨x, r, hx, ha, -⟩ := sgs_any h2
      rw [hx] at hW6
      have := (sk_le s a1 h2).1
      rw [mW_ok hW6, hm, ha]; omega
  · have hW6 := (h3.below hb5).grown hr5 hg (by omega)
    refine ⟨⟨hbw, hxw, hsw, L ++ [U], by simp, by omega, hrow, .inr ⟨er, a, D, h1, h2, hW6, h4, ?_⟩⟩, ?_⟩
    · rw [hRR, h5, bnd_err, bnd_err]
    · rw [mW_bad hW6 h4, hm]; omega
/-- The first kid. -/
theorem cinv_one {s : ByteArray} {z : Nat} {w w0 w1 : World} {o : Int} {K : Nat} {F : Nat → List PT → Nat → Rd (List PT)} {RR RP : Rd PT} {e : Ending} (hzl : z < w.heap.size) (hw0 : w0 = w.alloc (.cells zeroP 24)) (hP : WPost (patL w0.heap.size) patV0 z s o w0 RP e w1) (hRR : RR = bnd RP fun p j => bnd (F (s.size + 1) [p] j) fun l e => .ok (togP K l, e)) (hadv : ∀ p j, RP = .ok (p, j) → 0 < j ∧ j ≤ s.size) :
    ∃ U, e = .returned (pv U) ∧ w.heap.size + 1 ≤ w1.heap.size ∧ CInv s z w o K F RR (.slice (some ⟨w1.heap.size, 0, none⟩) 1 1) (w1.alloc (.cells (patO U) 24)) := by
  have hX0 : w0.heap[w.heap.size]? = some (.cells zeroP 24 (0, 0)) := by rw [hw0]; exact zbox
  have hB0 : But z w w0 := by rw [hw0]; exact (But.refl z w).alloc _
  have hsz0 : w0.heap.size = w.heap.size + 1 := by rw [hw0, World.size_alloc]
  have hs1 : w.heap.size + 1 ≤ w1.heap.size := by have := hP.1.size; omega
  obtain ⟨U, hU, hUL⟩ : ∃ U, e = .returned (pv U) ∧ ∀ p k, RP = .ok (p, k) → U.can = p ∧ Lies (w.heap.size + 1) w1 U := by
    rcases RP with ⟨er, a⟩ | ⟨p, k⟩
    · obtain ⟨U, h⟩ := (wof_err hP rfl).2.1
      exact ⟨U, h, fun p k q => by cases q⟩
    · obtain ⟨-, ⟨U, h, hc, hl⟩, -⟩ := wof_ok hP rfl
      rw [hsz0] at hl
      exact ⟨U, h, fun p' k' q => by injection q with q; injection q with q _; subst q; exact ⟨hc, hl⟩⟩
  have hb2 : Below w1.heap.size w1 (w1.alloc (.cells (patO U) 24)) := (Below.refl _ _).alloc (Nat.le_refl _) _
  refine ⟨U, hU, hs1, (hB0.trans hP.1).trans (But.of_below hb2), row_below (but_z hP.1 hX0 (by omega)) hb2, by rw [World.size_alloc]; omega, [U], by simp, by simp, row_one (at_new rfl) hs1, ?_⟩
  rw [hU] at hP
  rcases RP with ⟨er, a⟩ | ⟨p, k⟩
  · obtain ⟨-, -, D, h1, h2, h3, h4⟩ := wof_err hP rfl
    exact .inr ⟨er, a, D, h1, h2, h3.below hb2, h4, by rw [hRR, bnd_err]⟩
  · obtain ⟨-, -, h3⟩ := wof_ok hP rfl
    obtain ⟨hc, hl⟩ := hUL p k rfl
    have had := hadv p k rfl
    exact .inl ⟨s.size + 1, k, [p], had.2, by omega, by simp; omega, h3.below hb2, hc ▸ KidsL.one hl (Nat.le_refl _) hs1, by rw [hRR, bnd_ok]⟩
theorem cm_beg {s : ByteArray} {k : Nat} (hk : k ≤ s.size) {x : Sg} {r : List Sg} (h : sgs s k = x :: r) : cmU ⟨#[40, 39, 64, 42, 65]⟩ x.k 5 = begN (nx s k) ∧ x.k ≤ 1000 := by
  have hb : nx s k < 256 := bat_lt s (sk s k)
  obtain ⟨y, r', hy, -, hc⟩ := sgs_any hk
  obtain ⟨rfl, rfl⟩ : y = x ∧ r' = r := by rw [h] at hy; injection hy with a b; exact ⟨a.symm, b.symm⟩
  have e : cmU ⟨#[40, 39, 64, 42, 65]⟩ y.k 5 = (decide (y.k = 40) || decide (y.k = 39) || (decide (y.k = 302) || decide (y.k = 301)) || decide (y.k = 64) || decide (y.k = 42) || decide (y.k = 303)) := by
    show (((((false || cmN 40 y.k) || cmN 39 y.k) || cmN 64 y.k) || cmN 42 y.k) || cmN 65 y.k) = _
    rw [Bool.eq_iff_iff]
    clear hc hy hb
    simp [cmN]
    omega
  have hend : sk s k = s.size → nx s k = 0 := fun h => bat_end s _ (by omega)
  have hl : letterN (nx s k) = true → 65 ≤ nx s k ∧ nx s k ≤ 90 := of_decide_eq_true
  have hl' : letterN (nx s k) = decide (65 ≤ nx s k ∧ nx s k ≤ 90) := rfl
  have hd' : digitN (nx s k) = decide (48 ≤ nx s k ∧ nx s k ≤ 57) := rfl
  rw [hl', hd'] at hc
  simp only [decide_eq_true_eq, decide_eq_false_iff_not] at hc
  refine ⟨?_, by omega⟩
  rw [e]
  unfold begN
  rw [hl', Bool.eq_iff_iff]
  simp only [Bool.or_eq_true, decide_eq_true_eq]
  omega
theorem cm_bar {s : ByteArray} {k : Nat} (hk : k ≤ s.size) {x : Sg} {r : List Sg} (h : sgs s k = x :: r) : cmU ⟨#[124]⟩ x.k 1 = decide (nx s k = 124) ∧ x.k ≤ 1000 := by
  have hb : nx s k < 256 := bat_lt s (sk s k)
  obtain ⟨y, r', hy, -, hc⟩ := sgs_any hk
  obtain ⟨rfl, rfl⟩ : y = x ∧ r' = r := by rw [h] at hy; injection hy with a b; exact ⟨a.symm, b.symm⟩
  have e : cmU ⟨#[124]⟩ y.k 1 = decide (y.k = 124) := by
    show (false || cmN 124 y.k) = _
    unfold cmN
    simp
  have hend : sk s k = s.size → nx s k = 0 := fun h => bat_end s _ (by omega)
  have hl' : letterN (nx s k) = decide (65 ≤ nx s k ∧ nx s k ≤ 90) := rfl
  have hd' : digitN (nx s k) = decide (48 ≤ nx s k ∧ nx s k ≤ 57) := rfl
  rw [hl', hd'] at hc
  simp only [decide_eq_true_eq, decide_eq_false_iff_not] at hc
  refine ⟨?_, by omega⟩
  rw [e, Bool.eq_iff_iff]
  simp only [decide_eq_true_eq]
  omega
set_option maxRecDepth 100000 in
set_option maxHeartbeats 8000000 in
theorem wcats_any {d : Nat} (hd : d ≤ 200) {B : ByteArray → Nat → Rd PT} (hB : ∀ s, Adv s (B s)) (HPI : WSays 24 d (fun s => piP d (B s) s)) : WSays 17 d (fun s => pcP d (B s) s) := by
  intro s i z w hs hi hW
  have hdd : ((200 - d : Nat) : Int) ≤ 201 := by omega
  have hzl := hW.lt
  have hb0 : Below w.heap.size w (w.alloc (.cells zeroP 24)) := (Below.refl _ _).alloc (Nat.le_refl _) _
  have HC := hide (show ∀ i w, i ≤ s.size → Wk w z s (sgs s i) ((200 - d : Nat) : Int) 0 0 → Calls Tryd.prog 24 #[.pointer (some ⟨z, 0, none⟩)] w fun e w' => WPost (patL w.heap.size) patV0 z s ((200 - d : Nat) : Int) w (piP d (B s) s i) e w' from fun i w h1 h2 => HPI s i z w hs h1 h2)
  show Calls _ _ _ _ fun e w' => WPost (patL w.heap.size) patV0 z s ((200 - d : Nat) : Int) w (pcP d (B s) s i) e w'
  have HRR := hide (show pcP d (B s) s i = bnd (piP d (B s) s i) fun p j => bnd (pcF d (B s) s (s.size + 1) [p] j) fun l e => .ok (togP (18 : Nat) l, e) from rfl)
  have HAD := hide (fun i x j h => piP_adv (d := d) (hB s) i x j h)
  generalize pcP d (B s) s i = RR at *
  generalize ((200 - d : Nat) : Int) = o at *
  have HC0 := hide (unhide HC i _ hi (hW.below hb0))
  have HFS := hide (pcF_step d (B s) s)
  generalize pcF d (B s) s = F at *
  generalize piP d (B s) s = PP at *
  clear hb0 hW HPI hB
  go_enter Tryd.func17, Tryd.ntmps17
  go_wp2_with fail
  refine (unhide HC0).mono ?_
  intro e w1 hP
  obtain ⟨U, rfl, hs1, hI⟩ := cinv_one (K := 18) (F := F) (RR := RR) hzl rfl hP (unhide HRR) (fun p j q => by have := unhide HAD i p j hi q; omega)
  have HI2 := hide hI
  clear hP hI HC0 HRR
  unfold pv
  go_wp2_with fail
  rw [show (#[.int .i64 U.k, .string U.t, .int .i64 U.n, .string U.nm, .slice U.xa U.len U.cap] : Array Value) = patO U from rfl]
  generalize (w1.alloc (.cells (patO U) 24)) = w2 at *
  generalize Value.slice (some ⟨w1.heap.size, 0, none⟩) 1 1 = v0 at *
  go_loopw [3] (fun v wr => Hid (CInv s z w o 18 F RR v wr)) (fun _ wr => mW wr z s.size)
  case atStart => exact unhide HI2
  case round =>
    obtain ⟨hBr, hXr, hszr, L, hLn, hL6, hrow, hSt⟩ := unhide hrel
    clear hrel HI2
    rcases hSt with ⟨f, k, l, hk, hf, hLk, hWr, hKL, hRR⟩ | ⟨er, a, D, hD1, hD2, hWr, her, hRR⟩
    · obtain ⟨x, r, hx, hxa, -⟩ := sgs_any hk
      obtain ⟨hcm, hx1000⟩ := cm_beg hk hx
      have hWx := hWr
      rw [hx] at hWx
      have HM := hide (mW_ok (n := s.size) hWx)
      rw [hxa] at HM
      have HCO := hide (comes_any ⟨#[40, 39, 64, 42, 65]⟩ (by decide) hx1000 hWx)
      rw [show (⟨#[40, 39, 64, 42, 65]⟩ : ByteArray).size = 5 from rfl, hcm] at HCO
      obtain ⟨f', rfl⟩ : ∃ f', f = f' + 1 := ⟨f - 1, by omega⟩
      have hRR2 : RR = bnd (if begN (nx s k) = true then bnd (PP (sk s k)) fun p j => F f' (l ++ [p]) j else .ok (l, sk s k)) fun l e => .ok (togP (18 : Nat) l, e) := by rw [hRR, unhide HFS]
      have hks := sk_le s k hk
      have c3 := hWr.cells.2.1
      by_cases hc : begN (nx s k) = true
      · have HRE := hide (show RR = bnd (bnd (PP (sk s k)) fun p j => F f' (l ++ [p]) j) fun l e => .ok (togP (18 : Nat) l, e) by rw [hRR2, if_pos hc])
        rw [hc] at HCO
        have hlt : sk s k < s.size := by
          by_cases q : sk s k < s.size
          · exact q
          · rw [show nx s k = 0 from bat_end s _ (by omega)] at hc; exact absurd hc (by decide)
        have HADk := hide (fun p j => unhide HAD (sk s k) p j (by omega))
        have HCk := hide (fun W h => unhide HC (sk s k) W (by omega) h)
        have HWr := hide hWr
        have HKL := hide hKL
        have HXr := hide hXr
        have HBr := hide hBr
        have HSK := hide (sgs_skip hk)
        clear hRR hRR2 hcm hx hxa hWx hWr hc hKL hXr hBr hrow HC HAD
        generalize PP (sk s k) = RP at *
        go_wp2_with fail
        refine (unhide HCO).mono ?_
        rintro e w3 ⟨rfl, hb3⟩
        have HKL3 := hide ((unhide HKL).step hb3.size fun i _ h => hb3.block i h)
        have HX3 := hide (row_below (unhide HXr) hb3)
        have HB3 := hide ((unhide HBr).trans (But.of_below hb3))
        have HW3 := hide ((unhide HWr).below hb3)
        have hs3 := hb3.size
        have hsz3 : w.heap.size + 1 ≤ w3.heap.size := by omega
        clear hb3 HKL HXr HBr HWr
        rw [unhide HSK] at HW3
        go_wp2_with fail
        refine (unhide HCk w3 (unhide HW3)).mono ?_
        intro e w4 hP
        obtain ⟨U2, hU, hZ⟩ : ∃ U2, e = .returned (pv U2) ∧ ((∃ p a1, RP = .ok (p, a1) ∧ Wk w4 z s (sgs s a1) o 0 0 ∧ U2.can = p ∧ Lies w3.heap.size w4 U2) ∨ (∃ (er : Int) (a : Nat) (D : Int), o ≤ D ∧ D ≤ 201 ∧ WkB w4 z s D er a ∧ er ≠ 0 ∧ RP = .error (er, a))) := by
          rcases RP with ⟨er, a⟩ | ⟨p, a1⟩
          · obtain ⟨-, ⟨U, h⟩, D, h1, h2, h3, h4⟩ := wof_err hP rfl
            exact ⟨U, h, .inr ⟨er, a, D, h1, h2, h3, h4, rfl⟩⟩
          · obtain ⟨-, ⟨U, h, hc, hl⟩, h3⟩ := wof_ok hP rfl
            exact ⟨U, h, .inl ⟨p, a1, rfl, h3, hc, hl⟩⟩
        have hb5 : Below w4.heap.size w4 (w4.alloc (.cells (patO U2) 24)) := (Below.refl _ _).alloc (Nat.le_refl _) _
        have HRW := hide (((unhide HKL3).row.butW hP.1 (by omega)).later hb5)
        have hsz5 : w.heap.size + 1 ≤ (w4.alloc (.cells (patO U2) 24)).heap.size := by have h2 := hP.1.size; rw [World.size_alloc]; omega
        have HPUT := hide (fun v' w6 h1 h2 h3 => cinv_put (K := 18) (F := F) (RR := RR) (RP := RP) (f := f') (k0 := sk s k) (wr := wr) (w6 := w6) (v' := v') (U := U2) hs hzl (unhide HB3) (unhide HX3) hsz3 (by omega) (unhide HKL3) hP.1 h1 h2 h3 (unhide HRE) (by
          rcases hZ with ⟨p, a1, q1, q2, q3, q4⟩ | h
          · have had := unhide HADk p a1 q1
            exact .inl ⟨p, a1, q1, had.2, by omega, by omega, by omega, q2, q3, q4⟩
          · exact .inr h) (unhide HM) hlt)
        subst hU
        clear hP hb5 hZ
        unfold pv
        go_wp2_with (first
          | (at_builtin; refine wpList_row Tryd.underlying22 info_pat rfl (by decide) (by decide) five_len five_one rfl _ _ rfl (unhide HRW) hsz5 U2 w4.heap.size 1 rfl rfl new_five (by omega) ?_; intro v' w6 hrow hgrow hown)
          | fail)
        have HK6 := hide (unhide HPUT v' w6 hrow hgrow hown)
        clear hrow hgrow hown hsz5 HPUT
        go_wp2_with fail
        exact unhide HK6
      · have HE := hide (show RR = .ok (togP (18 : Nat) l, sk s k) by rw [hRR2, if_neg hc, bnd_ok])
        rw [show begN (nx s k) = false by simpa using hc] at HCO
        have HWr := hide (show Wk wr z s (sgs s (sk s k)) o 0 0 by rw [← sgs_skip hk]; exact hWr)
        have HKL := hide hKL
        have HXr := hide hXr
        have HBr := hide hBr
        clear hRR hRR2 hcm hx hxa hWx hWr hc hKL hXr hBr hrow HC HAD HFS HM
        generalize sk s k = m at *
        go_wp2_with fail
        refine (unhide HCO).mono ?_
        rintro e w3 ⟨rfl, hb3⟩
        have hKL3 := (unhide HKL).step hb3.size fun i _ h => hb3.block i h
        have hrow3 := hKL3.row
        have HX3 := hide (row_below (unhide HXr) hb3)
        have HEND := hide (fun U (hU : TogU (18 : Int) u3 L U) => (show WPost (patL w.heap.size) patV0 z s o w RR (.returned (pv U)) (w3.setRow w.heap.size (patO U)) from
          wpost_ok (unhide HE) (but_setRow ((unhide HBr).trans (But.of_below hb3)) (Nat.le_refl _) _) ⟨U, rfl, by rw [togU_can hU, hKL3.can]; rfl, ((togU_lies (k' := 18) (by decide) hU hKL3).setRow (by omega) _).mono (by omega)⟩ (((unhide HWr).below hb3).box hzl)))
        clear hKL3 hb3 HXr HBr HWr HKL
        rcases L with _ | ⟨x1, _ | ⟨x2, L'⟩⟩
        · exact absurd rfl hLn
        · obtain ⟨g, cap, rfl, -, -⟩ := hrow3.form (by simp)
          obtain ⟨y0, y1, y2, y3, y4⟩ := row_five hrow3 rfl (i := 0) (x := x1) rfl
          have hix := idx_run (g := g) (cap := cap) (i := 0) (n := 1) Tryd.underlying22 size_pat (by decide)
          simp only [Nat.zero_mul, Nat.zero_add] at y0 y1 y2 y3 y4
          have HEN2 := hide (unhide HEND x1 (.inl ⟨x1, rfl, rfl⟩))
          clear hrow3 HEND hLn
          go_wp2_with (first
            | (refine wpList_store_row rfl 24 _ _ rfl w.heap.size (patO x1) rfl rfl 24 zeroP (unhide HX3) size_pat rfl (patO_oneC _) ?_)
            | fail)
          (try simp only [Exit.inBlock, Exit.then])
          exact bodyPost_ret (results_cell_row rfl _ _ w.heap.size 24 (patO x1) (0, 0) _ rfl (setRow_heap _ _ _ _ _ _ (unhide HX3)) Tryd.underlying24 rfl size_pat) rfl (unhide HEN2)
        · obtain ⟨g, cap, rfl, -, -⟩ := hrow3.form (by simp)
          obtain ⟨n, hn2⟩ : ∃ n, n = (x1 :: x2 :: L').length := ⟨_, rfl⟩
          have hge : 2 ≤ n := by rw [hn2]; simp
          have hm := hrow3.max
          unfold maxLen at hm
          have HEN2 := hide (unhide HEND (rowN (18 : Int) ⟨#[]⟩ g cap (x1 :: x2 :: L')) (.inr ⟨by simp, g, cap, rfl, rfl⟩))
          have HPO := hide (show patO (rowN (18 : Int) ⟨#[]⟩ g cap (x1 :: x2 :: L')) = #[.int .i64 18, .string ⟨#[]⟩, .int .i64 0, .string ⟨#[]⟩, .slice (some ⟨g, 0, none⟩) n cap] by rw [hn2]; rfl)
          have HPV := hide (show pv (rowN (18 : Int) ⟨#[]⟩ g cap (x1 :: x2 :: L')) = .agg #[.int .i64 18, .string ⟨#[]⟩, .int .i64 0, .string ⟨#[]⟩, .slice (some ⟨g, 0, none⟩) n cap] by rw [hn2]; rfl)
          rw [unhide HPO, unhide HPV] at HEN2
          rw [← hn2] at hm ⊢
          have q1 : ((n : Int) == 1) = false := by rw [beq_eq_false_iff_ne]; omega
          clear hrow3 HEND hLn hn2 HPO HPV
          go_wp2_with (first
            | (refine wpList_store_row rfl 24 _ _ rfl w.heap.size #[.int .i64 18, .string ⟨#[]⟩, .int .i64 0, .string ⟨#[]⟩, .slice (some ⟨g, 0, none⟩) n cap] rfl rfl 24 zeroP (unhide HX3) size_pat rfl (by simp [Value.oneCell']) ?_)
            | fail)
          (try simp only [Exit.inBlock, Exit.then])
          exact bodyPost_ret (results_cell_row rfl _ _ w.heap.size 24 #[.int .i64 18, .string ⟨#[]⟩, .int .i64 0, .string ⟨#[]⟩, .slice (some ⟨g, 0, none⟩) n cap] (0, 0) _ rfl (setRow_heap _ _ _ _ _ _ (unhide HX3)) Tryd.underlying24 rfl size_pat) rfl (unhide HEN2)
    · have c3 := hWr.cells.2.1
      have q3 : (er == 0) = false := by rw [beq_eq_false_iff_ne]; exact her
      have hrow3 := hrow
      have HX3 := hide hXr
      have HEND := hide (fun U (_ : TogU (18 : Int) u3 L U) => (show WPost (patL w.heap.size) patV0 z s o w RR (.returned (pv U)) (wr.setRow w.heap.size (patO U)) from
        wpost_err hRR (but_setRow hBr (Nat.le_refl _) _) ⟨U, rfl⟩ hD1 hD2 (hWr.box hzl) her))
      clear hRR hWr hXr hBr her hrow HC HAD HFS
      rcases L with _ | ⟨x1, _ | ⟨x2, L'⟩⟩
      · exact absurd rfl hLn
      · obtain ⟨g, cap, rfl, -, -⟩ := hrow3.form (by simp)
        obtain ⟨y0, y1, y2, y3, y4⟩ := row_five hrow3 rfl (i := 0) (x := x1) rfl
        have hix := idx_run (g := g) (cap := cap) (i := 0) (n := 1) Tryd.underlying22 size_pat (by decide)
        simp only [Nat.zero_mul, Nat.zero_add] at y0 y1 y2 y3 y4
        have HEN2 := hide (unhide HEND x1 (.inl ⟨x1, rfl, rfl⟩))
        clear hrow3 HEND hLn
        go_wp2_with (first
          | (refine wpList_store_row rfl 24 _ _ rfl w.heap.size (patO x1) rfl rfl 24 zeroP (unhide HX3) size_pat rfl (patO_oneC _) ?_)
          | fail)
        (try simp only [Exit.inBlock, Exit.then])
        exact bodyPost_ret (results_cell_row rfl _ _ w.heap.size 24 (patO x1) (0, 0) _ rfl (setRow_heap _ _ _ _ _ _ (unhide HX3)) Tryd.underlying24 rfl size_pat) rfl (unhide HEN2)
      · obtain ⟨g, cap, rfl, -, -⟩ := hrow3.form (by simp)
        obtain ⟨n, hn2⟩ : ∃ n, n = (x1 :: x2 :: L').length := ⟨_, rfl⟩
        have hge : 2 ≤ n := by rw [hn2]; simp
        have hm := hrow3.max
        unfold maxLen at hm
        have HEN2 := hide (unhide HEND (rowN (18 : Int) ⟨#[]⟩ g cap (x1 :: x2 :: L')) (.inr ⟨by simp, g, cap, rfl, rfl⟩))
        have HPO := hide (show patO (rowN (18 : Int) ⟨#[]⟩ g cap (x1 :: x2 :: L')) = #[.int .i64 18, .string ⟨#[]⟩, .int .i64 0, .string ⟨#[]⟩, .slice (some ⟨g, 0, none⟩) n cap] by rw [hn2]; rfl)
        have HPV := hide (show pv (rowN (18 : Int) ⟨#[]⟩ g cap (x1 :: x2 :: L')) = .agg #[.int .i64 18, .string ⟨#[]⟩, .int .i64 0, .string ⟨#[]⟩, .slice (some ⟨g, 0, none⟩) n cap] by rw [hn2]; rfl)
        rw [unhide HPO, unhide HPV] at HEN2
        rw [← hn2] at hm ⊢
        have q1 : ((n : Int) == 1) = false := by rw [beq_eq_false_iff_ne]; omega
        clear hrow3 HEND hLn hn2 HPO HPV
        go_wp2_with (first
          | (refine wpList_store_row rfl 24 _ _ rfl w.heap.size #[.int .i64 18, .string ⟨#[]⟩, .int .i64 0, .string ⟨#[]⟩, .slice (some ⟨g, 0, none⟩) n cap] rfl rfl 24 zeroP (unhide HX3) size_pat rfl (by simp [Value.oneCell']) ?_)
          | fail)
        (try simp only [Exit.inBlock, Exit.then])
        exact bodyPost_ret (results_cell_row rfl _ _ w.heap.size 24 #[.int .i64 18, .string ⟨#[]⟩, .int .i64 0, .string ⟨#[]⟩, .slice (some ⟨g, 0, none⟩) n cap] (0, 0) _ rfl (setRow_heap _ _ _ _ _ _ (unhide HX3)) Tryd.underlying24 rfl size_pat) rfl (unhide HEN2)
set_option maxRecDepth 100000 in
set_option maxHeartbeats 8000000 in
theorem walts_any {d : Nat} (hd : d ≤ 200) {B : ByteArray → Nat → Rd PT} (hB : ∀ s, Adv s (B s)) (HPI : WSays 17 d (fun s => pcP d (B s) s)) : WSays 10 d (fun s => alP d (B s) s) := by
  intro s i z w hs hi hW
  have hdd : ((200 - d : Nat) : Int) ≤ 201 := by omega
  have hzl := hW.lt
  have hb0 : Below w.heap.size w (w.alloc (.cells zeroP 24)) := (Below.refl _ _).alloc (Nat.le_refl _) _
  have HC := hide (show ∀ i w, i ≤ s.size → Wk w z s (sgs s i) ((200 - d : Nat) : Int) 0 0 → Calls Tryd.prog 17 #[.pointer (some ⟨z, 0, none⟩)] w fun e w' => WPost (patL w.heap.size) patV0 z s ((200 - d : Nat) : Int) w (pcP d (B s) s i) e w' from fun i w h1 h2 => HPI s i z w hs h1 h2)
  show Calls _ _ _ _ fun e w' => WPost (patL w.heap.size) patV0 z s ((200 - d : Nat) : Int) w (alP d (B s) s i) e w'
  have HRR := hide (show alP d (B s) s i = bnd (pcP d (B s) s i) fun p j => bnd (alF d (B s) s (s.size + 1) [p] j) fun l e => .ok (togP (19 : Nat) l, e) from rfl)
  have HAD := hide (fun i x j h => pcP_adv (d := d) (hB s) i x j h)
  generalize alP d (B s) s i = RR at *
  generalize ((200 - d : Nat) : Int) = o at *
  have HC0 := hide (unhide HC i _ hi (hW.below hb0))
  have HFS := hide (alF_step d (B s) s)
  generalize alF d (B s) s = F at *
  generalize pcP d (B s) s = PP at *
  clear hb0 hW HPI hB
  go_enter Tryd.func10, Tryd.ntmps10
  go_wp2_with fail
  refine (unhide HC0).mono ?_
  intro e w1 hP
  obtain ⟨U, rfl, hs1, hI⟩ := cinv_one (K := 19) (F := F) (RR := RR) hzl rfl hP (unhide HRR) (fun p j q => by have := unhide HAD i p j hi q; omega)
  have HI2 := hide hI
  clear hP hI HC0 HRR
  unfold pv
  go_wp2_with fail
  rw [show (#[.int .i64 U.k, .string U.t, .int .i64 U.n, .string U.nm, .slice U.xa U.len U.cap] : Array Value) = patO U from rfl]
  generalize (w1.alloc (.cells (patO U) 24)) = w2 at *
  generalize Value.slice (some ⟨w1.heap.size, 0, none⟩) 1 1 = v0 at *
  go_loopw [3] (fun v wr => Hid (CInv s z w o 19 F RR v wr)) (fun _ wr => mW wr z s.size)
  case atStart => exact unhide HI2
  case round =>
    obtain ⟨hBr, hXr, hszr, L, hLn, hL6, hrow, hSt⟩ := unhide hrel
    clear hrel HI2
    rcases hSt with ⟨f, k, l, hk, hf, hLk, hWr, hKL, hRR⟩ | ⟨er, a, D, hD1, hD2, hWr, her, hRR⟩
    · obtain ⟨x, r, hx, hxa, -⟩ := sgs_any hk
      obtain ⟨hcm, hx1000⟩ := cm_bar hk hx
      have hWx := hWr
      rw [hx] at hWx
      have HM := hide (mW_ok (n := s.size) hWx)
      rw [hxa] at HM
      have HCO := hide (comes_any ⟨#[124]⟩ (by decide) hx1000 hWx)
      rw [show (⟨#[124]⟩ : ByteArray).size = 1 from rfl, hcm] at HCO
      obtain ⟨f', rfl⟩ : ∃ f', f = f' + 1 := ⟨f - 1, by omega⟩
      have hRR2 : RR = bnd (if nx s k = 124 then bnd (PP (sk s k + 1)) fun p j => F f' (l ++ [p]) j else .ok (l, sk s k)) fun l e => .ok (togP (19 : Nat) l, e) := by rw [hRR, unhide HFS]
      have hks := sk_le s k hk
      have c3 := hWr.cells.2.1
      by_cases hc : nx s k = 124
      · have HRE := hide (show RR = bnd (bnd (PP (sk s k + 1)) fun p j => F f' (l ++ [p]) j) fun l e => .ok (togP (19 : Nat) l, e) by rw [hRR2, if_pos hc])
        rw [decide_eq_true hc] at HCO
        have hlt : sk s k < s.size := nx_in (by omega)
        have HTK := hide (fun W (h : Wk W z s (sgs s k) o 0 0) => wtk_ok hk h 124 hc (by decide) (by decide) (by decide) (by decide) (by decide))
        have HADk := hide (fun p j => unhide HAD (sk s k + 1) p j (by omega))
        have HCk := hide (fun W h => unhide HC (sk s k + 1) W (by omega) h)
        have HWr := hide hWr
        have HKL := hide hKL
        have HXr := hide hXr
        have HBr := hide hBr
        have HSK := hide (sgs_skip hk)
        clear hRR hRR2 hcm hx hxa hWx hWr hc hKL hXr hBr hrow HC HAD
        generalize PP (sk s k + 1) = RP at *
        go_wp2_with fail
        refine (unhide HCO).mono ?_
        rintro e w3 ⟨rfl, hb3⟩
        have HKL3 := hide ((unhide HKL).step hb3.size fun i _ h => hb3.block i h)
        have HX3 := hide (row_below (unhide HXr) hb3)
        have HB3 := hide ((unhide HBr).trans (But.of_below hb3))
        have HW3 := hide ((unhide HWr).below hb3)
        have hs3 := hb3.size
        have hsz3 : w.heap.size + 1 ≤ w3.heap.size := by omega
        clear hb3 HKL HXr HBr HWr
        have HT3 := hide (unhide HTK w3 (unhide HW3))
        go_wp2_with fail
        refine (unhide HT3).mono ?_
        rintro e w4 ⟨rfl, hb4, hW4⟩
        have HKL4 := hide ((unhide HKL3).but hb4 (by omega))
        have HX4 := hide (but_z hb4 (unhide HX3) (by omega))
        have HB4 := hide ((unhide HB3).trans hb4)
        have HW4 := hide hW4
        have hs4 := hb4.size
        clear hb4 hW4 HT3 HTK HKL3 HX3 HB3 HW3 hsz3
        have hsz4 : w.heap.size + 1 ≤ w4.heap.size := by omega
        unfold sgE
        go_wp2_with fail
        refine (unhide HCk w4 (unhide HW4)).mono ?_
        intro e w5 hP
        obtain ⟨U2, hU, hZ⟩ : ∃ U2, e = .returned (pv U2) ∧ ((∃ p a1, RP = .ok (p, a1) ∧ Wk w5 z s (sgs s a1) o 0 0 ∧ U2.can = p ∧ Lies w4.heap.size w5 U2) ∨ (∃ (er : Int) (a : Nat) (D : Int), o ≤ D ∧ D ≤ 201 ∧ WkB w5 z s D er a ∧ er ≠ 0 ∧ RP = .error (er, a))) := by
          rcases RP with ⟨er, a⟩ | ⟨p, a1⟩
          · obtain ⟨-, ⟨U, h⟩, D, h1, h2, h3, h4⟩ := wof_err hP rfl
            exact ⟨U, h, .inr ⟨er, a, D, h1, h2, h3, h4, rfl⟩⟩
          · obtain ⟨-, ⟨U, h, hc, hl⟩, h3⟩ := wof_ok hP rfl
            exact ⟨U, h, .inl ⟨p, a1, rfl, h3, hc, hl⟩⟩
        have hb5 : Below w5.heap.size w5 (w5.alloc (.cells (patO U2) 24)) := (Below.refl _ _).alloc (Nat.le_refl _) _
        have HRW := hide (((unhide HKL4).row.butW hP.1 (by omega)).later hb5)
        have hsz5 : w.heap.size + 1 ≤ (w5.alloc (.cells (patO U2) 24)).heap.size := by have h2 := hP.1.size; rw [World.size_alloc]; omega
        have HPUT := hide (fun v' w6 h1 h2 h3 => cinv_put (K := 19) (F := F) (RR := RR) (RP := RP) (f := f') (k0 := sk s k) (wr := wr) (w6 := w6) (v' := v') (U := U2) hs hzl (unhide HB4) (unhide HX4) hsz4 (by omega) (unhide HKL4) hP.1 h1 h2 h3 (unhide HRE) (by
          rcases hZ with ⟨p, a1, q1, q2, q3, q4⟩ | h
          · have had := unhide HADk p a1 q1
            exact .inl ⟨p, a1, q1, had.2, by omega, by omega, by omega, q2, q3, q4⟩
          · exact .inr h) (unhide HM) hlt)
        subst hU
        clear hP hb5 hZ
        unfold pv
        go_wp2_with (first
          | (at_builtin; refine wpList_row Tryd.underlying22 info_pat rfl (by decide) (by decide) five_len five_one rfl _ _ rfl (unhide HRW) hsz5 U2 w5.heap.size 1 rfl rfl new_five (by omega) ?_; intro v' w6 hrow hgrow hown)
          | fail)
        have HK6 := hide (unhide HPUT v' w6 hrow hgrow hown)
        clear hrow hgrow hown hsz5 HPUT
        go_wp2_with fail
        exact unhide HK6
      · have HE := hide (show RR = .ok (togP (19 : Nat) l, sk s k) by rw [hRR2, if_neg hc, bnd_ok])
        rw [decide_eq_false hc] at HCO
        have HWr := hide (show Wk wr z s (sgs s (sk s k)) o 0 0 by rw [← sgs_skip hk]; exact hWr)
        have HKL := hide hKL
        have HXr := hide hXr
        have HBr := hide hBr
        clear hRR hRR2 hcm hx hxa hWx hWr hc hKL hXr hBr hrow HC HAD HFS HM
        generalize sk s k = m at *
        go_wp2_with fail
        refine (unhide HCO).mono ?_
        rintro e w3 ⟨rfl, hb3⟩
        have hKL3 := (unhide HKL).step hb3.size fun i _ h => hb3.block i h
        have hrow3 := hKL3.row
        have HX3 := hide (row_below (unhide HXr) hb3)
        have HEND := hide (fun U (hU : TogU (19 : Int) u3 L U) => (show WPost (patL w.heap.size) patV0 z s o w RR (.returned (pv U)) (w3.setRow w.heap.size (patO U)) from
          wpost_ok (unhide HE) (but_setRow ((unhide HBr).trans (But.of_below hb3)) (Nat.le_refl _) _) ⟨U, rfl, by rw [togU_can hU, hKL3.can]; rfl, ((togU_lies (k' := 19) (by decide) hU hKL3).setRow (by omega) _).mono (by omega)⟩ (((unhide HWr).below hb3).box hzl)))
        clear hKL3 hb3 HXr HBr HWr HKL
        rcases L with _ | ⟨x1, _ | ⟨x2, L'⟩⟩
        · exact absurd rfl hLn
        · obtain ⟨g, cap, rfl, -, -⟩ := hrow3.form (by simp)
          obtain ⟨y0, y1, y2, y3, y4⟩ := row_five hrow3 rfl (i := 0) (x := x1) rfl
          have hix := idx_run (g := g) (cap := cap) (i := 0) (n := 1) Tryd.underlying22 size_pat (by decide)
          simp only [Nat.zero_mul, Nat.zero_add] at y0 y1 y2 y3 y4
          have HEN2 := hide (unhide HEND x1 (.inl ⟨x1, rfl, rfl⟩))
          clear hrow3 HEND hLn
          go_wp2_with (first
            | (refine wpList_store_row rfl 24 _ _ rfl w.heap.size (patO x1) rfl rfl 24 zeroP (unhide HX3) size_pat rfl (patO_oneC _) ?_)
            | fail)
          (try simp only [Exit.inBlock, Exit.then])
          exact bodyPost_ret (results_cell_row rfl _ _ w.heap.size 24 (patO x1) (0, 0) _ rfl (setRow_heap _ _ _ _ _ _ (unhide HX3)) Tryd.underlying24 rfl size_pat) rfl (unhide HEN2)
        · obtain ⟨g, cap, rfl, -, -⟩ := hrow3.form (by simp)
          obtain ⟨n, hn2⟩ : ∃ n, n = (x1 :: x2 :: L').length := ⟨_, rfl⟩
          have hge : 2 ≤ n := by rw [hn2]; simp
          have hm := hrow3.max
          unfold maxLen at hm
          have HEN2 := hide (unhide HEND (rowN (19 : Int) ⟨#[]⟩ g cap (x1 :: x2 :: L')) (.inr ⟨by simp, g, cap, rfl, rfl⟩))
          have HPO := hide (show patO (rowN (19 : Int) ⟨#[]⟩ g cap (x1 :: x2 :: L')) = #[.int .i64 19, .string ⟨#[]⟩, .int .i64 0, .string ⟨#[]⟩, .slice (some ⟨g, 0, none⟩) n cap] by rw [hn2]; rfl)
          have HPV := hide (show pv (rowN (19 : Int) ⟨#[]⟩ g cap (x1 :: x2 :: L')) = .agg #[.int .i64 19, .string ⟨#[]⟩, .int .i64 0, .string ⟨#[]⟩, .slice (some ⟨g, 0, none⟩) n cap] by rw [hn2]; rfl)
          rw [unhide HPO, unhide HPV] at HEN2
          rw [← hn2] at hm ⊢
          have q1 : ((n : Int) == 1) = false := by rw [beq_eq_false_iff_ne]; omega
          clear hrow3 HEND hLn hn2 HPO HPV
          go_wp2_with (first
            | (refine wpList_store_row rfl 24 _ _ rfl w.heap.size #[.int .i64 19, .string ⟨#[]⟩, .int .i64 0, .string ⟨#[]⟩, .slice (some ⟨g, 0, none⟩) n cap] rfl rfl 24 zeroP (unhide HX3) size_pat rfl (by simp [Value.oneCell']) ?_)
            | fail)
          (try simp only [Exit.inBlock, Exit.then])
          exact bodyPost_ret (results_cell_row rfl _ _ w.heap.size 24 #[.int .i64 19, .string ⟨#[]⟩, .int .i64 0, .string ⟨#[]⟩, .slice (some ⟨g, 0, none⟩) n cap] (0, 0) _ rfl (setRow_heap _ _ _ _ _ _ (unhide HX3)) Tryd.underlying24 rfl size_pat) rfl (unhide HEN2)
    · have c3 := hWr.cells.2.1
      have q3 : (er == 0) = false := by rw [beq_eq_false_iff_ne]; exact her
      have hrow3 := hrow
      have HX3 := hide hXr
      have HEND := hide (fun U (_ : TogU (19 : Int) u3 L U) => (show WPost (patL w.heap.size) patV0 z s o w RR (.returned (pv U)) (wr.setRow w.heap.size (patO U)) from
        wpost_err hRR (but_setRow hBr (Nat.le_refl _) _) ⟨U, rfl⟩ hD1 hD2 (hWr.box hzl) her))
      clear hRR hWr hXr hBr her hrow HC HAD HFS
      rcases L with _ | ⟨x1, _ | ⟨x2, L'⟩⟩
      · exact absurd rfl hLn
      · obtain ⟨g, cap, rfl, -, -⟩ := hrow3.form (by simp)
        obtain ⟨y0, y1, y2, y3, y4⟩ := row_five hrow3 rfl (i := 0) (x := x1) rfl
        have hix := idx_run (g := g) (cap := cap) (i := 0) (n := 1) Tryd.underlying22 size_pat (by decide)
        simp only [Nat.zero_mul, Nat.zero_add] at y0 y1 y2 y3 y4
        have HEN2 := hide (unhide HEND x1 (.inl ⟨x1, rfl, rfl⟩))
        clear hrow3 HEND hLn
        go_wp2_with (first
          | (refine wpList_store_row rfl 24 _ _ rfl w.heap.size (patO x1) rfl rfl 24 zeroP (unhide HX3) size_pat rfl (patO_oneC _) ?_)
          | fail)
        (try simp only [Exit.inBlock, Exit.then])
        exact bodyPost_ret (results_cell_row rfl _ _ w.heap.size 24 (patO x1) (0, 0) _ rfl (setRow_heap _ _ _ _ _ _ (unhide HX3)) Tryd.underlying24 rfl size_pat) rfl (unhide HEN2)
      · obtain ⟨g, cap, rfl, -, -⟩ := hrow3.form (by simp)
        obtain ⟨n, hn2⟩ : ∃ n, n = (x1 :: x2 :: L').length := ⟨_, rfl⟩
        have hge : 2 ≤ n := by rw [hn2]; simp
        have hm := hrow3.max
        unfold maxLen at hm
        have HEN2 := hide (unhide HEND (rowN (19 : Int) ⟨#[]⟩ g cap (x1 :: x2 :: L')) (.inr ⟨by simp, g, cap, rfl, rfl⟩))
        have HPO := hide (show patO (rowN (19 : Int) ⟨#[]⟩ g cap (x1 :: x2 :: L')) = #[.int .i64 19, .string ⟨#[]⟩, .int .i64 0, .string ⟨#[]⟩, .slice (some ⟨g, 0, none⟩) n cap] by rw [hn2]; rfl)
        have HPV := hide (show pv (rowN (19 : Int) ⟨#[]⟩ g cap (x1 :: x2 :: L')) = .agg #[.int .i64 19, .string ⟨#[]⟩, .int .i64 0, .string ⟨#[]⟩, .slice (some ⟨g, 0, none⟩) n cap] by rw [hn2]; rfl)
        rw [unhide HPO, unhide HPV] at HEN2
        rw [← hn2] at hm ⊢
        have q1 : ((n : Int) == 1) = false := by rw [beq_eq_false_iff_ne]; omega
        clear hrow3 HEND hLn hn2 HPO HPV
        go_wp2_with (first
          | (refine wpList_store_row rfl 24 _ _ rfl w.heap.size #[.int .i64 19, .string ⟨#[]⟩, .int .i64 0, .string ⟨#[]⟩, .slice (some ⟨g, 0, none⟩) n cap] rfl rfl 24 zeroP (unhide HX3) size_pat rfl (by simp [Value.oneCell']) ?_)
          | fail)
        (try simp only [Exit.inBlock, Exit.then])
        exact bodyPost_ret (results_cell_row rfl _ _ w.heap.size 24 #[.int .i64 19, .string ⟨#[]⟩, .int .i64 0, .string ⟨#[]⟩, .slice (some ⟨g, 0, none⟩) n cap] (0, 0) _ rfl (setRow_heap _ _ _ _ _ _ (unhide HX3)) Tryd.underlying24 rfl size_pat) rfl (unhide HEN2)
theorem walts_says : ∀ d, d ≤ 200 → WSays 10 d (fun s => alD s d)
  | 0, h => by
    have hB : ∀ s : ByteArray, Adv s (fun j => (.error (0, j) : Rd PT)) := fun s i x j _ h => by cases h
    exact walts_any h hB (wcats_any h hB (wgiven_any h hB (wpiece_any h hB (fun h => absurd h (by decide)))))
  | d + 1, h => by
    have hB : ∀ s : ByteArray, Adv s (alD s d) := fun s => alD_adv s d
    exact walts_any h hB (wcats_any h hB (wgiven_any h hB (wpiece_any h hB (fun _ => walts_says d (by omega)))))
end Go.Proofs.YtimbfelbalfmiaaDoor
