/- The reader of patterns: alternatives. -/
import Derived.Test.YtimbfelbalfmiaaDoorRdK
namespace Go.Proofs.YtimbfelbalfmiaaDoor
open Go.RowKit

set_option maxRecDepth 100000 in
set_option maxHeartbeats 4000000 in
theorem alts_any {d : Nat} {B : ByteArray → Nat → Rd PT} (hB : ∀ s, Adv s (B s)) (HPI : Says 20 d (fun s => pcP d (B s) s)) : Says 14 d (fun s => alP d (B s) s) := by
  intro s i z w hs hi hR hS hzG
  have hzl := hR.lt
  have hG := hS.lt
  have hb0 : But z w (w.alloc (.cells zeroP 24)) := (But.refl z w).alloc _
  have hR0 := hR.below ((Below.refl _ _).alloc (Nat.le_refl _) (.cells zeroP 24))
  have hne : w.heap.size ≠ z := by omega
  have HB0 := hide hb0
  have HS0 := hide (hS.but hb0 hzG)
  have HX0 := hide (show (w.alloc (.cells zeroP 24)).heap[w.heap.size]? = some (.cells zeroP 24 (0, 0)) from zbox)
  have HC := hide (show ∀ i w, i ≤ s.size → Rdr w z s i ((200 - d : Nat) : Int) → Shapes w → Calls Tryd.prog 20 #[.pointer (some ⟨z, 0, none⟩)] w fun e w' => RdPost (patL w.heap.size) z s ((200 - d : Nat) : Int) w (pcP d (B s) s i) e w' from fun i w h1 h2 h3 => HPI s i z w hs h1 h2 h3 hzG)
  show Calls _ _ _ _ fun e w' => RdPost (patL w.heap.size) z s ((200 - d : Nat) : Int) w (alP d (B s) s i) e w'
  have HRR := hide (show alP d (B s) s i = bnd (pcP d (B s) s i) fun p j => bnd (alF d (B s) s (s.size + 1) [p] j) fun l e => .ok (togP 19 l, e) from rfl)
  have HAD := hide (fun i x j h => pcP_adv (d := d) (hB s) i x j h)
  generalize alP d (B s) s i = RR at *
  generalize ((200 - d : Nat) : Int) = o at *
  have HC0 := hide (unhide HC i _ hi hR0 (unhide HS0))
  have HADi := hide (fun x j => unhide HAD i x j hi)
  have HFS := hide (alF_step d (B s) s)
  generalize alF d (B s) s = F at *
  generalize pcP d (B s) s = PP at *
  generalize PP i = RB at *
  clear hb0 hR0 hR hS HPI hB
  have HL0 := hide (Eq.refl (w.alloc (.cells zeroP 24)).heap.size)
  rcases RB with ⟨er, a1⟩ | ⟨p0, j0⟩
  · have HRE := hide (show RR = .error (er, a1) by rw [unhide HRR, bnd_err])
    go_enter Tryd.func14, Tryd.ntmps14
    go_wp2_with (refine (unhide HC0).mono ?_; intro e w3 hP; obtain ⟨hb3, rfl⟩ := of_err hP rfl; clear hP; have HB3 := hide ((unhide HB0).trans hb3); clear hb3; unfold thr)
    exact ⟨rfl, post_err (unhide HRE) (unhide HB3) rfl⟩
  · have HR1 := hide (show RR = bnd (F (s.size + 1) [p0] j0) fun l e => .ok (togP 19 l, e) by rw [unhide HRR, bnd_ok])
    have hadv := unhide HADi p0 j0 rfl
    clear HRR HADi
    go_enter Tryd.func14, Tryd.ntmps14
    go_wp2_with fail
    refine (unhide HC0).mono ?_
    intro e w1 hP
    obtain ⟨hb1, ⟨U, rfl, hU, hL⟩, hRd1⟩ := of_ok hP rfl
    have hs1 : w.heap.size + 1 ≤ w1.heap.size := by have := hb1.size; rw [World.size_alloc] at this; exact this
    rw [World.size_alloc] at hL
    have hb2 : Below w1.heap.size w1 (w1.alloc (.cells (patO U) 24)) := (Below.refl _ _).alloc (Nat.le_refl _) _
    have HK2 := hide (show Kds w z s o (w1.alloc (.cells (patO U) 24)) (.slice (some ⟨w1.heap.size, 0, none⟩) 1 1) j0 [p0] [U] from
      ⟨hRd1.below hb2, ((unhide HB0).trans hb1).trans (But.of_below hb2), row_below (but_z hb1 (unhide HX0) hne) hb2, hU ▸ KidsL.one hL (Nat.le_refl _) (by omega), by simp, ((unhide HS0).but hb1 hzG).later hb2⟩)
    clear hP hb1 hRd1 hU hL HC0 hb2
    unfold pv
    go_wp2_with fail
    rw [show (#[.int .i64 U.k, .string U.t, .int .i64 U.n, .string U.nm, .slice U.xa U.len U.cap] : Array Value) = patO U from rfl]
    generalize (w1.alloc (.cells (patO U) 24)) = w2 at *
    generalize Value.slice (some ⟨w1.heap.size, 0, none⟩) 1 1 = v0 at *
    go_loopw [3] (fun v wr => ∃ (f k : Nat) (l L : List PT), k ≤ s.size ∧ s.size < k + f ∧ L.length ≤ k ∧ Hid (Kds w z s o wr v k l L) ∧ Hid (RR = bnd (F f l k) fun l e => .ok (togP 19 l, e))) (fun _ wr => s.size + 1 - atIn wr z)
    case atStart => exact ⟨s.size + 1, j0, [p0], [U], hadv.2, by omega, by simp; omega, unhide HK2, unhide HR1⟩
    case round =>
      obtain ⟨f, k, l, L, hk, hf, hLk, HK, HE⟩ := hrel
      have hks := sk_le s k hk
      have HN := hide (next_any wr hs hk (unhide HK).rdr)
      have HM := hide (unhide HK).rdr.at
      obtain ⟨f', rfl⟩ : ∃ f', f = f' + 1 := ⟨f - 1, by omega⟩
      have HE2 := hide (show RR = bnd (if nx s k = 124 then bnd (PP (sk s k + 1)) fun p j => F f' (l ++ [p]) j else .ok (l, sk s k)) fun l e => .ok (togP 19 l, e) by rw [unhide HE, unhide HFS])
      clear HE HK2
      have HLT := hide (fun (h : nx s k = 124) => nx_in (s := s) (i := k) (by omega))
      generalize nx s k = b at *
      generalize sk s k = m at *
      by_cases hbg : ¬ b = 124
      · have HE3 := hide (show RR = .ok (togP 19 l, m) by rw [unhide HE2, if_neg hbg, bnd_ok])
        have e0 : ((b : Int) == 124) = false := by rw [beq_eq_false_iff_ne]; omega
        clear HE2 hbg HLT
        go_wp2_with fail
        refine (unhide HN).mono ?_
        rintro e w3 ⟨rfl, hb3, hR3⟩
        have HK3 := hide ((unhide HK).next hb3 hR3 hzl hzG)
        clear hb3 hR3
        go_wp2_with fail
        have HT := hide (together_any 19 _ L (w.heap.size + 1) w3 (unhide HK3).kids.row (unhide HK3).nonil)
        go_wp2_with fail
        refine (unhide HT).mono ?_
        rintro e w4 ⟨⟨U2, rfl, hU2⟩, hb4⟩
        have HX4 := hide (row_below (unhide HK3).box hb4)
        have HU2 := hide (show U2.can = togP 19 l ∧ Lies (w.heap.size + 1) w4 U2 from ⟨by rw [togU_can hU2, (unhide HK3).kids.can]; rfl, (togU_lies (by decide) hU2 (unhide HK3).kids).below hb4⟩)
        have HB4 := hide ((unhide HK3).but.trans (But.of_below hb4))
        have H4 := hide ((unhide HK3).rdr.below hb4)
        clear hU2 hb4
        unfold pv
        go_wp2_with (first
          | (refine wpList_store_row rfl 24 _ _ rfl w.heap.size (patO U2) rfl rfl 24 zeroP (unhide HX4) size_pat rfl (patO_oneC _) ?_)
          | fail)
        (try simp only [Exit.inBlock, Exit.then])
        refine bodyPost_ret (results_cell_row rfl _ _ w.heap.size 24 (patO U2) (0, 0) _ rfl (setRow_heap _ _ _ _ _ _ (unhide HX4)) Tryd.underlying24 rfl size_pat) rfl ?_
        exact post_ok (unhide HE3) (but_setRow (unhide HB4) (Nat.le_refl _) _) ⟨U2, rfl, (unhide HU2).1, ((unhide HU2).2.setRow (by omega) _).mono (by omega)⟩ ((unhide H4).setRow hne _)
      · have hbg := Decidable.not_not.1 hbg
        have HE3 := hide (show RR = bnd (bnd (PP (m + 1)) fun p j => F f' (l ++ [p]) j) fun l e => .ok (togP 19 l, e) by rw [unhide HE2, if_pos hbg])
        have hmlt := unhide HLT hbg
        have HADk := hide (fun x j => unhide HAD (m + 1) x j (by omega))
        have HCk := hide (fun w h1 h2 => unhide HC (m + 1) w (by omega) h1 h2)
        have e0 : ((b : Int) == 124) = true := by rw [beq_iff_eq]; omega
        clear HE2 HC HFS HAD HR1 HLT
        subst hbg
        generalize PP (m + 1) = RP at *
        go_wp2_with fail
        refine (unhide HN).mono ?_
        rintro e w3 ⟨rfl, hb3, hR3⟩
        have HK3 := hide ((unhide HK).next (hb3.trans ((But.refl z w3).setCell 1 (.int .i64 ((m + 1 : Nat) : Int)))) (hR3.set1 (m + 1)) hzl hzG)
        have c1 := hR3.c1
        have fz := hR3.fz 1
        clear hb3 hR3
        go_wp2_with fail
        rw [show ((m + 1 : Nat) : Int) = (m : Int) + 1 from rfl] at HK3
        generalize w3.setCell ⟨z, 1, none⟩ (.int .i64 ((m : Int) + 1)) = w3 at *
        clear c1 fz
        rcases RP with ⟨er, a1⟩ | ⟨p, a1⟩
        · have HE4 := hide (show RR = .error (er, a1) by rw [unhide HE3, bnd_err, bnd_err])
          go_wp2_with (refine (unhide HCk _ (unhide HK3).rdr (unhide HK3).shp).mono ?_; intro e w4 hP; obtain ⟨hb4, rfl⟩ := of_err hP rfl; clear hP; have HB4 := hide ((unhide HK3).but.trans hb4); clear hb4; unfold thr)
          exact ⟨rfl, post_err (unhide HE4) (unhide HB4) rfl⟩
        · have HE4 := hide (show RR = bnd (F f' (l ++ [p]) a1) fun l e => .ok (togP 19 l, e) by rw [unhide HE3, bnd_ok])
          have hadv4 := unhide HADk p a1 rfl
          go_wp2_with fail
          refine (unhide HCk _ (unhide HK3).rdr (unhide HK3).shp).mono ?_
          intro e w4 hP
          obtain ⟨hb4, ⟨U2, rfl, hU2, hL2⟩, hR4⟩ := of_ok hP rfl
          have HK4 := hide (And.intro hb4 (And.intro hL2 (And.intro hR4 hU2)))
          have hb5 : Below w4.heap.size w4 (w4.alloc (.cells (patO U2) 24)) := (Below.refl _ _).alloc (Nat.le_refl _) _
          have HRW := hide (((unhide HK3).kids.but hb4 (by omega)).row.later hb5)
          have hsz5 : w.heap.size + 1 ≤ (w4.alloc (.cells (patO U2) 24)).heap.size := by have h1 := (unhide HK3).size; have h2 := hb4.size; rw [World.size_alloc]; omega
          clear hP hb4 hL2 hR4 hU2 hb5
          unfold pv
          go_wp2_with (first
            | (at_builtin; refine wpList_row Tryd.underlying22 info_pat rfl (by decide) (by decide) five_len five_one rfl _ _ rfl (unhide HRW) hsz5 U2 w4.heap.size 1 rfl rfl new_five (by omega) ?_; intro v' w6 hrow hgrow hown)
            | fail)
          have HK6 := hide ((unhide HK3).put (unhide HK4).1 (unhide HK4).2.2.1 hzl (unhide HK4).2.1 hzG hG hrow hgrow hown)
          clear hrow hgrow hown hsz5
          go_wp2_with fail
          have h6 := (unhide HK6).rdr.at
          exact ⟨⟨f', a1, l ++ [p], L ++ [U2], by omega, by omega, by simp; omega, by have h := unhide HK6; rw [(unhide HK4).2.2.2] at h; exact h, unhide HE4⟩, by rw [h6, unhide HM]; omega⟩
end Go.Proofs.YtimbfelbalfmiaaDoor
