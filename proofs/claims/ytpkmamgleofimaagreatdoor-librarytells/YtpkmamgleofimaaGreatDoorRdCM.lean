/- The reader of patterns: words, names, numbers. The reader of patterns: numbers. -/
import Derived.Test.YtpkmamgleofimaaGreatDoorRdAM
namespace Go.Proofs.YtpkmamgleofimaaGreatDoor
open Go.RowKit

set_option maxHeartbeats 2000000 in
theorem rdWord_any {s : ByteArray} {i z : Nat} {o : Int} (w : World) (hs : s.size ≤ 65536) (hi : i ≤ s.size) (hR : Rdr w z s i o) : Calls Tryz.prog 145 #[.pointer (some ⟨z, 0, none⟩)] w fun e w' => e = .returned (.string (s.extract i (wdE s i))) ∧ But z w w' ∧ Rdr w' z s (wdE s i) o := by
  have HR0 := hide hR
  have c1 := hR.c1
  clear hR
  go_enter Tryz.func145, Tryz.ntmps145
  go_wp2_with fail
  clear c1
  go_loopw [] (fun wr => ∃ k : Nat, i ≤ k ∧ k ≤ s.size ∧ Hid (Rdr wr z s k o) ∧ Hid (But z w wr) ∧ Hid (wdE s i = wdE s k)) (fun wr => s.size - atIn wr z)
  case atStart => exact ⟨i, Nat.le_refl _, hi, unhide HR0, But.refl _ _, rfl⟩
  case round =>
    obtain ⟨k, hik, hk, HR, HB, HS⟩ := hrel
    have HH := hide (fun w h => here_any (z := z) (o := o) w hs hk h)
    have HL := hide (isLetter_any (bat s k) (bat_lt _ _))
    have HD := hide (isDigit_any (bat s k) (bat_lt _ _))
    have HM := hide (unhide HR).at
    have HS1 := hide (fun h (q : letterN (bat s k) = true ∨ digitN (bat s k) = true) => (show wdE s k = wdE s (k + 1) from pas_step h (by unfold wordN; rcases q with q | q <;> simp [q])))
    have HS0 := hide (fun (q1 : letterN (bat s k) = false) (q2 : digitN (bat s k) = false) => (show wdE s k = k from pas_stop fun _ => by unfold wordN; simp [q1, q2]))
    have HI := hide (fun (q : letterN (bat s k) = true ∨ digitN (bat s k) = true) => show k < s.size from by
      by_cases h : k < s.size
      · exact h
      · rw [bat_end s k (by omega)] at q; exact absurd q (by decide))
    generalize bat s k = b at *
    cases h1 : letterN b
    · cases h2 : digitN b
      · have HS2 := hide (unhide HS0 h1 h2)
        rw [h1] at HL
        rw [h2] at HD
        clear h1 h2 HS1 HS0 HI
        go_wp2_with fail
        refine (unhide HH _ (unhide HR)).mono ?_
        rintro e w2 ⟨rfl, hb⟩
        have H2 := hide ((unhide HR).below hb)
        have HB2 := hide ((unhide HB).trans (But.of_below hb))
        clear hb
        go_wp2_with fail
        refine (unhide HL _).mono ?_
        rintro e w ⟨rfl, rfl⟩
        go_wp2_with fail
        refine (unhide HH _ (unhide H2)).mono ?_
        rintro e w3 ⟨rfl, hb⟩
        have H3 := hide ((unhide H2).below hb)
        have HB3 := hide ((unhide HB2).trans (But.of_below hb))
        clear hb
        go_wp2_with fail
        refine (unhide HD _).mono ?_
        rintro e w ⟨rfl, rfl⟩
        have c0 := (unhide H3).c0
        have c1 := (unhide H3).c1
        have hle : (i : Int) ≤ (k : Int) := by omega
        go_wp2_with fail
        go_region
        go_wp2_with fail
        go_ret
        refine ⟨?_, (unhide HB3).trans (But.of_below (Below.refl _ _).drew), ?_⟩
        · rw [unhide HS, unhide HS2]; rfl
        · rw [unhide HS, unhide HS2]; exact (unhide H3).below (Below.refl _ _).drew
      · have HS2 := hide (unhide HS1 (unhide HI (.inr h2)) (.inr h2))
        have hlt := unhide HI (.inr h2)
        rw [h1] at HL
        rw [h2] at HD
        clear h1 h2 HS1 HS0 HI
        go_wp2_with fail
        refine (unhide HH _ (unhide HR)).mono ?_
        rintro e w2 ⟨rfl, hb⟩
        have H2 := hide ((unhide HR).below hb)
        have HB2 := hide ((unhide HB).trans (But.of_below hb))
        clear hb
        go_wp2_with fail
        refine (unhide HL _).mono ?_
        rintro e w ⟨rfl, rfl⟩
        go_wp2_with fail
        refine (unhide HH _ (unhide H2)).mono ?_
        rintro e w3 ⟨rfl, hb⟩
        have H3 := hide ((unhide H2).below hb)
        have HB3 := hide ((unhide HB2).trans (But.of_below hb))
        clear hb
        go_wp2_with fail
        refine (unhide HD _).mono ?_
        rintro e w ⟨rfl, rfl⟩
        have c1 := (unhide H3).c1
        have fz := (unhide H3).fz 1
        go_wp2_with fail
        have HR3 := hide ((unhide H3).set1 (k + 1))
        exact ⟨⟨k + 1, by omega, by omega, unhide HR3, (unhide HB3).setCell 1 _, by rw [unhide HS, unhide HS2]; rfl⟩, by have h1 := unhide HM; have h2 := (unhide HR3).at; simp only [Int.natCast_add, Int.cast_ofNat_Int] at h2; rw [h1]; omega⟩
    · have HS2 := hide (unhide HS1 (unhide HI (.inl h1)) (.inl h1))
      have hlt := unhide HI (.inl h1)
      rw [h1] at HL
      clear h1 HS1 HS0 HI HD
      go_wp2_with fail
      refine (unhide HH _ (unhide HR)).mono ?_
      rintro e w2 ⟨rfl, hb⟩
      have H3 := hide ((unhide HR).below hb)
      have HB3 := hide ((unhide HB).trans (But.of_below hb))
      clear hb
      go_wp2_with fail
      refine (unhide HL _).mono ?_
      rintro e w ⟨rfl, rfl⟩
      have c1 := (unhide H3).c1
      have fz := (unhide H3).fz 1
      go_wp2_with fail
      have HR3 := hide ((unhide H3).set1 (k + 1))
      exact ⟨⟨k + 1, by omega, by omega, unhide HR3, (unhide HB3).setCell 1 _, by rw [unhide HS, unhide HS2]; rfl⟩, by have h1 := unhide HM; have h2 := (unhide HR3).at; simp only [Int.natCast_add, Int.cast_ofNat_Int] at h2; rw [h1]; omega⟩
theorem ext_size (s : ByteArray) {i j : Nat} (_ : i ≤ j) (hj : j ≤ s.size) : (s.extract i j).size = j - i := by rw [ByteArray.size_extract]; omega
set_option maxHeartbeats 2000000 in
theorem name_any {s : ByteArray} {i z : Nat} {o : Int} (w : World) (hs : s.size ≤ 65536) (hi : i ≤ s.size) (hR : Rdr w z s i o) : Calls Tryz.prog 139 #[.pointer (some ⟨z, 0, none⟩)] w fun e w' => RdPost strV z s o w (nmP s i) e w' := by
  have hks := sk_le s i hi
  have HN := hide (next_any w hs hi hR)
  have HL := hide (isLetter_any (nx s i) (bat_lt _ _))
  have HW := hide (fun w h => rdWord_any (z := z) (o := o) w hs hks.2 h)
  have HE := hide (fun q => wdE_adv (s := s) (j := sk s i) q)
  unfold nmP
  clear hR
  cases h1 : letterN (nx s i)
  · rw [h1] at HL
    rw [if_neg (by decide)]
    show Calls _ _ _ _ fun e w' => RdPost strV z s o w (.error (2, sk s i)) e w'
    clear h1 HE HW
    generalize sk s i = k at *
    generalize nx s i = b at *
    go_enter Tryz.func139, Tryz.ntmps139
    go_wp2_with fail
    refine (unhide HN).mono ?_
    rintro e w2 ⟨rfl, hb, hR2⟩
    have HB := hide hb
    have HS := hide (stop_any w2 hR2)
    clear hb hR2
    go_wp2_with fail
    refine (unhide HL _).mono ?_
    rintro e w2 ⟨rfl, rfl⟩
    go_wp2_with (refine (unhide HS).mono ?_; rintro e w ⟨rfl, rfl⟩; unfold thr)
    exact ⟨rfl, post_err rfl (unhide HB) rfl⟩
  · have hE := unhide HE h1
    have hsz := ext_size s (Nat.le_of_lt hE.1) hE.2
    rw [h1] at HL
    rw [if_pos rfl]
    clear h1 HE
    by_cases hq : 16 < wdE s (sk s i) - sk s i
    · rw [if_pos hq]
      show Calls _ _ _ _ fun e w' => RdPost strV z s o w (.error (7, sk s i)) e w'
      have HT := hide (fun w => throw_any 7 (sk s i) w)
      have hg : (16 : Int) < ((s.extract (sk s i) (wdE s (sk s i))).size : Int) := by rw [hsz]; omega
      clear hq hsz
      generalize s.extract (sk s i) (wdE s (sk s i)) = t at *
      generalize wdE s (sk s i) = e2 at *
      generalize sk s i = k at *
      generalize nx s i = b at *
      go_enter Tryz.func139, Tryz.ntmps139
      go_wp2_with fail
      refine (unhide HN).mono ?_
      rintro e w2 ⟨rfl, hb, hR2⟩
      have HB := hide hb
      have H2 := hide hR2
      have c1 := hR2.c1
      clear hb hR2
      go_wp2_with fail
      refine (unhide HL _).mono ?_
      rintro e w2 ⟨rfl, rfl⟩
      go_wp2_with fail
      refine (unhide HW _ (unhide H2)).mono ?_
      rintro e w3 ⟨rfl, hb, hR3⟩
      have HB3 := hide ((unhide HB).trans hb)
      clear hb hR3 c1
      go_wp2_with (refine (unhide HT _).mono ?_; rintro e w ⟨rfl, rfl⟩; unfold thr)
      exact ⟨rfl, post_err rfl (unhide HB3) rfl⟩
    · rw [if_neg hq]
      show Calls _ _ _ _ fun e w' => RdPost strV z s o w (.ok (s.extract (sk s i) (wdE s (sk s i)), wdE s (sk s i))) e w'
      have HC := hide (fun w => clone_any (s.extract (sk s i) (wdE s (sk s i))) w (by rw [hsz]; omega))
      have hg : ¬ (16 : Int) < ((s.extract (sk s i) (wdE s (sk s i))).size : Int) := by rw [hsz]; omega
      clear hq hsz
      generalize s.extract (sk s i) (wdE s (sk s i)) = t at *
      generalize wdE s (sk s i) = e2 at *
      generalize sk s i = k at *
      generalize nx s i = b at *
      go_enter Tryz.func139, Tryz.ntmps139
      go_wp2_with fail
      refine (unhide HN).mono ?_
      rintro e w2 ⟨rfl, hb, hR2⟩
      have HB := hide hb
      have H2 := hide hR2
      have c1 := hR2.c1
      clear hb hR2
      go_wp2_with fail
      refine (unhide HL _).mono ?_
      rintro e w2 ⟨rfl, rfl⟩
      go_wp2_with fail
      refine (unhide HW _ (unhide H2)).mono ?_
      rintro e w3 ⟨rfl, hb, hR3⟩
      have HB3 := hide ((unhide HB).trans hb)
      have H3 := hide hR3
      clear hb hR3 c1
      go_wp2_with fail
      refine (unhide HC _).mono ?_
      rintro e w4 ⟨rfl, hb⟩
      have HB4 := hide ((unhide HB3).trans (But.of_below hb))
      have H4 := hide ((unhide H3).below hb)
      clear hb
      go_wp2_with fail
      go_ret
      exact post_ok rfl (unhide HB4) rfl (unhide H4)
end Go.Proofs.YtpkmamgleofimaaGreatDoor

namespace Go.Proofs.YtpkmamgleofimaaGreatDoor
open Go.RowKit

theorem capUp_le (s : ByteArray) (j : Nat) : ∀ m, capUp s j m ≤ 65537
  | 0 => by show 0 ≤ 65537; decide
  | m + 1 => by rw [capUp]; omega
theorem digit_in {s : ByteArray} {k : Nat} (h : digitN (bat s k) = true) : k < s.size := by
  by_cases q : k < s.size
  · exact q
  · rw [bat_end s k (by omega)] at h; exact absurd h (by decide)
theorem num_end {s : ByteArray} {j m k z : Nat} {o : Int} {w w4 wr : World} {v : Int} (hkm : k + 1 = j + (m + 1)) (hc : (capUp s j (m + 1) : Int) = v) (hk : j + (m + 1) ≤ s.size)
    (hR : Rdr (w4.setCell ⟨z, 1, none⟩ (.int .i64 ((k + 1 : Nat) : Int))) z s (k + 1) o) (hB : But z w (w4.setCell ⟨z, 1, none⟩ (.int .i64 ((k + 1 : Nat) : Int)))) (hd : dgE s j = dgE s (k + 1)) (hq : bat s j = 48 → m + 1 ≤ 1) (hm : atIn wr z = k) (_hlt : k < s.size) :
    (∃ m : Nat, Value.int .i64 v = .int .i64 (capUp s j m : Int) ∧ j + m ≤ s.size ∧ Hid (Rdr (w4.setCell ⟨z, 1, none⟩ (.int .i64 ((k : Int) + 1))) z s (j + m) o) ∧ Hid (But z w (w4.setCell ⟨z, 1, none⟩ (.int .i64 ((k : Int) + 1)))) ∧ Hid (dgE s j = dgE s (j + m)) ∧ Hid (bat s j = 48 → m ≤ 1)) ∧
    s.size - atIn (w4.setCell ⟨z, 1, none⟩ (.int .i64 ((k : Int) + 1))) z < s.size - atIn wr z := by
  have h2 := hR.at
  refine ⟨⟨m + 1, by rw [hc], hk, ?_, hB, ?_, hq⟩, ?_⟩
  · rw [← hkm]; exact hR
  · rw [← hkm]; exact hd
  · have h3 : atIn (w4.setCell ⟨z, 1, none⟩ (.int .i64 ((k : Int) + 1))) z = k + 1 := h2
    rw [h3, hm]; omega
set_option maxHeartbeats 4000000 in
theorem number_any {s : ByteArray} {i z : Nat} {o : Int} (w : World) (hs : s.size ≤ 65536) (hi : i ≤ s.size) (hR : Rdr w z s i o) : Calls Tryz.prog 151 #[.pointer (some ⟨z, 0, none⟩)] w fun e w' => RdPost numV z s o w (nuP s i) e w' := by
  have hks := sk_le s i hi
  have HN := hide (next_any w hs hi hR)
  have HL := hide (isDigit_any (nx s i) (bat_lt _ _))
  have HE := hide (fun q => dgE_adv (s := s) (j := sk s i) q)
  unfold nuP
  clear hR
  cases h1 : digitN (nx s i)
  · rw [h1] at HL
    rw [if_neg (by decide)]
    show Calls _ _ _ _ fun e w' => RdPost numV z s o w (.error (2, sk s i)) e w'
    clear h1 HE
    generalize sk s i = k at *
    generalize nx s i = b at *
    go_enter Tryz.func151, Tryz.ntmps151
    go_wp2_with fail
    refine (unhide HN).mono ?_
    rintro e w2 ⟨rfl, hb, hR2⟩
    have HB := hide hb
    have HS := hide (stop_any w2 hR2)
    clear hb hR2
    go_wp2_with fail
    refine (unhide HL _).mono ?_
    rintro e w2 ⟨rfl, rfl⟩
    go_wp2_with (refine (unhide HS).mono ?_; rintro e w ⟨rfl, rfl⟩; unfold thr)
    exact ⟨rfl, post_err rfl (unhide HB) rfl⟩
  · have hE := unhide HE h1
    rw [h1] at HL
    rw [if_pos rfl]
    have hd0 : digitN (bat s (sk s i)) = true := h1
    clear h1 HE
    generalize nx s i = b at *
    generalize hj : sk s i = j at *
    clear hj hi
    have hjs : j < s.size := by omega
    have HJ := hide (bat_at s j hjs)
    -- what it comes to
    obtain ⟨R, hRd⟩ : ∃ R : Rd Nat, R = (if bat s j = 48 ∧ j + 1 < dgE s j then .error (2, j + 1) else if 65536 < capUp s j (dgE s j - j) then .error (3, j) else .ok (capUp s j (dgE s j - j), dgE s j)) := ⟨_, rfl⟩
    rw [← hRd]
    have HR := hide hRd
    clear hRd
    go_enter Tryz.func151, Tryz.ntmps151
    go_wp2_with fail
    refine (unhide HN).mono ?_
    rintro e w2 ⟨rfl, hb, hR2⟩
    have HB := hide hb
    have H2 := hide hR2
    have c1 := hR2.c1
    clear hb hR2 HN
    go_wp2_with fail
    refine (unhide HL _).mono ?_
    rintro e w2 ⟨rfl, rfl⟩
    clear HL
    go_wp2_with fail
    clear c1
    have HD0 := hide hd0
    have HE := hide hE
    clear hd0 hE hks
    go_loopw [4] (fun v wr => ∃ m : Nat, v = .int .i64 (capUp s j m : Int) ∧ j + m ≤ s.size ∧ Hid (Rdr wr z s (j + m) o) ∧ Hid (But z w wr) ∧ Hid (dgE s j = dgE s (j + m)) ∧ Hid (bat s j = 48 → m ≤ 1)) (fun _ wr => s.size - atIn wr z)
    case atStart => exact ⟨0, rfl, by omega, unhide H2, unhide HB, rfl, fun _ => by omega⟩
    case round =>
      obtain ⟨m, rfl, hk, HRr, HBr, HSr, HQ⟩ := hrel
      have HH := hide (fun w h => here_any (z := z) (o := o) w hs hk h)
      have HD := hide (isDigit_any (bat s (j + m)) (bat_lt _ _))
      have HM := hide (unhide HRr).at
      have HS1 := hide (fun (q : digitN (bat s (j + m)) = true) => (show dgE s (j + m) = dgE s (j + m + 1) from pas_step (digit_in q) q))
      have HS0 := hide (fun (q : digitN (bat s (j + m)) = false) => (show dgE s (j + m) = j + m from pas_stop fun _ => q))
      have hcl := capUp_le s j m
      have HCP : Hid (capUp s j (m + 1) = min (10 * capUp s j m + (bat s (j + m) - 48)) 65537) := hide (rfl)
      cases h2 : digitN (bat s (j + m))
      · have HS2 := hide (unhide HS0 h2)
        rw [h2] at HD
        clear h2 HS1 HS0 HCP
        have HT := hide (fun w => throw_any 3 j w)
        have HEQ : Hid (dgE s j = j + m) := hide (by rw [unhide HSr, unhide HS2])
        have HNZ : Hid (¬ (bat s j = 48 ∧ j + 1 < dgE s j)) := hide (fun ⟨q1, q2⟩ => by have h1 := unhide HQ q1; have h2 := unhide HEQ; omega)
        generalize hn : capUp s j m = n at *
        have HC : Hid (capUp s j (dgE s j - j) = n) := hide (by rw [unhide HEQ, Nat.add_sub_cancel_left]; exact hn)
        clear hn
        by_cases hq : 65536 < n
        · have hg : (65536 : Int) < (n : Int) := by omega
          have HRR : Hid (R = .error (3, j)) := hide (by rw [unhide HR, if_neg (unhide HNZ), if_pos (by rw [unhide HC]; exact hq)])
          clear hq
          go_wp2_with fail
          refine (unhide HH _ (unhide HRr)).mono ?_
          rintro e w3 ⟨rfl, hb⟩
          have HB3 := hide ((unhide HBr).trans (But.of_below hb))
          clear hb
          go_wp2_with fail
          refine (unhide HD _).mono ?_
          rintro e w3 ⟨rfl, rfl⟩
          go_wp2_with (refine (unhide HT _).mono ?_; rintro e w ⟨rfl, rfl⟩; unfold thr)
          exact ⟨rfl, post_err (unhide HRR) (unhide HB3) rfl⟩
        · have hg : ¬ (65536 : Int) < (n : Int) := by omega
          have HRR : Hid (R = .ok (n, j + m)) := hide (by rw [unhide HR, if_neg (unhide HNZ), if_neg (by rw [unhide HC]; exact hq), unhide HC, unhide HEQ])
          clear hq
          go_wp2_with fail
          refine (unhide HH _ (unhide HRr)).mono ?_
          rintro e w3 ⟨rfl, hb⟩
          have HB3 := hide ((unhide HBr).trans (But.of_below hb))
          have H3 := hide ((unhide HRr).below hb)
          clear hb
          go_wp2_with fail
          refine (unhide HD _).mono ?_
          rintro e w3 ⟨rfl, rfl⟩
          go_wp2_with fail
          go_ret
          exact post_ok (unhide HRR) (unhide HB3) rfl (unhide H3)
      · have hlt := digit_in h2
        have HS2 := hide (unhide HS1 h2)
        have hdd : 48 ≤ bat s (j + m) ∧ bat s (j + m) ≤ 57 := of_decide_eq_true h2
        have HDE : Hid (j + m < dgE s j) := hide (by
          rw [unhide HSr]
          exact (dgE_adv h2).1)
        rw [h2] at HD
        clear h2 HS1 HS0
        by_cases hz : 1 ≤ m ∧ bat s j = 48
        · have hm : m = 1 := by have := unhide HQ hz.2; omega
          subst hm
          have HRR : Hid (R = .error (2, j + 1)) := hide (by rw [unhide HR, if_pos ⟨hz.2, unhide HDE⟩])
          have hz2 := hz.2
          clear hz
          have hg : (j : Int) < ((j + 1 : Nat) : Int) := by omega
          have hz3 : ((s[j]'hjs).toNat : Int) = 48 := by rw [unhide HJ, hz2]; rfl
          have hz4 : (((s[j]'hjs).toNat : Int) == 48) = true := by rw [hz3]; rfl
          clear hz2 hz3
          go_wp2_with fail
          refine (unhide HH _ (unhide HRr)).mono ?_
          rintro e w3 ⟨rfl, hb⟩
          have HB3 := hide ((unhide HBr).trans (But.of_below hb))
          have H3 := hide ((unhide HRr).below hb)
          clear hb
          go_wp2_with fail
          refine (unhide HD _).mono ?_
          rintro e w3 ⟨rfl, rfl⟩
          have c0 := (unhide H3).c0
          have c1 := (unhide H3).c1
          have HS := hide (stop_any _ (unhide H3))
          go_wp2_with (refine (unhide HS).mono ?_; rintro e w ⟨rfl, rfl⟩; unfold thr)
          exact ⟨rfl, post_err (unhide HRR) (unhide HB3) rfl⟩
        · have HQ2 : Hid (bat s j = 48 → m + 1 ≤ 1) := hide (fun q => by
            have : ¬ 1 ≤ m := fun h => hz ⟨h, q⟩
            omega)
          have hsub : IntKind.u8.wrap ((bat s (j + m) : Int) - 48) = ((bat s (j + m) - 48 : Nat) : Int) := by
            rw [IntWalk.u8_in _ (by omega)]; omega
          have hdg : bat s (j + m) - 48 ≤ 9 := by omega
          generalize bat s (j + m) - 48 = dg at *
          have hzz : ¬ j < j + m ∨ (j < j + m ∧ bat s j ≠ 48) := by
            rcases Nat.lt_or_ge j (j + m) with h | h
            · exact .inr ⟨h, fun q => hz ⟨by omega, q⟩⟩
            · exact .inl (by omega)
          clear hz hdd
          have HKM : Hid (j + m + 1 = j + (m + 1)) := hide (by omega)
          have HCP2 : Hid ((capUp s j (m + 1) : Int) = min (10 * (capUp s j m : Int) + (dg : Int)) 65537) := hide (by rw [unhide HCP]; omega)
          clear HCP
          generalize capUp s j m = n at *
          generalize hkk : j + m = k at *
          have HKK := hide hkk
          clear hkk
          rcases hzz with hg | ⟨hg, hz⟩
          · have hg1 : ¬ (j : Int) < (k : Int) := by omega
            go_wp2_with fail
            refine (unhide HH _ (unhide HRr)).mono ?_
            rintro e w3 ⟨rfl, hb⟩
            have HB3 := hide ((unhide HBr).trans (But.of_below hb))
            have H3 := hide ((unhide HRr).below hb)
            clear hb
            go_wp2_with fail
            refine (unhide HD _).mono ?_
            rintro e w3 ⟨rfl, rfl⟩
            have c0 := (unhide H3).c0
            have c1 := (unhide H3).c1
            go_wp2_with fail
            refine (unhide HH _ (unhide H3)).mono ?_
            rintro e w4 ⟨rfl, hb⟩
            have HB4 := hide ((unhide HB3).trans (But.of_below hb))
            have H4 := hide ((unhide H3).below hb)
            clear hb c0 c1
            have c1 := (unhide H4).c1
            have fz := (unhide H4).fz 1
            go_wp2_with fail
            have HR5 := hide ((unhide H4).set1 (k + 1))
            exact num_end (unhide HKM) (unhide HCP2) (by have := unhide HKM; omega) (unhide HR5) ((unhide HB4).setCell 1 _) (by rw [unhide HSr, unhide HS2]) (unhide HQ2) (unhide HM) hlt
          · have hg1 : (j : Int) < (k : Int) := by omega
            have hz4 : (((s[j]'hjs).toNat : Int) == 48) = false := by rw [unhide HJ, beq_eq_false_iff_ne]; omega
            clear hz
            go_wp2_with fail
            refine (unhide HH _ (unhide HRr)).mono ?_
            rintro e w3 ⟨rfl, hb⟩
            have HB3 := hide ((unhide HBr).trans (But.of_below hb))
            have H3 := hide ((unhide HRr).below hb)
            clear hb
            go_wp2_with fail
            refine (unhide HD _).mono ?_
            rintro e w3 ⟨rfl, rfl⟩
            have c0 := (unhide H3).c0
            have c1 := (unhide H3).c1
            go_wp2_with fail
            refine (unhide HH _ (unhide H3)).mono ?_
            rintro e w4 ⟨rfl, hb⟩
            have HB4 := hide ((unhide HB3).trans (But.of_below hb))
            have H4 := hide ((unhide H3).below hb)
            clear hb c0 c1
            have c1 := (unhide H4).c1
            have fz := (unhide H4).fz 1
            go_wp2_with fail
            have HR5 := hide ((unhide H4).set1 (k + 1))
            exact num_end (unhide HKM) (unhide HCP2) (by have := unhide HKM; omega) (unhide HR5) ((unhide HB4).setCell 1 _) (by rw [unhide HSr, unhide HS2]) (unhide HQ2) (unhide HM) hlt
end Go.Proofs.YtpkmamgleofimaaGreatDoor
