/- The reader of patterns: words, names, numbers. -/
import Derived.Test.YtimbfelbalfmiaaDoorRdA
namespace Go.Proofs.YtimbfelbalfmiaaDoor
open Go.RowKit

theorem pas_same {s : ByteArray} {p : Nat → Bool} {k : Nat} (h : k < s.size → p (bat s k) = false) : pas s p k = k := pas_stop h
set_option maxHeartbeats 2000000 in
theorem rdWord_any {s : ByteArray} {i z : Nat} {o : Int} (w : World) (hs : s.size ≤ 65536) (hi : i ≤ s.size) (hR : Rdr w z s i o) : Calls Tryd.prog 42 #[.pointer (some ⟨z, 0, none⟩)] w fun e w' => e = .returned (.string (s.extract i (wdE s i))) ∧ But z w w' ∧ Rdr w' z s (wdE s i) o := by
  have HR0 := hide hR
  have c1 := hR.c1
  clear hR
  go_enter Tryd.func42, Tryd.ntmps42
  go_wp2_with fail
  clear c1
  go_loopw [] (fun wr => ∃ k : Nat, i ≤ k ∧ k ≤ s.size ∧ Hid (Rdr wr z s k o) ∧ Hid (But z w wr) ∧ Hid (wdE s i = wdE s k)) (fun wr => s.size - atIn wr z)
  case atStart => exact ⟨i, Nat.le_refl _, hi, unhide HR0, But.refl _ _, rfl⟩
  case round =>
    obtain ⟨k, hik, hk, HR, HB, HS⟩ := hrel
    have HH := hide (fun w h => here_any (z := z) (o := o) w hs hk h)
    have HL := hide (isLetter_any (bat s k) (bat_lt _ _))
    have HD := hide (isDigit_any (bat s k) (bat_lt _ _))
    have HM := hide (unhide HR).at
    have HS1 := hide (fun h (q : letterN (bat s k) = true ∨ digitN (bat s k) = true) => (show wdE s k = wdE s (k + 1) from pas_step h (by unfold wordN; rcases q with q | q <;> simp [q])))
    have HS0 := hide (fun (q1 : letterN (bat s k) = false) (q2 : digitN (bat s k) = false) => (show wdE s k = k from pas_stop fun _ => by unfold wordN; simp [q1, q2]))
    have HI := hide (fun (q : letterN (bat s k) = true ∨ digitN (bat s k) = true) => show k < s.size from by
      by_cases h : k < s.size
      · exact h
      · rw [bat_end s k (by omega)] at q; exact absurd q (by decide))
    generalize bat s k = b at *
    cases h1 : letterN b
    · cases h2 : digitN b
      · have HS2 := hide (unhide HS0 h1 h2)
        rw [h1] at HL
        rw [h2] at HD
        clear h1 h2 HS1 HS0 HI
        go_wp2_with fail
        refine (unhide HH _ (unhide HR)).mono ?_
        rintro e w2 ⟨rfl, hb⟩
        have H2 := hide ((unhide HR).below hb)
        have HB2 := hide ((unhide HB).trans (But.of_below hb))
        clear hb
        go_wp2_with fail
        refine (unhide HL _).mono ?_
        rintro e w ⟨rfl, rfl⟩
        go_wp2_with fail
        refine (unhide HH _ (unhide H2)).mono ?_
        rintro e w3 ⟨rfl, hb⟩
        have H3 := hide ((unhide H2).below hb)
        have HB3 := hide ((unhide HB2).trans (But.of_below hb))
        clear hb
        go_wp2_with fail
        refine (unhide HD _).mono ?_
        rintro e w ⟨rfl, rfl⟩
        have c0 := (unhide H3).c0
        have c1 := (unhide H3).c1
        have hle : (i : Int) ≤ (k : Int) := by omega
        go_wp2_with fail
        go_region
        go_wp2_with fail
        go_ret
        refine ⟨?_, (unhide HB3).trans (But.of_below (Below.refl _ _).drew), ?_⟩
        · rw [unhide HS, unhide HS2]; rfl
        · rw [unhide HS, unhide HS2]; exact (unhide H3).below (Below.refl _ _).drew
      · have HS2 := hide (unhide HS1 (unhide HI (.inr h2)) (.inr h2))
        have hlt := unhide HI (.inr h2)
        rw [h1] at HL
        rw [h2] at HD
        clear h1 h2 HS1 HS0 HI
        go_wp2_with fail
        refine (unhide HH _ (unhide HR)).mono ?_
        rintro e w2 ⟨rfl, hb⟩
        have H2 := hide ((unhide HR).below hb)
        have HB2 := hide ((unhide HB).trans (But.of_below hb))
        clear hb
        go_wp2_with fail
        refine (unhide HL _).mono ?_
        rintro e w ⟨rfl, rfl⟩
        go_wp2_with fail
        refine (unhide HH _ (unhide H2)).mono ?_
        rintro e w3 ⟨rfl, hb⟩
        have H3 := hide ((unhide H2).below hb)
        have HB3 := hide ((unhide HB2).trans (But.of_below hb))
        clear hb
        go_wp2_with fail
        refine (unhide HD _).mono ?_
        rintro e w ⟨rfl, rfl⟩
        have c1 := (unhide H3).c1
        have fz := (unhide H3).fz 1
        go_wp2_with fail
        have HR3 := hide ((unhide H3).set1 (k + 1))
        exact ⟨⟨k + 1, by omega, by omega, unhide HR3, (unhide HB3).setCell 1 _, by rw [unhide HS, unhide HS2]; rfl⟩, by have h1 := unhide HM; have h2 := (unhide HR3).at; simp only [Int.natCast_add, Int.cast_ofNat_Int] at h2; rw [h1]; omega⟩
    · have HS2 := hide (unhide HS1 (unhide HI (.inl h1)) (.inl h1))
      have hlt := unhide HI (.inl h1)
      rw [h1] at HL
      clear h1 HS1 HS0 HI HD
      go_wp2_with fail
      refine (unhide HH _ (unhide HR)).mono ?_
      rintro e w2 ⟨rfl, hb⟩
      have H3 := hide ((unhide HR).below hb)
      have HB3 := hide ((unhide HB).trans (But.of_below hb))
      clear hb
      go_wp2_with fail
      refine (unhide HL _).mono ?_
      rintro e w ⟨rfl, rfl⟩
      have c1 := (unhide H3).c1
      have fz := (unhide H3).fz 1
      go_wp2_with fail
      have HR3 := hide ((unhide H3).set1 (k + 1))
      exact ⟨⟨k + 1, by omega, by omega, unhide HR3, (unhide HB3).setCell 1 _, by rw [unhide HS, unhide HS2]; rfl⟩, by have h1 := unhide HM; have h2 := (unhide HR3).at; simp only [Int.natCast_add, Int.cast_ofNat_Int] at h2; rw [h1]; omega⟩

theorem ext_size (s : ByteArray) {i j : Nat} (_ : i ≤ j) (hj : j ≤ s.size) : (s.extract i j).size = j - i := by rw [ByteArray.size_extract]; omega
set_option maxHeartbeats 2000000 in
theorem name_any {s : ByteArray} {i z : Nat} {o : Int} (w : World) (hs : s.size ≤ 65536) (hi : i ≤ s.size) (hR : Rdr w z s i o) : Calls Tryd.prog 32 #[.pointer (some ⟨z, 0, none⟩)] w fun e w' => RdPost strV z s o w (nmP s i) e w' := by
  have hks := sk_le s i hi
  have HN := hide (next_any w hs hi hR)
  have HL := hide (isLetter_any (nx s i) (bat_lt _ _))
  have HW := hide (fun w h => rdWord_any (z := z) (o := o) w hs hks.2 h)
  have HE := hide (fun q => wdE_adv (s := s) (j := sk s i) q)
  unfold nmP
  clear hR
  cases h1 : letterN (nx s i)
  · rw [h1] at HL
    rw [if_neg (by decide)]
    show Calls _ _ _ _ fun e w' => RdPost strV z s o w (.error (2, sk s i)) e w'
    clear h1 HE HW
    generalize sk s i = k at *
    generalize nx s i = b at *
    go_enter Tryd.func32, Tryd.ntmps32
    go_wp2_with fail
    refine (unhide HN).mono ?_
    rintro e w2 ⟨rfl, hb, hR2⟩
    have HB := hide hb
    have HS := hide (stop_any w2 hR2)
    clear hb hR2
    go_wp2_with fail
    refine (unhide HL _).mono ?_
    rintro e w2 ⟨rfl, rfl⟩
    go_wp2_with (refine (unhide HS).mono ?_; rintro e w ⟨rfl, rfl⟩; unfold thr)
    exact ⟨rfl, post_err rfl (unhide HB) rfl⟩
  · have hE := unhide HE h1
    have hsz := ext_size s (Nat.le_of_lt hE.1) hE.2
    rw [h1] at HL
    rw [if_pos rfl]
    clear h1 HE
    by_cases hq : 16 < wdE s (sk s i) - sk s i
    · rw [if_pos hq]
      show Calls _ _ _ _ fun e w' => RdPost strV z s o w (.error (7, sk s i)) e w'
      have HT := hide (fun w => throw_any 7 (sk s i) w)
      have hg : (16 : Int) < ((s.extract (sk s i) (wdE s (sk s i))).size : Int) := by rw [hsz]; omega
      clear hq hsz
      generalize s.extract (sk s i) (wdE s (sk s i)) = t at *
      generalize wdE s (sk s i) = e2 at *
      generalize sk s i = k at *
      generalize nx s i = b at *
      go_enter Tryd.func32, Tryd.ntmps32
      go_wp2_with fail
      refine (unhide HN).mono ?_
      rintro e w2 ⟨rfl, hb, hR2⟩
      have HB := hide hb
      have H2 := hide hR2
      have c1 := hR2.c1
      clear hb hR2
      go_wp2_with fail
      refine (unhide HL _).mono ?_
      rintro e w2 ⟨rfl, rfl⟩
      go_wp2_with fail
      refine (unhide HW _ (unhide H2)).mono ?_
      rintro e w3 ⟨rfl, hb, hR3⟩
      have HB3 := hide ((unhide HB).trans hb)
      clear hb hR3 c1
      go_wp2_with (refine (unhide HT _).mono ?_; rintro e w ⟨rfl, rfl⟩; unfold thr)
      exact ⟨rfl, post_err rfl (unhide HB3) rfl⟩
    · rw [if_neg hq]
      show Calls _ _ _ _ fun e w' => RdPost strV z s o w (.ok (s.extract (sk s i) (wdE s (sk s i)), wdE s (sk s i))) e w'
      have HC := hide (fun w => clone_any (s.extract (sk s i) (wdE s (sk s i))) w (by rw [hsz]; omega))
      have hg : ¬ (16 : Int) < ((s.extract (sk s i) (wdE s (sk s i))).size : Int) := by rw [hsz]; omega
      clear hq hsz
      generalize s.extract (sk s i) (wdE s (sk s i)) = t at *
      generalize wdE s (sk s i) = e2 at *
      generalize sk s i = k at *
      generalize nx s i = b at *
      go_enter Tryd.func32, Tryd.ntmps32
      go_wp2_with fail
      refine (unhide HN).mono ?_
      rintro e w2 ⟨rfl, hb, hR2⟩
      have HB := hide hb
      have H2 := hide hR2
      have c1 := hR2.c1
      clear hb hR2
      go_wp2_with fail
      refine (unhide HL _).mono ?_
      rintro e w2 ⟨rfl, rfl⟩
      go_wp2_with fail
      refine (unhide HW _ (unhide H2)).mono ?_
      rintro e w3 ⟨rfl, hb, hR3⟩
      have HB3 := hide ((unhide HB).trans hb)
      have H3 := hide hR3
      clear hb hR3 c1
      go_wp2_with fail
      refine (unhide HC _).mono ?_
      rintro e w4 ⟨rfl, hb⟩
      have HB4 := hide ((unhide HB3).trans (But.of_below hb))
      have H4 := hide ((unhide H3).below hb)
      clear hb
      go_wp2_with fail
      go_ret
      exact post_ok rfl (unhide HB4) rfl (unhide H4)
end Go.Proofs.YtimbfelbalfmiaaDoor
