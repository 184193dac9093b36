/- The reader of patterns: filled texts, kinds by their words, small tests. -/
import Derived.Test.YtimbfelbalfmiaaDoorRdD
namespace Go.Proofs.YtimbfelbalfmiaaDoor
open Go.RowKit

set_option maxHeartbeats 2000000 in
theorem filled_any {s : ByteArray} {i z : Nat} {o : Int} (w : World) (hs : s.size ≤ 65536) (hi : i ≤ s.size) (hR : Rdr w z s i o) : Calls Tryd.prog 48 #[.pointer (some ⟨z, 0, none⟩)] w fun e w' => RdPost strV z s o w (fiP s i) e w' := by
  have hks := sk_le s i hi
  have HN := hide (next_any w hs hi hR)
  have HQ := hide (fun w (q : sk s i < s.size) h => rdQuoted_any (z := z) (o := o) w hs q h)
  unfold fiP
  clear hR
  by_cases h1 : nx s i = 39
  · have hlt := nx_in (s := s) (i := i) (by omega)
    rw [if_pos h1]
    have HQ2 := hide (fun w h => unhide HQ w hlt h)
    clear HQ
    rw [h1] at HN
    clear h1 hlt
    obtain ⟨R, hq⟩ : ∃ R, qtP s (sk s i) = R := ⟨_, rfl⟩
    rw [hq] at HQ2 ⊢
    clear hq
    generalize sk s i = k at *
    rcases R with ⟨er, at'⟩ | ⟨t, j⟩
    · show Calls _ _ _ _ fun e w' => RdPost strV z s o w (.error (er, at')) e w'
      go_enter Tryd.func48, Tryd.ntmps48
      go_wp2_with fail
      refine (unhide HN).mono ?_
      rintro e w2 ⟨rfl, hb, hR2⟩
      have HB := hide hb
      have H2 := hide hR2
      have c1 := hR2.c1
      clear hb hR2
      go_wp2_with (refine (unhide HQ2 _ (unhide H2)).mono ?_; intro e w3 hP; obtain ⟨hb3, rfl⟩ := of_err hP rfl; clear hP; have HB3 := hide ((unhide HB).trans hb3); clear hb3; unfold thr)
      exact ⟨rfl, post_err rfl (unhide HB3) rfl⟩
    · by_cases ht : t.size = 0
      · rw [bnd_ok, if_pos ht]
        have he := isEmpty_true t ht
        have HT := hide (fun w => throw_any 8 k w)
        clear ht
        go_enter Tryd.func48, Tryd.ntmps48
        go_wp2_with fail
        refine (unhide HN).mono ?_
        rintro e w2 ⟨rfl, hb, hR2⟩
        have HB := hide hb
        have H2 := hide hR2
        have c1 := hR2.c1
        clear hb hR2
        go_wp2_with fail
        refine (unhide HQ2 _ (unhide H2)).mono ?_
        intro e w3 hP
        obtain ⟨hb3, hv, hR3⟩ := of_ok hP rfl
        unfold strV at hv
        subst hv
        have HB3 := hide ((unhide HB).trans hb3)
        clear hb3 hP hR3 c1
        go_wp2_with (refine (unhide HT _).mono ?_; rintro e w ⟨rfl, rfl⟩; unfold thr)
        exact ⟨rfl, post_err rfl (unhide HB3) rfl⟩
      · rw [bnd_ok, if_neg ht]
        have he := isEmpty_false t ht
        clear ht
        go_enter Tryd.func48, Tryd.ntmps48
        go_wp2_with fail
        refine (unhide HN).mono ?_
        rintro e w2 ⟨rfl, hb, hR2⟩
        have HB := hide hb
        have H2 := hide hR2
        have c1 := hR2.c1
        clear hb hR2
        go_wp2_with fail
        refine (unhide HQ2 _ (unhide H2)).mono ?_
        intro e w3 hP
        obtain ⟨hb3, hv, hR3⟩ := of_ok hP rfl
        unfold strV at hv
        subst hv
        have HB3 := hide ((unhide HB).trans hb3)
        have H3 := hide hR3
        clear hb3 hP hR3 c1
        go_wp2_with fail
        go_ret
        exact post_ok rfl (unhide HB3) rfl (unhide H3)
  · rw [if_neg h1]
    have hne : ((nx s i : Int) == 39) = false := by rw [beq_eq_false_iff_ne]; omega
    clear h1 HQ
    generalize sk s i = k at *
    generalize nx s i = b at *
    go_enter Tryd.func48, Tryd.ntmps48
    go_wp2_with fail
    refine (unhide HN).mono ?_
    rintro e w2 ⟨rfl, hb, hR2⟩
    have HB := hide hb
    have HS := hide (stop_any w2 hR2)
    clear hb hR2
    go_wp2_with (refine (unhide HS).mono ?_; rintro e w ⟨rfl, rfl⟩; unfold thr)
    exact ⟨rfl, post_err rfl (unhide HB) rfl⟩

theorem kwUp_le (t : ByteArray) : ∀ n, kwUp t n ≤ n
  | 0 => Nat.le_refl _
  | n + 1 => by
    rw [kwUp]
    have := kwUp_le t n
    split
    · omega
    · split <;> omega
theorem kwUp_stays (t : ByteArray) {m : Nat} (h : kwUp t m ≠ 0) : ∀ n, m ≤ n → kwUp t n = kwUp t m
  | 0, hn => by rw [show m = 0 by omega]
  | n + 1, hn => by
    rcases Nat.lt_or_ge m (n + 1) with q | q
    · have ih := kwUp_stays t h n (by omega)
      rw [kwUp, ih, if_pos h]
    · rw [show m = n + 1 by omega]
set_option maxRecDepth 100000 in
set_option maxHeartbeats 2000000 in
theorem kindOf_any (t : ByteArray) (w : World) (hS : Shapes w) : Calls Tryd.prog 46 #[.string t] w fun e w' => e = .returned (.int .i64 (kindW t : Int)) ∧ w' = w := by
  have HS := hide hS
  clear hS
  obtain ⟨K, hK⟩ : ∃ K, kindW t = K := ⟨_, rfl⟩
  rw [hK]
  have HKW := hide hK
  clear hK
  obtain ⟨f, hf⟩ : ∃ f, f = kwUp t := ⟨_, rfl⟩
  have HF := hide hf
  clear hf
  have HF0 := hide (show f 0 = 0 by rw [unhide HF]; rfl)
  go_enter Tryd.func46, Tryd.ntmps46
  go_wp2_with fail
  go_loop [3] (fun v => ∃ n : Nat, n ≤ 24 ∧ v = .int .i64 ((n : Int) + 1) ∧ Hid (f n = 0)) (fun v => 25 - (intOf v).toNat)
  case atStart => exact ⟨0, by omega, rfl, unhide HF0⟩
  case round =>
    obtain ⟨n, hn, rfl, HZ⟩ := hrel
    rcases Nat.lt_or_ge n 24 with hlt | hge
    · have hg : ((n : Int) + 1) ≤ 24 := by omega
      obtain ⟨a, -, -, -⟩ := unhide HS (n + 1) (by omega) (by omega)
      have HK := hide (show f (n + 1) = if wordK (n + 1) = t then n + 1 else 0 by rw [unhide HF, kwUp, if_neg (by rw [← unhide HF, unhide HZ]; simp)])
      have HW := hide (fun (q : f (n + 1) ≠ 0) => (show K = f (n + 1) by rw [← unhide HKW, unhide HF]; rw [unhide HF] at q; exact kwUp_stays t q 24 (by omega)))
      by_cases hw : wordK (n + 1) = t
      · have HK2 := hide (show K = n + 1 by
          have h1 : f (n + 1) = n + 1 := by rw [unhide HK, if_pos hw]
          rw [unhide HW (by rw [h1]; omega), h1])
        rw [hw] at a
        have he : (t.toList == t.toList) = true := by simp
        clear hw HK HW
        go_wp2_with fail
        go_ret
        exact ⟨by rw [unhide HK2]; rfl, rfl⟩
      · have HK2 := hide (show f (n + 1) = 0 by rw [unhide HK, if_neg hw])
        have he : ((wordK (n + 1)).toList == t.toList) = false := by
          rw [beq_eq_false_iff_ne]
          intro e
          apply hw
          rw [ByteArray.toList_eq, ByteArray.toList_eq] at e
          exact ByteArray.ext (Array.toList_inj.1 e)
        clear hw HK HW
        generalize wordK (n + 1) = W at *
        go_wp2_with fail
        exact ⟨⟨n + 1, by omega, by simp, unhide HK2⟩, by simp [intOf]; omega⟩
    · have HN := hide (show n = 24 by omega)
      have hg : ¬ ((n : Int) + 1) ≤ 24 := by omega
      have HK0 := hide (show K = 0 by rw [← unhide HKW, show kindW t = kwUp t 24 from rfl, ← unhide HF, ← unhide HN]; exact unhide HZ)
      go_wp2_with fail
      go_ret
      exact ⟨by rw [unhide HK0]; rfl, rfl⟩

set_option maxHeartbeats 400000 in
theorem giving_any (b : Nat) (w : World) : Calls Tryd.prog 31 #[.int .u8 (b : Int)] w fun e w' => e = .returned (.int .i64 (gvK b : Int)) ∧ w' = w := by
  unfold gvK
  by_cases h1 : b = 46
  · subst h1
    rw [if_pos rfl]
    go_enter Tryd.func31, Tryd.ntmps31
    go_wp2
    go_ret
    exact ⟨rfl, rfl⟩
  · rw [if_neg h1]
    have e1 : ((b : Int) == 46) = false := by rw [beq_eq_false_iff_ne]; omega
    by_cases h2 : b = 36
    · subst h2
      rw [if_pos rfl]
      go_enter Tryd.func31, Tryd.ntmps31
      go_wp2
      go_ret
      exact ⟨rfl, rfl⟩
    · rw [if_neg h2]
      have e2 : ((b : Int) == 36) = false := by rw [beq_eq_false_iff_ne]; omega
      clear h1 h2
      go_enter Tryd.func31, Tryd.ntmps31
      go_wp2
      go_ret
      exact ⟨rfl, rfl⟩
set_option maxHeartbeats 800000 in
theorem begins_any (b : Nat) (hb : b < 256) (w : World) : Calls Tryd.prog 26 #[.int .u8 (b : Int)] w fun e w' => e = .returned (.bool (begN b)) ∧ w' = w := by
  have HL := hide (isLetter_any b hb w)
  unfold begN
  generalize letterN b = x at *
  have k1 : ((b : Int) == 39) = decide (b = 39) := by rw [Bool.eq_iff_iff]; simp; omega
  have k2 : ((b : Int) == 40) = decide (b = 40) := by rw [Bool.eq_iff_iff]; simp; omega
  have k3 : ((b : Int) == 64) = decide (b = 64) := by rw [Bool.eq_iff_iff]; simp; omega
  have k4 : ((b : Int) == 42) = decide (b = 42) := by rw [Bool.eq_iff_iff]; simp; omega
  cases x
  · generalize decide (b = 39) = d1 at *
    generalize decide (b = 40) = d2 at *
    generalize decide (b = 64) = d3 at *
    generalize decide (b = 42) = d4 at *
    cases d1 <;> cases d2 <;> cases d3 <;> cases d4 <;> (
      go_enter Tryd.func26, Tryd.ntmps26
      go_wp2_with (refine (unhide HL).mono ?_; rintro e w ⟨rfl, rfl⟩)
      go_ret
      exact ⟨rfl, rfl⟩)
  · go_enter Tryd.func26, Tryd.ntmps26
    go_wp2_with (refine (unhide HL).mono ?_; rintro e w ⟨rfl, rfl⟩)
    go_ret
    exact ⟨rfl, rfl⟩
end Go.Proofs.YtimbfelbalfmiaaDoor
