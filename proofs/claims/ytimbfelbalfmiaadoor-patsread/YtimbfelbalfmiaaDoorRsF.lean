/- The document's walk over signs: number. -/
import Derived.Test.YtimbfelbalfmiaaDoorRsE
import Derived.Test.YtimbfelbalfmiaaDoorRdG
namespace Go.Proofs.YtimbfelbalfmiaaDoor
open Go.RowKit

theorem sgs_sz {s : ByteArray} {i : Nat} (hs : s.size ≤ 65536) (hi : i ≤ s.size) {x : Sg} {r : List Sg} (h : sgs s i = x :: r) : x.t.size ≤ 65536 := by
  have hx : ∀ a b, (s.extract a b).size ≤ 65536 := fun a b => by rw [ByteArray.size_extract]; omega
  rw [sgs_here hi] at h
  split at h
  · split at h
    · split at h
      · rename_i h1 h2 h3
        injection h with h _
        rw [← h]
        exact qtP_le hs (i := sk s i) (j := cq s (sk s i + 1) + 1) (by unfold qtP; rw [if_pos h3])
      · injection h with h _; rw [← h]; exact Nat.zero_le _
    · split at h
      · injection h with h _; rw [← h]; exact hx _ _
      · split at h
        · injection h with h _; rw [← h]; exact hx _ _
        · injection h with h _; rw [← h]; exact hx _ _
  · injection h with h _; rw [← h]; exact Nat.zero_le _
/-- What the digits of a text come to, no further than it takes to be too large. -/
def nT (t : ByteArray) : Nat → Nat
  | 0 => 0
  | k + 1 => if nT t k ≤ 65536 ∧ 48 ≤ bat t k ∧ bat t k ≤ 57 then 10 * nT t k + (bat t k - 48) else nT t k
theorem nT_step (t : ByteArray) (k : Nat) : nT t (k + 1) = if nT t k ≤ 65536 ∧ 48 ≤ bat t k ∧ bat t k ≤ 57 then 10 * nT t k + (bat t k - 48) else nT t k := rfl
theorem nT_le (t : ByteArray) : ∀ k, nT t k ≤ 700000
  | 0 => Nat.zero_le _
  | k + 1 => by have := nT_le t k; rw [nT_step]; split <;> omega
theorem nT_cap {s t : ByteArray} {j : Nat} : ∀ k, (∀ q, q < k → bat t q = bat s (j + q) ∧ digitN (bat s (j + q)) = true) → (nT t k ≤ 65536 → capUp s j k = nT t k) ∧ (65536 < nT t k → capUp s j k = 65537)
  | 0, _ => ⟨fun _ => rfl, fun h => absurd h (Nat.not_lt_zero _ : ¬ 65536 < 0)⟩
  | k + 1, h => by
    obtain ⟨h1, h2⟩ := nT_cap (s := s) (t := t) (j := j) k fun q hq => h q (by omega)
    obtain ⟨h3, h4⟩ := h k (by omega)
    have h5 : 48 ≤ bat s (j + k) ∧ bat s (j + k) ≤ 57 := of_decide_eq_true h4
    have hc : capUp s j (k + 1) = min (10 * capUp s j k + (bat s (j + k) - 48)) 65537 := rfl
    rw [nT_step, h3, hc]
    rcases Nat.lt_or_ge 65536 (nT t k) with q | q
    · rw [if_neg (by omega), h2 q]
      exact ⟨fun x => by omega, fun _ => by omega⟩
    · rw [if_pos ⟨q, h5⟩, h1 q]
      exact ⟨fun x => by omega, fun _ => by omega⟩
theorem bat_ext {s : ByteArray} {i j q : Nat} (hj : j ≤ s.size) (hq : q < j - i) : bat (s.extract i j) q = bat s (i + q) := by
  have h1 : q < (s.extract i j).size := by rw [ByteArray.size_extract]; omega
  rw [← bat_at _ q h1, ← bat_at s (i + q) (by omega), ByteArray.getElem_extract]
set_option maxHeartbeats 8000000 in
theorem wnumber_ok {w : World} {z i : Nat} {s : ByteArray} {d : Int} (hs : s.size ≤ 65536) (hi : i ≤ s.size) (hd : d ≤ 201) (h : Wk w z s (sgs s i) d 0 0) (hdg : digitN (nx s i) = true) :
    Calls Tryd.prog 38 #[.pointer (some ⟨z, 0, none⟩)] w fun e w' => WPost numV numV0 z s d w (nuP s i) e w' := by
  obtain ⟨RR, hRR⟩ : ∃ RR, RR = nuP s i := ⟨_, rfl⟩
  rw [← hRR]
  have HRR := hide hRR
  clear hRR
  have hE := dgE_adv (s := s) (j := sk s i) hdg
  have hsz := ext_size s (Nat.le_of_lt hE.1) hE.2
  have HT := hide (wtd_ok hi h hdg)
  have HNE := hide (sgs_ne (s := s) (i := dgE s (sk s i)) hE.2)
  have HC := hide (nT_cap (s := s) (t := s.extract (sk s i) (dgE s (sk s i))) (j := sk s i) (dgE s (sk s i) - sk s i) (fun q hq => ⟨bat_ext hE.2 hq, pas_all (s := s) (p := digitN) (i := sk s i) (sk s i + q) (by omega) (show sk s i + q < dgE s (sk s i) by omega)⟩))
  have hb0 : bat (s.extract (sk s i) (dgE s (sk s i))) 0 = bat s (sk s i) := bat_ext hE.2 (by omega)
  have H48 := hide (fun (q : bat s (sk s i) = 48 ∧ sk s i + 1 < dgE s (sk s i)) => (show RR = .error (2, sk s i + 1) by rw [unhide HRR, nuP, if_pos hdg, if_pos q]))
  have HR := hide (fun (q : ¬ (bat s (sk s i) = 48 ∧ sk s i + 1 < dgE s (sk s i))) => (show (nT (s.extract (sk s i) (dgE s (sk s i))) (s.extract (sk s i) (dgE s (sk s i))).size ≤ 65536 → RR = .ok (nT (s.extract (sk s i) (dgE s (sk s i))) (s.extract (sk s i) (dgE s (sk s i))).size, dgE s (sk s i))) ∧ (65536 < nT (s.extract (sk s i) (dgE s (sk s i))) (s.extract (sk s i) (dgE s (sk s i))).size → RR = .error (3, sk s i)) from by
    rw [hsz, unhide HRR, nuP, if_pos hdg, if_neg q]
    exact ⟨fun a => by rw [(unhide HC).1 a, if_neg (by omega)], fun a => by rw [(unhide HC).2 a, if_pos (by decide)]⟩))
  clear HRR HC h
  have hzl : True := trivial
  have ht0 : 0 < (s.extract (sk s i) (dgE s (sk s i))).size := by omega
  have htb := bat_at _ 0 ht0
  rw [hb0] at htb
  have hks := (sk_le s i hi).2
  by_cases q48 : bat s (sk s i) = 48 ∧ sk s i + 1 < dgE s (sk s i)
  · have HE := hide (unhide H48 q48)
    have hg : (1 : Int) < ((s.extract (sk s i) (dgE s (sk s i))).size : Int) := by omega
    have hv : (((s.extract (sk s i) (dgE s (sk s i)))[0]'ht0).toNat : Int) = 48 := by rw [htb, q48.1]; rfl
    clear q48 HR H48 htb hb0 hsz
    generalize s.extract (sk s i) (dgE s (sk s i)) = t at *
    generalize dgE s (sk s i) = e2 at *
    generalize sk s i = j at *
    have hj1 : (j : Int) + 1 ≤ 65537 := by omega
    go_enter Tryd.func38, Tryd.ntmps38
    go_wp2_with fail
    refine (unhide HT).mono ?_
    rintro e w2 ⟨rfl, hb, hW⟩
    have HS := hide (fun o => wstop_ok (hW.below ((Below.refl _ _).alloc (Nat.le_refl _) o)) 2 ((j : Int) + 1))
    have HB := hide hb
    clear hb hW
    unfold sgE
    go_wp2_with fail
    refine (unhide HS _).mono ?_
    rintro e w3 ⟨rfl, hb, hW⟩
    have HB3 := hide (((unhide HB).alloc _).trans hb)
    have HW3 := hide (show WkB w3 z s d 2 ((j + 1 : Nat) : Int) by obtain ⟨x, r, q⟩ := unhide HNE; rw [q] at hW; exact ⟨x, r, hW⟩)
    clear hb hW
    go_wp2_with fail
    go_ret
    exact wpost_err (unhide HE) (unhide HB3) ⟨_, rfl⟩ (Int.le_refl _) hd (unhide HW3)
  · have HR := hide (unhide HR q48)
    have hgd : ((1 : Int) < ((s.extract (sk s i) (dgE s (sk s i))).size : Int) ∧ (((s.extract (sk s i) (dgE s (sk s i)))[0]'ht0).toNat == 48) = false) ∨ ¬ (1 : Int) < ((s.extract (sk s i) (dgE s (sk s i))).size : Int) := by
      by_cases a : (1 : Int) < ((s.extract (sk s i) (dgE s (sk s i))).size : Int)
      · refine .inl ⟨a, ?_⟩
        rw [htb, beq_eq_false_iff_ne]
        intro b
        exact q48 ⟨b, by omega⟩
      · exact .inr a
    have htm : (s.extract (sk s i) (dgE s (sk s i))).size ≤ 65536 := by omega
    clear q48 H48 htb hb0 hsz
    generalize s.extract (sk s i) (dgE s (sk s i)) = t at *
    generalize dgE s (sk s i) = e2 at *
    generalize sk s i = j at *
    have hcv := fun W => run_bytes_of_string (P := Tryd.prog) W 9 51 5 t Tryd.underlying9 Tryd.underlying51 Tryd.underlying5
    go_enter Tryd.func38, Tryd.ntmps38
    go_wp2_with fail
    refine (unhide HT).mono ?_
    rintro e w2 ⟨rfl, hb, hW⟩
    have HB := hide hb
    have HW := hide hW
    clear hb hW
    unfold sgE
    rcases hgd with ⟨hg, hgb⟩ | hg
    · have hgc : (((t[0]'ht0).toNat : Int) == 48) = false := by rw [beq_eq_false_iff_ne] at hgb ⊢; omega
      clear hgb
      go_wp2_with fail
      generalize grownCap (w2.alloc (.cells #[.int .i64 304, .string t, .int .i64 (j : Int), .int .i64 (e2 : Int)] 42)) t.size 0 5 = G
      obtain ⟨W0, hW0⟩ : ∃ W0, W0 = ((w2.alloc (.cells #[.int .i64 304, .string t, .int .i64 (j : Int), .int .i64 (e2 : Int)] 42)).alloc (.cells (bytesRow t G) 5 ((bytesRow t G).size, (bytesRow t G).size + 1))).drew := ⟨_, rfl⟩
      rw [← hW0]
      have q2 : W0.heap[w2.heap.size + 1]? = some (.cells (bytesRow t G) 5 ((bytesRow t G).size, (bytesRow t G).size + 1)) := by rw [hW0, heap_drew]; exact at_new (by rw [World.size_alloc])
      have q3 : W0.heap[w2.heap.size]? = some (.cells #[.int .i64 304, .string t, .int .i64 (j : Int), .int .i64 (e2 : Int)] 42 (0, 0)) := by rw [hW0, heap_drew]; exact at_old (by rw [World.size_alloc]; omega) (at_new rfl)
      have hbel : Below w2.heap.size w2 W0 := by rw [hW0]; exact (((Below.refl _ _).alloc (Nat.le_refl _) _).alloc (by rw [World.size_alloc]; omega) _).drew
      have QB := hide hbel
      have Q3 := hide q3
      have HB2 := hide (bytesRow_at t G)
      clear hW0 q3 hbel
      generalize bytesRow t G = R at *
      have Q2 := hide q2
      clear q2
      go_loop [4, 28] (fun v i => ∃ k : Nat, k ≤ t.size ∧ i = .int .i64 (k : Int) ∧ v = .int .i64 (nT t k : Int)) (fun _ i => t.size - (intOf i).toNat)
      case atStart => exact ⟨0, by omega, rfl, rfl⟩
      case round =>
        obtain ⟨k, hk, rfl, rfl⟩ := hrel
        rcases Nat.lt_or_ge k t.size with hlt | hge
        · have b2 : W0.cell? ⟨w2.heap.size + 1, k, none⟩ = some (.int .u8 (bat t k : Int)) := by rw [cell_of_row W0 _ _ _ _ _ (unhide Q2), unhide HB2 k hlt, ← bat_at t k hlt]; rfl
          have hb := bat_lt t k
          have hn := nT_le t k
          have HN := hide (nT_step t k)
          generalize bat t k = b at *
          rcases Nat.lt_or_ge 65536 (nT t k) with q | q
          · have HN2 := hide (show nT t (k + 1) = nT t k by rw [unhide HN, if_neg (by omega)])
            clear HN
            generalize nT t k = n at *
            have q0 : ¬ (n : Int) ≤ 65536 := by omega
            clear q
            go_wp2_with fail
            exact ⟨⟨k + 1, by omega, rfl, by rw [unhide HN2]⟩, by simp [intOf]; omega⟩
          · have hc : b < 48 ∨ 57 < b ∨ (48 ≤ b ∧ b ≤ 57) := by omega
            rcases hc with hc | hc | hc
            · have HN2 := hide (show nT t (k + 1) = nT t k by rw [unhide HN, if_neg (by omega)])
              clear HN
              generalize nT t k = n at *
              have q0 : (n : Int) ≤ 65536 := by omega
              have q1 : ¬ (48 : Int) ≤ (b : Int) := by omega
              clear q hc
              go_wp2_with fail
              exact ⟨⟨k + 1, by omega, rfl, by rw [unhide HN2]⟩, by simp [intOf]; omega⟩
            · have HN2 := hide (show nT t (k + 1) = nT t k by rw [unhide HN, if_neg (by omega)])
              clear HN
              generalize nT t k = n at *
              have q0 : (n : Int) ≤ 65536 := by omega
              have q1 : (48 : Int) ≤ (b : Int) := by omega
              have q2 : ¬ (b : Int) ≤ 57 := by omega
              clear q hc
              go_wp2_with fail
              exact ⟨⟨k + 1, by omega, rfl, by rw [unhide HN2]⟩, by simp [intOf]; omega⟩
            · have HN2 := hide (show nT t (k + 1) = 10 * nT t k + (b - 48) by rw [unhide HN, if_pos ⟨q, hc⟩])
              clear HN
              generalize nT t k = n at *
              have q0 : (n : Int) ≤ 65536 := by omega
              have q1 : (48 : Int) ≤ (b : Int) := by omega
              have q2 : (b : Int) ≤ 57 := by omega
              have hw : wrap64 ((b : Int) - 48) = (b : Int) - 48 := IntWalk.wrap64_in _ (by omega)
              clear q
              go_wp2_with fail
              exact ⟨⟨k + 1, by omega, rfl, by rw [unhide HN2]; congr 1; omega⟩, by simp [intOf]; omega⟩
        · obtain rfl : k = t.size := by omega
          have hn := nT_le t t.size
          obtain ⟨y0, y1, y2, y3⟩ := sg4 (unhide Q3)
          rcases Nat.lt_or_ge 65536 (nT t t.size) with q | q
          · have HRR := hide ((unhide HR).2 q)
            have q0 : (65536 : Int) < (nT t t.size : Int) := by omega
            have HS := hide (wstop_ok ((unhide HW).below (unhide QB)) 3 (j : Int))
            clear q HR
            generalize nT t t.size = n at *
            go_wp2_with fail
            refine (unhide HS).mono ?_
            rintro e w5 ⟨rfl, hb5, hW5⟩
            have HB5 := hide (((unhide HB).trans (But.of_below (unhide QB))).trans hb5)
            have HW5 := hide (show WkB w5 z s d 3 (j : Int) by obtain ⟨x, r, q⟩ := unhide HNE; rw [q] at hW5; exact ⟨x, r, hW5⟩)
            clear hb5 hW5
            go_wp2_with fail
            go_ret
            exact wpost_err (unhide HRR) (unhide HB5) ⟨_, rfl⟩ (Int.le_refl _) hd (unhide HW5)
          · have HRR := hide ((unhide HR).1 q)
            have q0 : ¬ (65536 : Int) < (nT t t.size : Int) := by omega
            clear q HR
            generalize nT t t.size = n at *
            go_wp2_with fail
            go_ret
            exact wpost_ok (unhide HRR) ((unhide HB).trans (But.of_below (unhide QB))) rfl ((unhide HW).below (unhide QB))
    · go_wp2_with fail
      generalize grownCap (w2.alloc (.cells #[.int .i64 304, .string t, .int .i64 (j : Int), .int .i64 (e2 : Int)] 42)) t.size 0 5 = G
      obtain ⟨W0, hW0⟩ : ∃ W0, W0 = ((w2.alloc (.cells #[.int .i64 304, .string t, .int .i64 (j : Int), .int .i64 (e2 : Int)] 42)).alloc (.cells (bytesRow t G) 5 ((bytesRow t G).size, (bytesRow t G).size + 1))).drew := ⟨_, rfl⟩
      rw [← hW0]
      have q2 : W0.heap[w2.heap.size + 1]? = some (.cells (bytesRow t G) 5 ((bytesRow t G).size, (bytesRow t G).size + 1)) := by rw [hW0, heap_drew]; exact at_new (by rw [World.size_alloc])
      have q3 : W0.heap[w2.heap.size]? = some (.cells #[.int .i64 304, .string t, .int .i64 (j : Int), .int .i64 (e2 : Int)] 42 (0, 0)) := by rw [hW0, heap_drew]; exact at_old (by rw [World.size_alloc]; omega) (at_new rfl)
      have hbel : Below w2.heap.size w2 W0 := by rw [hW0]; exact (((Below.refl _ _).alloc (Nat.le_refl _) _).alloc (by rw [World.size_alloc]; omega) _).drew
      have QB := hide hbel
      have Q3 := hide q3
      have HB2 := hide (bytesRow_at t G)
      clear hW0 q3 hbel
      generalize bytesRow t G = R at *
      have Q2 := hide q2
      clear q2
      go_loop [4, 28] (fun v i => ∃ k : Nat, k ≤ t.size ∧ i = .int .i64 (k : Int) ∧ v = .int .i64 (nT t k : Int)) (fun _ i => t.size - (intOf i).toNat)
      case atStart => exact ⟨0, by omega, rfl, rfl⟩
      case round =>
        obtain ⟨k, hk, rfl, rfl⟩ := hrel
        rcases Nat.lt_or_ge k t.size with hlt | hge
        · have b2 : W0.cell? ⟨w2.heap.size + 1, k, none⟩ = some (.int .u8 (bat t k : Int)) := by rw [cell_of_row W0 _ _ _ _ _ (unhide Q2), unhide HB2 k hlt, ← bat_at t k hlt]; rfl
          have hb := bat_lt t k
          have hn := nT_le t k
          have HN := hide (nT_step t k)
          generalize bat t k = b at *
          rcases Nat.lt_or_ge 65536 (nT t k) with q | q
          · have HN2 := hide (show nT t (k + 1) = nT t k by rw [unhide HN, if_neg (by omega)])
            clear HN
            generalize nT t k = n at *
            have q0 : ¬ (n : Int) ≤ 65536 := by omega
            clear q
            go_wp2_with fail
            exact ⟨⟨k + 1, by omega, rfl, by rw [unhide HN2]⟩, by simp [intOf]; omega⟩
          · have hc : b < 48 ∨ 57 < b ∨ (48 ≤ b ∧ b ≤ 57) := by omega
            rcases hc with hc | hc | hc
            · have HN2 := hide (show nT t (k + 1) = nT t k by rw [unhide HN, if_neg (by omega)])
              clear HN
              generalize nT t k = n at *
              have q0 : (n : Int) ≤ 65536 := by omega
              have q1 : ¬ (48 : Int) ≤ (b : Int) := by omega
              clear q hc
              go_wp2_with fail
              exact ⟨⟨k + 1, by omega, rfl, by rw [unhide HN2]⟩, by simp [intOf]; omega⟩
            · have HN2 := hide (show nT t (k + 1) = nT t k by rw [unhide HN, if_neg (by omega)])
              clear HN
              generalize nT t k = n at *
              have q0 : (n : Int) ≤ 65536 := by omega
              have q1 : (48 : Int) ≤ (b : Int) := by omega
              have q2 : ¬ (b : Int) ≤ 57 := by omega
              clear q hc
              go_wp2_with fail
              exact ⟨⟨k + 1, by omega, rfl, by rw [unhide HN2]⟩, by simp [intOf]; omega⟩
            · have HN2 := hide (show nT t (k + 1) = 10 * nT t k + (b - 48) by rw [unhide HN, if_pos ⟨q, hc⟩])
              clear HN
              generalize nT t k = n at *
              have q0 : (n : Int) ≤ 65536 := by omega
              have q1 : (48 : Int) ≤ (b : Int) := by omega
              have q2 : (b : Int) ≤ 57 := by omega
              have hw : wrap64 ((b : Int) - 48) = (b : Int) - 48 := IntWalk.wrap64_in _ (by omega)
              clear q
              go_wp2_with fail
              exact ⟨⟨k + 1, by omega, rfl, by rw [unhide HN2]; congr 1; omega⟩, by simp [intOf]; omega⟩
        · obtain rfl : k = t.size := by omega
          have hn := nT_le t t.size
          obtain ⟨y0, y1, y2, y3⟩ := sg4 (unhide Q3)
          rcases Nat.lt_or_ge 65536 (nT t t.size) with q | q
          · have HRR := hide ((unhide HR).2 q)
            have q0 : (65536 : Int) < (nT t t.size : Int) := by omega
            have HS := hide (wstop_ok ((unhide HW).below (unhide QB)) 3 (j : Int))
            clear q HR
            generalize nT t t.size = n at *
            go_wp2_with fail
            refine (unhide HS).mono ?_
            rintro e w5 ⟨rfl, hb5, hW5⟩
            have HB5 := hide (((unhide HB).trans (But.of_below (unhide QB))).trans hb5)
            have HW5 := hide (show WkB w5 z s d 3 (j : Int) by obtain ⟨x, r, q⟩ := unhide HNE; rw [q] at hW5; exact ⟨x, r, hW5⟩)
            clear hb5 hW5
            go_wp2_with fail
            go_ret
            exact wpost_err (unhide HRR) (unhide HB5) ⟨_, rfl⟩ (Int.le_refl _) hd (unhide HW5)
          · have HRR := hide ((unhide HR).1 q)
            have q0 : ¬ (65536 : Int) < (nT t t.size : Int) := by omega
            clear q HR
            generalize nT t t.size = n at *
            go_wp2_with fail
            go_ret
            exact wpost_ok (unhide HRR) ((unhide HB).trans (But.of_below (unhide QB))) rfl ((unhide HW).below (unhide QB))
set_option maxRecDepth 100000 in
set_option maxHeartbeats 8000000 in
theorem wnumber_bad {w : World} {z i : Nat} {s : ByteArray} {d : Int} (hs : s.size ≤ 65536) (hi : i ≤ s.size) (hd : d ≤ 201) (h : Wk w z s (sgs s i) d 0 0) (hdg : digitN (nx s i) = false) :
    Calls Tryd.prog 38 #[.pointer (some ⟨z, 0, none⟩)] w fun e w' => WPost numV numV0 z s d w (.error (2, sk s i)) e w' := by
  have hks := (sk_le s i hi).2
  obtain ⟨x, r, hx, hxa, -⟩ := sgs_any (s := s) hi
  have htm := sgs_sz hs hi hx
  have HT := hide (show Calls Tryd.prog 19 #[.pointer (some ⟨z, 0, none⟩), .int .i64 304] w fun e w' => e = .returned (sgE x) ∧ But z w w' ∧ WkB w' z s d 2 (sk s i) from by
    obtain ⟨y, r', hy, ha, hk⟩ := sgs_any (s := s) hi
    obtain ⟨rfl, rfl⟩ : y = x ∧ r' = r := by rw [hx] at hy; injection hy with a b; exact ⟨a.symm, b.symm⟩
    have hb : nx s i < 256 := bat_lt s (sk s i)
    have hne : y.k ≠ 304 := by rw [hdg] at hk; simp only [Bool.false_eq_true, and_false, false_or, and_true] at hk; omega
    rw [hx] at h
    refine (wtake_no h 304 hne).mono ?_
    rintro e w' ⟨rfl, hb, hW⟩
    rw [if_neg (by omega), ha] at hW
    exact ⟨rfl, hb, y, r', hW⟩)
  clear h hx hdg
  obtain ⟨xk, t, xa, xe⟩ := x
  simp only at hxa htm
  subst hxa
  generalize sk s i = xa at *
  have hcv := fun W => run_bytes_of_string (P := Tryd.prog) W 9 51 5 t Tryd.underlying9 Tryd.underlying51 Tryd.underlying5
  have hj1 : (xa : Int) + 1 ≤ 65537 := by omega
  go_enter Tryd.func38, Tryd.ntmps38
  go_wp2_with fail
  refine (unhide HT).mono ?_
  rintro e w2 ⟨rfl, hb, hW⟩
  have HS2 := hide (fun o => (hW.below ((Below.refl _ _).alloc (Nat.le_refl _) o)).stop (by decide) 2 ((xa : Int) + 1))
  have HB := hide hb
  have HW := hide hW
  clear hb hW
  unfold sgE
  by_cases hg : (1 : Int) < (t.size : Int)
  · have ht0 : 0 < t.size := by omega
    cases hgc : (((t[0]'ht0).toNat : Int) == 48)
    · go_wp2_with fail
      generalize grownCap (w2.alloc (.cells #[.int .i64 (xk : Int), .string t, .int .i64 (xa : Int), .int .i64 (xe : Int)] 42)) t.size 0 5 = G
      obtain ⟨W0, hW0⟩ : ∃ W0, W0 = ((w2.alloc (.cells #[.int .i64 (xk : Int), .string t, .int .i64 (xa : Int), .int .i64 (xe : Int)] 42)).alloc (.cells (bytesRow t G) 5 ((bytesRow t G).size, (bytesRow t G).size + 1))).drew := ⟨_, rfl⟩
      rw [← hW0]
      have q2 : W0.heap[w2.heap.size + 1]? = some (.cells (bytesRow t G) 5 ((bytesRow t G).size, (bytesRow t G).size + 1)) := by rw [hW0, heap_drew]; exact at_new (by rw [World.size_alloc])
      have q3 : W0.heap[w2.heap.size]? = some (.cells #[.int .i64 (xk : Int), .string t, .int .i64 (xa : Int), .int .i64 (xe : Int)] 42 (0, 0)) := by rw [hW0, heap_drew]; exact at_old (by rw [World.size_alloc]; omega) (at_new rfl)
      have hbel : Below w2.heap.size w2 W0 := by rw [hW0]; exact (((Below.refl _ _).alloc (Nat.le_refl _) _).alloc (by rw [World.size_alloc]; omega) _).drew
      have QB := hide hbel
      have Q3 := hide q3
      have HB2 := hide (bytesRow_at t G)
      clear hW0 q3 hbel
      generalize bytesRow t G = R at *
      have Q2 := hide q2
      clear q2
      go_loop [4, 28] (fun v i => ∃ k : Nat, k ≤ t.size ∧ i = .int .i64 (k : Int) ∧ v = .int .i64 (nT t k : Int)) (fun _ i => t.size - (intOf i).toNat)
      case atStart => exact ⟨0, by omega, rfl, rfl⟩
      case round =>
        obtain ⟨k, hk, rfl, rfl⟩ := hrel
        rcases Nat.lt_or_ge k t.size with hlt | hge
        · have b2 : W0.cell? ⟨w2.heap.size + 1, k, none⟩ = some (.int .u8 (bat t k : Int)) := by rw [cell_of_row W0 _ _ _ _ _ (unhide Q2), unhide HB2 k hlt, ← bat_at t k hlt]; rfl
          have hb := bat_lt t k
          have hn := nT_le t k
          have HN := hide (nT_step t k)
          generalize bat t k = b at *
          rcases Nat.lt_or_ge 65536 (nT t k) with q | q
          · have HN2 := hide (show nT t (k + 1) = nT t k by rw [unhide HN, if_neg (by omega)])
            clear HN
            generalize nT t k = n at *
            have q0 : ¬ (n : Int) ≤ 65536 := by omega
            clear q
            go_wp2_with fail
            exact ⟨⟨k + 1, by omega, rfl, by rw [unhide HN2]⟩, by simp [intOf]; omega⟩
          · have hc : b < 48 ∨ 57 < b ∨ (48 ≤ b ∧ b ≤ 57) := by omega
            rcases hc with hc | hc | hc
            · have HN2 := hide (show nT t (k + 1) = nT t k by rw [unhide HN, if_neg (by omega)])
              clear HN
              generalize nT t k = n at *
              have q0 : (n : Int) ≤ 65536 := by omega
              have q1 : ¬ (48 : Int) ≤ (b : Int) := by omega
              clear q hc
              go_wp2_with fail
              exact ⟨⟨k + 1, by omega, rfl, by rw [unhide HN2]⟩, by simp [intOf]; omega⟩
            · have HN2 := hide (show nT t (k + 1) = nT t k by rw [unhide HN, if_neg (by omega)])
              clear HN
              generalize nT t k = n at *
              have q0 : (n : Int) ≤ 65536 := by omega
              have q1 : (48 : Int) ≤ (b : Int) := by omega
              have q2 : ¬ (b : Int) ≤ 57 := by omega
              clear q hc
              go_wp2_with fail
              exact ⟨⟨k + 1, by omega, rfl, by rw [unhide HN2]⟩, by simp [intOf]; omega⟩
            · have HN2 := hide (show nT t (k + 1) = 10 * nT t k + (b - 48) by rw [unhide HN, if_pos ⟨q, hc⟩])
              clear HN
              generalize nT t k = n at *
              have q0 : (n : Int) ≤ 65536 := by omega
              have q1 : (48 : Int) ≤ (b : Int) := by omega
              have q2 : (b : Int) ≤ 57 := by omega
              have hw : wrap64 ((b : Int) - 48) = (b : Int) - 48 := IntWalk.wrap64_in _ (by omega)
              clear q
              go_wp2_with fail
              exact ⟨⟨k + 1, by omega, rfl, by rw [unhide HN2]; congr 1; omega⟩, by simp [intOf]; omega⟩
        · obtain rfl : k = t.size := by omega
          have hn := nT_le t t.size
          obtain ⟨y0, y1, y2, y3⟩ := sg4 (unhide Q3)
          rcases Nat.lt_or_ge 65536 (nT t t.size) with q | q
          · have q0 : (65536 : Int) < (nT t t.size : Int) := by omega
            have HS := hide (((unhide HW).below (unhide QB)).stop (by decide) 3 (xa : Int))
            clear q
            generalize nT t t.size = n at *
            go_wp2_with fail
            refine (unhide HS).mono ?_
            rintro e w5 ⟨rfl, rfl⟩
            go_wp2_with fail
            go_ret
            exact wpost_err rfl ((unhide HB).trans (But.of_below (unhide QB))) ⟨_, rfl⟩ (Int.le_refl _) hd ((unhide HW).below (unhide QB))
          · have q0 : ¬ (65536 : Int) < (nT t t.size : Int) := by omega
            clear q
            generalize nT t t.size = n at *
            go_wp2_with fail
            go_ret
            exact wpost_err rfl ((unhide HB).trans (But.of_below (unhide QB))) ⟨_, rfl⟩ (Int.le_refl _) hd ((unhide HW).below (unhide QB))
    · go_wp2_with fail
      refine (unhide HS2 _).mono ?_
      rintro e w5 ⟨rfl, rfl⟩
      go_wp2_with fail
      go_ret
      exact wpost_err rfl ((unhide HB).alloc _) ⟨_, rfl⟩ (Int.le_refl _) hd ((unhide HW).below ((Below.refl _ _).alloc (Nat.le_refl _) _))
  · clear HS2 hj1 hks hs
    go_wp2_with fail
    generalize grownCap (w2.alloc (.cells #[.int .i64 (xk : Int), .string t, .int .i64 (xa : Int), .int .i64 (xe : Int)] 42)) t.size 0 5 = G
    obtain ⟨W0, hW0⟩ : ∃ W0, W0 = ((w2.alloc (.cells #[.int .i64 (xk : Int), .string t, .int .i64 (xa : Int), .int .i64 (xe : Int)] 42)).alloc (.cells (bytesRow t G) 5 ((bytesRow t G).size, (bytesRow t G).size + 1))).drew := ⟨_, rfl⟩
    rw [← hW0]
    have q2 : W0.heap[w2.heap.size + 1]? = some (.cells (bytesRow t G) 5 ((bytesRow t G).size, (bytesRow t G).size + 1)) := by rw [hW0, heap_drew]; exact at_new (by rw [World.size_alloc])
    have q3 : W0.heap[w2.heap.size]? = some (.cells #[.int .i64 (xk : Int), .string t, .int .i64 (xa : Int), .int .i64 (xe : Int)] 42 (0, 0)) := by rw [hW0, heap_drew]; exact at_old (by rw [World.size_alloc]; omega) (at_new rfl)
    have hbel : Below w2.heap.size w2 W0 := by rw [hW0]; exact (((Below.refl _ _).alloc (Nat.le_refl _) _).alloc (by rw [World.size_alloc]; omega) _).drew
    have QB := hide hbel
    have Q3 := hide q3
    have HB2 := hide (bytesRow_at t G)
    clear hW0 q3 hbel
    generalize bytesRow t G = R at *
    have Q2 := hide q2
    clear q2
    go_loop [4, 28] (fun v i => ∃ k : Nat, k ≤ t.size ∧ i = .int .i64 (k : Int) ∧ v = .int .i64 (nT t k : Int)) (fun _ i => t.size - (intOf i).toNat)
    case atStart => exact ⟨0, by omega, rfl, rfl⟩
    case round =>
      obtain ⟨k, hk, rfl, rfl⟩ := hrel
      rcases Nat.lt_or_ge k t.size with hlt | hge
      · have b2 : W0.cell? ⟨w2.heap.size + 1, k, none⟩ = some (.int .u8 (bat t k : Int)) := by rw [cell_of_row W0 _ _ _ _ _ (unhide Q2), unhide HB2 k hlt, ← bat_at t k hlt]; rfl
        have hb := bat_lt t k
        have hn := nT_le t k
        have HN := hide (nT_step t k)
        generalize bat t k = b at *
        rcases Nat.lt_or_ge 65536 (nT t k) with q | q
        · have HN2 := hide (show nT t (k + 1) = nT t k by rw [unhide HN, if_neg (by omega)])
          clear HN
          generalize nT t k = n at *
          have q0 : ¬ (n : Int) ≤ 65536 := by omega
          clear q
          go_wp2_with fail
          exact ⟨⟨k + 1, by omega, rfl, by rw [unhide HN2]⟩, by simp [intOf]; omega⟩
        · have hc : b < 48 ∨ 57 < b ∨ (48 ≤ b ∧ b ≤ 57) := by omega
          rcases hc with hc | hc | hc
          · have HN2 := hide (show nT t (k + 1) = nT t k by rw [unhide HN, if_neg (by omega)])
            clear HN
            generalize nT t k = n at *
            have q0 : (n : Int) ≤ 65536 := by omega
            have q1 : ¬ (48 : Int) ≤ (b : Int) := by omega
            clear q hc
            go_wp2_with fail
            exact ⟨⟨k + 1, by omega, rfl, by rw [unhide HN2]⟩, by simp [intOf]; omega⟩
          · have HN2 := hide (show nT t (k + 1) = nT t k by rw [unhide HN, if_neg (by omega)])
            clear HN
            generalize nT t k = n at *
            have q0 : (n : Int) ≤ 65536 := by omega
            have q1 : (48 : Int) ≤ (b : Int) := by omega
            have q2 : ¬ (b : Int) ≤ 57 := by omega
            clear q hc
            go_wp2_with fail
            exact ⟨⟨k + 1, by omega, rfl, by rw [unhide HN2]⟩, by simp [intOf]; omega⟩
          · have HN2 := hide (show nT t (k + 1) = 10 * nT t k + (b - 48) by rw [unhide HN, if_pos ⟨q, hc⟩])
            clear HN
            generalize nT t k = n at *
            have q0 : (n : Int) ≤ 65536 := by omega
            have q1 : (48 : Int) ≤ (b : Int) := by omega
            have q2 : (b : Int) ≤ 57 := by omega
            have hw : wrap64 ((b : Int) - 48) = (b : Int) - 48 := IntWalk.wrap64_in _ (by omega)
            clear q
            go_wp2_with fail
            exact ⟨⟨k + 1, by omega, rfl, by rw [unhide HN2]; congr 1; omega⟩, by simp [intOf]; omega⟩
      · obtain rfl : k = t.size := by omega
        have hn := nT_le t t.size
        obtain ⟨y0, y1, y2, y3⟩ := sg4 (unhide Q3)
        rcases Nat.lt_or_ge 65536 (nT t t.size) with q | q
        · have q0 : (65536 : Int) < (nT t t.size : Int) := by omega
          have HS := hide (((unhide HW).below (unhide QB)).stop (by decide) 3 (xa : Int))
          clear q
          generalize nT t t.size = n at *
          go_wp2_with fail
          refine (unhide HS).mono ?_
          rintro e w5 ⟨rfl, rfl⟩
          go_wp2_with fail
          go_ret
          exact wpost_err rfl ((unhide HB).trans (But.of_below (unhide QB))) ⟨_, rfl⟩ (Int.le_refl _) hd ((unhide HW).below (unhide QB))
        · have q0 : ¬ (65536 : Int) < (nT t t.size : Int) := by omega
          clear q
          generalize nT t t.size = n at *
          go_wp2_with fail
          go_ret
          exact wpost_err rfl ((unhide HB).trans (But.of_below (unhide QB))) ⟨_, rfl⟩ (Int.le_refl _) hd ((unhide HW).below (unhide QB))
theorem wnumber_any {w : World} {z i : Nat} {s : ByteArray} {d : Int} (hs : s.size ≤ 65536) (hi : i ≤ s.size) (hd : d ≤ 201) (h : Wk w z s (sgs s i) d 0 0) :
    Calls Tryd.prog 38 #[.pointer (some ⟨z, 0, none⟩)] w fun e w' => WPost numV numV0 z s d w (nuP s i) e w' := by
  cases hdg : digitN (nx s i)
  · have e : nuP s i = .error (2, sk s i) := by unfold nuP; rw [hdg, if_neg (by decide)]
    rw [e]
    exact wnumber_bad hs hi hd h hdg
  · exact wnumber_ok hs hi hd h hdg
end Go.Proofs.YtimbfelbalfmiaaDoor
