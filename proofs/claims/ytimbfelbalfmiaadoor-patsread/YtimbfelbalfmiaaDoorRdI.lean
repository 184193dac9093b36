/- The reader of patterns: pieces without the names that are given them. -/
import Derived.Test.YtimbfelbalfmiaaDoorRdH
namespace Go.Proofs.YtimbfelbalfmiaaDoor
open Go.RowKit

theorem rdWorded_any {d : Nat} {B : ByteArray → Nat → Rd PT} (HBR : Says 40 d (fun s => parP d (B s) s)) {s : ByteArray} {i z : Nat} {w : World} (hs : s.size ≤ 65536) (hl : letterN (bat s i) = true) (hR : Rdr w z s i ((200 - d : Nat) : Int)) (hS : Shapes w) (hzG : z ≠ 0) :
    Calls Tryd.prog 41 #[.pointer (some ⟨z, 0, none⟩)] w fun e w' => RdPost (patL w.heap.size) z s ((200 - d : Nat) : Int) w (woP d (B s) s i) e w' := by
  obtain ⟨K, hK⟩ : ∃ K, kindW (s.extract i (wdE s i)) = K := ⟨_, rfl⟩
  by_cases h0 : K = 0
  · exact worded_none hs hl hR hS hzG hK h0
  · by_cases h20 : K = 20
    · exact worded_arb hs hl hR hS hzG hK h20 rfl HBR
    · by_cases h2 : hasK K = 2
      · exact worded_num hs hl hR hS hzG hK h0 h20 h2
      · by_cases h1 : hasK K = 1
        · exact worded_text hs hl hR hS hzG hK h0 h20 h1
        · exact worded_leaf hs hl hR hS hzG hK h0 h20 h2 h1

theorem nmP_le {s : ByteArray} {i j : Nat} {t : ByteArray} (hs : s.size ≤ 65536) (h : nmP s i = .ok (t, j)) : t.size ≤ 65536 := by
  unfold nmP at h
  split at h
  · split at h
    · cases h
    · injection h with h; injection h with h _
      subst h
      have := ext_le s (sk s i) (wdE s (sk s i))
      omega
  · cases h
def nmO (k : Nat) (nm : ByteArray) : Array Value := #[.int .i64 (k : Int), .string ⟨#[]⟩, .int .i64 0, .string nm, .slice none 0 0]
theorem nmO_oneC (k : Nat) (nm : ByteArray) : (nmO k nm).all (·.oneCell') = true := by simp [nmO, Value.oneCell']
set_option maxRecDepth 100000 in
set_option maxHeartbeats 4000000 in
theorem bare_any {d : Nat} {B : ByteArray → Nat → Rd PT} (HBR : Says 40 d (fun s => parP d (B s) s)) : Says 30 d (fun s => baP d (B s) s) := by
  intro s i z w hs hi hR hS hzG
  have hks := sk_le s i hi
  have hzl := hR.lt
  have hb0 : But z w (w.alloc (.cells zeroP 24)) := (But.refl z w).alloc _
  have hR0 := hR.below ((Below.refl _ _).alloc (Nat.le_refl _) (.cells zeroP 24))
  have hne : w.heap.size ≠ z := by omega
  have HS0 := hide (hS.but hb0 hzG)
  have HB0 := hide hb0
  have HX0 := hide (show (w.alloc (.cells zeroP 24)).heap[w.heap.size]? = some (.cells zeroP 24 (0, 0)) from zbox)
  have HN := hide (next_any _ hs hi hR0)
  have HLT := hide (fun (h : nx s i ≠ 0) => nx_in h)
  have HPA := hide (show ∀ w, Rdr w z s (sk s i) ((200 - d : Nat) : Int) → Shapes w → Calls Tryd.prog 40 #[.pointer (some ⟨z, 0, none⟩)] w fun e w' => RdPost (patL w.heap.size) z s ((200 - d : Nat) : Int) w (parP d (B s) s (sk s i)) e w' from fun w h1 h2 => HBR s (sk s i) z w hs hks.2 h1 h2 hzG)
  have HWO := hide (fun w (hl : letterN (bat s (sk s i)) = true) h1 h2 => rdWorded_any HBR (z := z) (w := w) hs hl h1 h2 hzG)
  have HLE := hide (isLetter_any (nx s i) (bat_lt _ _))
  have HQU := hide (fun w h1 h2 => rdQuoted_any (s := s) (i := sk s i) (z := z) (o := ((200 - d : Nat) : Int)) w hs h1 h2)
  have HNM := hide (fun w h1 h2 => name_any (s := s) (i := sk s i + 1) (z := z) (o := ((200 - d : Nat) : Int)) w hs h1 h2)
  have hletter : letterN (nx s i) = letterN (bat s (sk s i)) := rfl
  show Calls _ _ _ _ fun e w' => RdPost (patL w.heap.size) z s ((200 - d : Nat) : Int) w (baP d (B s) s i) e w'
  unfold baP
  generalize hob : ((200 - d : Nat) : Int) = o at *
  generalize parP d (B s) s (sk s i) = RP at *
  generalize woP d (B s) s (sk s i) = RW at *
  clear hob hR hR0 hS hb0 HBR
  by_cases h39 : nx s i = 39
  · rw [if_pos h39]
    have hlt := unhide HLT (by omega)
    rw [h39] at HN
    clear HLE HNM HWO HPA h39 hletter HLT
    generalize sk s i = k at *
    obtain ⟨R, hq⟩ : ∃ R, qtP s k = R := ⟨_, rfl⟩
    have HQ2 := hide hq
    rw [hq] at HQU ⊢
    clear hq
    rcases R with ⟨er, a1⟩ | ⟨t, a1⟩
    · rw [bnd_err]
      go_enter Tryd.func30, Tryd.ntmps30
      go_wp2_with fail
      refine (unhide HN).mono ?_
      rintro e w1 ⟨rfl, hb1, hR1⟩
      have HB1 := hide ((unhide HB0).trans hb1)
      have H1 := hide hR1
      clear hb1 hR1
      go_wp2_with (refine (unhide HQU _ hlt (unhide H1)).mono ?_; intro e w3 hP; obtain ⟨hb3, rfl⟩ := of_err hP rfl; clear hP; have HB3 := hide ((unhide HB1).trans hb3); clear hb3; unfold thr)
      exact ⟨rfl, post_err rfl (unhide HB3) rfl⟩
    · rw [bnd_ok]
      have HTL := hide (qtP_le hs (unhide HQ2))
      go_enter Tryd.func30, Tryd.ntmps30
      go_wp2_with fail
      refine (unhide HN).mono ?_
      rintro e w1 ⟨rfl, hb1, hR1⟩
      have HB1 := hide ((unhide HB0).trans hb1)
      have HX1 := hide (but_z hb1 (unhide HX0) hne)
      have H1 := hide hR1
      clear hb1 hR1
      go_wp2_with fail
      refine (unhide HQU _ hlt (unhide H1)).mono ?_
      intro e w3 hP
      obtain ⟨hb3, hv, hR3⟩ := of_ok hP rfl
      unfold strV at hv
      subst hv
      have HB3 := hide ((unhide HB1).trans hb3)
      have HX3 := hide (but_z hb3 (unhide HX1) hne)
      have H3 := hide hR3
      clear hP hb3 hR3
      go_wp2_with (first
        | (refine wpList_store_row rfl 24 _ _ rfl w.heap.size (lfO 1 t 0) rfl rfl 24 zeroP (unhide HX3) size_pat rfl (lfO_oneC _ _ _) ?_)
        | fail)
      (try simp only [Exit.inBlock, Exit.then])
      refine bodyPost_ret (results_cell_row rfl _ _ w.heap.size 24 (lfO 1 t 0) (0, 0) _ rfl (setRow_heap _ _ _ _ _ _ (unhide HX3)) Tryd.underlying24 rfl size_pat) rfl ?_
      exact post_ok rfl (but_setRow (unhide HB3) (Nat.le_refl _) _) ⟨mkP 1 t 0 ⟨#[]⟩ [], rfl, leaf_can _ _ _ _, leaf_lies (by omega) (by omega) (unhide HTL) (by decide)⟩ ((unhide H3).setRow hne _)
  · rw [if_neg h39]
    have e39 : ((nx s i : Int) == 39) = false := by rw [beq_eq_false_iff_ne]; omega
    by_cases h40 : nx s i = 40
    · rw [if_pos h40]
      have e40 : ((nx s i : Int) == 40) = true := by rw [beq_iff_eq]; omega
      rw [h40] at HN
      clear HLE HNM HWO HQU h39 h40 e39 e40 hletter HLT
      generalize sk s i = k at *
      rcases RP with ⟨er, a1⟩ | ⟨q, a1⟩
      · go_enter Tryd.func30, Tryd.ntmps30
        go_wp2_with fail
        refine (unhide HN).mono ?_
        rintro e w1 ⟨rfl, hb1, hR1⟩
        have HB1 := hide ((unhide HB0).trans hb1)
        have HS1 := hide ((unhide HS0).but hb1 hzG)
        have H1 := hide hR1
        clear hb1 hR1
        go_wp2_with (refine (unhide HPA _ (unhide H1) (unhide HS1)).mono ?_; intro e w3 hP; obtain ⟨hb3, rfl⟩ := of_err hP rfl; clear hP; have HB3 := hide ((unhide HB1).trans hb3); clear hb3; unfold thr)
        exact ⟨rfl, post_err rfl (unhide HB3) rfl⟩
      · go_enter Tryd.func30, Tryd.ntmps30
        go_wp2_with fail
        refine (unhide HN).mono ?_
        rintro e w1 ⟨rfl, hb1, hR1⟩
        have HB1 := hide ((unhide HB0).trans hb1)
        have HX1 := hide (but_z hb1 (unhide HX0) hne)
        have HS1 := hide ((unhide HS0).but hb1 hzG)
        have H1 := hide hR1
        have hs1 : w.heap.size + 1 ≤ w1.heap.size := (Array.getElem?_eq_some_iff.1 (unhide HX1)).1
        clear hb1 hR1
        go_wp2_with fail
        refine (unhide HPA _ (unhide H1) (unhide HS1)).mono ?_
        intro e w3 hP
        obtain ⟨hb3, ⟨U, rfl, hU, hL⟩, hR3⟩ := of_ok hP rfl
        have HB3 := hide ((unhide HB1).trans hb3)
        have HX3 := hide (but_z hb3 (unhide HX1) hne)
        have H3 := hide hR3
        have HU := hide (And.intro hU hL)
        clear hP hb3 hR3 hU hL
        unfold pv
        go_wp2_with (first
          | (refine wpList_store_row rfl 24 _ _ rfl w.heap.size (patO U) rfl rfl 24 zeroP (unhide HX3) size_pat rfl (patO_oneC _) ?_)
          | fail)
        (try simp only [Exit.inBlock, Exit.then])
        refine bodyPost_ret (results_cell_row rfl _ _ w.heap.size 24 (patO U) (0, 0) _ rfl (setRow_heap _ _ _ _ _ _ (unhide HX3)) Tryd.underlying24 rfl size_pat) rfl ?_
        exact post_ok rfl (but_setRow (unhide HB3) (Nat.le_refl _) _) ⟨U, rfl, (unhide HU).1, ((unhide HU).2.setRow (by omega) _).mono (by omega)⟩ ((unhide H3).setRow hne _)
    · rw [if_neg h40]
      have e40 : ((nx s i : Int) == 40) = false := by rw [beq_eq_false_iff_ne]; omega
      clear HQU HPA
      have named : ∀ (K b : Nat), (K = 23 ∧ b = 64) ∨ (K = 24 ∧ b = 42) → nx s i = b → Calls Tryd.prog 30 #[.pointer (some ⟨z, 0, none⟩)] w fun e w' => RdPost (patL w.heap.size) z s o w (bnd (nmP s (sk s i + 1)) fun t e => .ok (mkP (K : Int) ⟨#[]⟩ 0 t [], e)) e w' := by
        intro K b hKb hnx
        have hlt := unhide HLT (by omega)
        rw [hnx] at HN
        have HNM2 := hide (fun w h => unhide HNM w (by omega) h)
        clear HLE HWO h39 h40 e39 e40 hletter HLT hnx HNM
        generalize sk s i = k at *
        obtain ⟨R, hq⟩ : ∃ R, nmP s (k + 1) = R := ⟨_, rfl⟩
        have HQ2 := hide hq
        rw [hq] at HNM2 ⊢
        clear hq
        rcases R with ⟨er, a1⟩ | ⟨t, a1⟩
        · rw [bnd_err]
          rcases hKb with ⟨rfl, rfl⟩ | ⟨rfl, rfl⟩ <;> (
            go_enter Tryd.func30, Tryd.ntmps30
            go_wp2_with fail
            refine (unhide HN).mono ?_
            rintro e w1 ⟨rfl, hb1, hR1⟩
            have HB1 := hide ((unhide HB0).trans hb1)
            have H1 := hide (hR1.set1 (k + 1))
            have HB2 := hide ((unhide HB1).setCell 1 (.int .i64 ((k + 1 : Nat) : Int)))
            have c1 := hR1.c1
            have fz := hR1.fz 1
            clear hb1 hR1
            go_wp2_with (refine (unhide HNM2 _ (unhide H1)).mono ?_; intro e w3 hP; obtain ⟨hb3, rfl⟩ := of_err hP rfl; clear hP; have HB3 := hide ((unhide HB2).trans hb3); clear hb3; unfold thr)
            exact ⟨rfl, post_err rfl (unhide HB3) rfl⟩)
        · rw [bnd_ok]
          have HTL := hide (nmP_le hs (unhide HQ2))
          rcases hKb with ⟨rfl, rfl⟩ | ⟨rfl, rfl⟩ <;> (
            go_enter Tryd.func30, Tryd.ntmps30
            go_wp2_with fail
            refine (unhide HN).mono ?_
            rintro e w1 ⟨rfl, hb1, hR1⟩
            have HB1 := hide ((unhide HB0).trans hb1)
            have HX1 := hide (but_z (hb1.trans ((But.refl z w1).setCell 1 (.int .i64 ((k + 1 : Nat) : Int)))) (unhide HX0) hne)
            have H1 := hide (hR1.set1 (k + 1))
            have HB2 := hide ((unhide HB1).setCell 1 (.int .i64 ((k + 1 : Nat) : Int)))
            have c1 := hR1.c1
            have fz := hR1.fz 1
            clear hb1 hR1
            go_wp2_with fail
            refine (unhide HNM2 _ (unhide H1)).mono ?_
            intro e w3 hP
            obtain ⟨hb3, hv, hR3⟩ := of_ok hP rfl
            unfold strV at hv
            subst hv
            have HB3 := hide ((unhide HB2).trans hb3)
            have HX3 := hide (but_z hb3 (unhide HX1) hne)
            have H3 := hide hR3
            clear hP hb3 hR3 c1 fz
            first
              | (go_wp2_with (first
                  | (refine wpList_store_row rfl 24 _ _ rfl w.heap.size (nmO 23 t) rfl rfl 24 zeroP (unhide HX3) size_pat rfl (nmO_oneC _ _) ?_)
                  | fail)
                 (try simp only [Exit.inBlock, Exit.then])
                 refine bodyPost_ret (results_cell_row rfl _ _ w.heap.size 24 (nmO 23 t) (0, 0) _ rfl (setRow_heap _ _ _ _ _ _ (unhide HX3)) Tryd.underlying24 rfl size_pat) rfl ?_
                 exact post_ok rfl (but_setRow (unhide HB3) (Nat.le_refl _) _) ⟨mkP 23 ⟨#[]⟩ 0 t [], rfl, leaf_can _ _ _ _, leaf_lies (by omega) (by omega) (by decide) (unhide HTL)⟩ ((unhide H3).setRow hne _))
              | (go_wp2_with (first
                  | (refine wpList_store_row rfl 24 _ _ rfl w.heap.size (nmO 24 t) rfl rfl 24 zeroP (unhide HX3) size_pat rfl (nmO_oneC _ _) ?_)
                  | fail)
                 (try simp only [Exit.inBlock, Exit.then])
                 refine bodyPost_ret (results_cell_row rfl _ _ w.heap.size 24 (nmO 24 t) (0, 0) _ rfl (setRow_heap _ _ _ _ _ _ (unhide HX3)) Tryd.underlying24 rfl size_pat) rfl ?_
                 exact post_ok rfl (but_setRow (unhide HB3) (Nat.le_refl _) _) ⟨mkP 24 ⟨#[]⟩ 0 t [], rfl, leaf_can _ _ _ _, leaf_lies (by omega) (by omega) (by decide) (unhide HTL)⟩ ((unhide H3).setRow hne _)))
      by_cases h64 : nx s i = 64
      · rw [if_pos h64]
        exact named 23 64 (.inl ⟨rfl, rfl⟩) h64
      · rw [if_neg h64]
        by_cases h42 : nx s i = 42
        · rw [if_pos h42]
          exact named 24 42 (.inr ⟨rfl, rfl⟩) h42
        · rw [if_neg h42]
          have e64 : ((nx s i : Int) == 64) = false := by rw [beq_eq_false_iff_ne]; omega
          have e42 : ((nx s i : Int) == 42) = false := by rw [beq_eq_false_iff_ne]; omega
          clear named HNM h39 h40 h64 h42 HLT
          cases hl : letterN (nx s i)
          · rw [hl] at HLE
            rw [if_neg (by decide)]
            clear hl hletter HWO
            generalize nx s i = b at *
            generalize sk s i = k at *
            go_enter Tryd.func30, Tryd.ntmps30
            go_wp2_with fail
            refine (unhide HN).mono ?_
            rintro e w1 ⟨rfl, hb1, hR1⟩
            have HB1 := hide ((unhide HB0).trans hb1)
            have HST := hide (stop_any w1 hR1)
            clear hb1 hR1
            go_wp2_with fail
            refine (unhide HLE _).mono ?_
            rintro e w1 ⟨rfl, rfl⟩
            go_wp2_with (refine (unhide HST).mono ?_; rintro e w ⟨rfl, rfl⟩; unfold thr)
            exact ⟨rfl, post_err rfl (unhide HB1) rfl⟩
          · have HWO2 := hide (fun w h1 h2 => unhide HWO w (hletter ▸ hl) h1 h2)
            rw [hl] at HLE
            rw [if_pos rfl]
            clear hl hletter HWO
            generalize nx s i = b at *
            generalize sk s i = k at *
            rcases RW with ⟨er, a1⟩ | ⟨q, a1⟩
            · go_enter Tryd.func30, Tryd.ntmps30
              go_wp2_with fail
              refine (unhide HN).mono ?_
              rintro e w1 ⟨rfl, hb1, hR1⟩
              have HB1 := hide ((unhide HB0).trans hb1)
              have HS1 := hide ((unhide HS0).but hb1 hzG)
              have H1 := hide hR1
              clear hb1 hR1
              go_wp2_with fail
              refine (unhide HLE _).mono ?_
              rintro e w1 ⟨rfl, rfl⟩
              go_wp2_with (refine (unhide HWO2 _ (unhide H1) (unhide HS1)).mono ?_; intro e w3 hP; obtain ⟨hb3, rfl⟩ := of_err hP rfl; clear hP; have HB3 := hide ((unhide HB1).trans hb3); clear hb3; unfold thr)
              exact ⟨rfl, post_err rfl (unhide HB3) rfl⟩
            · go_enter Tryd.func30, Tryd.ntmps30
              go_wp2_with fail
              refine (unhide HN).mono ?_
              rintro e w1 ⟨rfl, hb1, hR1⟩
              have HB1 := hide ((unhide HB0).trans hb1)
              have HX1 := hide (but_z hb1 (unhide HX0) hne)
              have HS1 := hide ((unhide HS0).but hb1 hzG)
              have H1 := hide hR1
              have hs1 : w.heap.size + 1 ≤ w1.heap.size := (Array.getElem?_eq_some_iff.1 (unhide HX1)).1
              clear hb1 hR1
              go_wp2_with fail
              refine (unhide HLE _).mono ?_
              rintro e w1 ⟨rfl, rfl⟩
              go_wp2_with fail
              refine (unhide HWO2 _ (unhide H1) (unhide HS1)).mono ?_
              intro e w3 hP
              obtain ⟨hb3, ⟨U, rfl, hU, hL⟩, hR3⟩ := of_ok hP rfl
              have HB3 := hide ((unhide HB1).trans hb3)
              have HX3 := hide (but_z hb3 (unhide HX1) hne)
              have H3 := hide hR3
              have HU := hide (And.intro hU hL)
              clear hP hb3 hR3 hU hL
              unfold pv
              go_wp2_with (first
                | (refine wpList_store_row rfl 24 _ _ rfl w.heap.size (patO U) rfl rfl 24 zeroP (unhide HX3) size_pat rfl (patO_oneC _) ?_)
                | fail)
              (try simp only [Exit.inBlock, Exit.then])
              refine bodyPost_ret (results_cell_row rfl _ _ w.heap.size 24 (patO U) (0, 0) _ rfl (setRow_heap _ _ _ _ _ _ (unhide HX3)) Tryd.underlying24 rfl size_pat) rfl ?_
              exact post_ok rfl (but_setRow (unhide HB3) (Nat.le_refl _) _) ⟨U, rfl, (unhide HU).1, ((unhide HU).2.setRow (by omega) _).mono (by omega)⟩ ((unhide H3).setRow hne _)
end Go.Proofs.YtimbfelbalfmiaaDoor
