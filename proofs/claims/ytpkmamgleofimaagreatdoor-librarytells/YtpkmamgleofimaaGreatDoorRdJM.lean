/- The reader of patterns: pieces without the names that are given them. A statement that leaves its order open and ends with one store that waits for all the rest: what the store changes need hold no longer. The reader of patterns: a piece and the names that are given it. -/
import Derived.Test.YtpkmamgleofimaaGreatDoorRdHM
import Derived.OrdersHeld
import Derived.StillTail
import Derived.RegionTactic
import Derived.WalkKit
import Derived.Below
import Derived.Deep.MidRow
import Derived.KernelRfl
namespace Go.Proofs.YtpkmamgleofimaaGreatDoor
open Go.RowKit

theorem rdWorded_any {d : Nat} {B : ByteArray → Nat → Rd PT} (HBR : Says 143 d (fun s => parP d (B s) s)) {s : ByteArray} {i z : Nat} {w : World} (hs : s.size ≤ 65536) (hl : letterN (bat s i) = true) (hR : Rdr w z s i ((200 - d : Nat) : Int)) (hS : Shapes w) (hzG : z ≠ 4) :
    Calls Tryz.prog 144 #[.pointer (some ⟨z, 0, none⟩)] w fun e w' => RdPost (patL w.heap.size) z s ((200 - d : Nat) : Int) w (woP d (B s) s i) e w' := by
  obtain ⟨K, hK⟩ : ∃ K, kindW (s.extract i (wdE s i)) = K := ⟨_, rfl⟩
  by_cases h0 : K = 0
  · exact worded_none hs hl hR hS hzG hK h0
  · by_cases h20 : K = 20
    · exact worded_arb hs hl hR hS hzG hK h20 rfl HBR
    · by_cases h2 : hasK K = 2
      · exact worded_num hs hl hR hS hzG hK h0 h20 h2
      · by_cases h1 : hasK K = 1
        · exact worded_text hs hl hR hS hzG hK h0 h20 h1
        · exact worded_leaf hs hl hR hS hzG hK h0 h20 h2 h1
theorem nmP_le {s : ByteArray} {i j : Nat} {t : ByteArray} (hs : s.size ≤ 65536) (h : nmP s i = .ok (t, j)) : t.size ≤ 65536 := by
  unfold nmP at h
  split at h
  · split at h
    · cases h
    · injection h with h; injection h with h _
      subst h
      have := ext_le s (sk s i) (wdE s (sk s i))
      omega
  · cases h
def nmO (k : Nat) (nm : ByteArray) : Array Value := #[.int .i64 (k : Int), .string ⟨#[]⟩, .int .i64 0, .string nm, .slice none 0 0]
theorem nmO_oneC (k : Nat) (nm : ByteArray) : (nmO k nm).all (·.oneCell') = true := by simp [nmO, Value.oneCell']
set_option maxRecDepth 100000 in
set_option maxHeartbeats 4000000 in
theorem bare_any {d : Nat} {B : ByteArray → Nat → Rd PT} (HBR : Says 143 d (fun s => parP d (B s) s)) : Says 137 d (fun s => baP d (B s) s) := by
  intro s i z w hs hi hR hS hzG
  have hks := sk_le s i hi
  have hzl := hR.lt
  have hb0 : But z w (w.alloc (.cells zeroP 45)) := (But.refl z w).alloc _
  have hR0 := hR.below ((Below.refl _ _).alloc (Nat.le_refl _) (.cells zeroP 45))
  have hne : w.heap.size ≠ z := by omega
  have HS0 := hide (hS.but hb0 hzG)
  have HB0 := hide hb0
  have HX0 : Hid ((w.alloc (.cells zeroP 45)).heap[w.heap.size]? = some (.cells zeroP 45 (0, 0))) := hide (zbox)
  have HN := hide (next_any _ hs hi hR0)
  have HLT := hide (fun (h : nx s i ≠ 0) => nx_in h)
  have HPA : Hid (∀ w, Rdr w z s (sk s i) ((200 - d : Nat) : Int) → Shapes w → Calls Tryz.prog 143 #[.pointer (some ⟨z, 0, none⟩)] w fun e w' => RdPost (patL w.heap.size) z s ((200 - d : Nat) : Int) w (parP d (B s) s (sk s i)) e w') := hide (fun w h1 h2 => HBR s (sk s i) z w hs hks.2 h1 h2 hzG)
  have HWO := hide (fun w (hl : letterN (bat s (sk s i)) = true) h1 h2 => rdWorded_any HBR (z := z) (w := w) hs hl h1 h2 hzG)
  have HLE := hide (isLetter_any (nx s i) (bat_lt _ _))
  have HQU := hide (fun w h1 h2 => rdQuoted_any (s := s) (i := sk s i) (z := z) (o := ((200 - d : Nat) : Int)) w hs h1 h2)
  have HNM := hide (fun w h1 h2 => name_any (s := s) (i := sk s i + 1) (z := z) (o := ((200 - d : Nat) : Int)) w hs h1 h2)
  have hletter : letterN (nx s i) = letterN (bat s (sk s i)) := rfl
  show Calls _ _ _ _ fun e w' => RdPost (patL w.heap.size) z s ((200 - d : Nat) : Int) w (baP d (B s) s i) e w'
  unfold baP
  generalize hob : ((200 - d : Nat) : Int) = o at *
  generalize parP d (B s) s (sk s i) = RP at *
  generalize woP d (B s) s (sk s i) = RW at *
  clear hob hR hR0 hS hb0 HBR
  by_cases h39 : nx s i = 39
  · rw [if_pos h39]
    have hlt := unhide HLT (by omega)
    rw [h39] at HN
    clear HLE HNM HWO HPA h39 hletter HLT
    generalize sk s i = k at *
    obtain ⟨R, hq⟩ : ∃ R, qtP s k = R := ⟨_, rfl⟩
    have HQ2 := hide hq
    rw [hq] at HQU ⊢
    clear hq
    rcases R with ⟨er, a1⟩ | ⟨t, a1⟩
    · rw [bnd_err]
      go_enter Tryz.func137, Tryz.ntmps137
      go_wp2_with fail
      refine (unhide HN).mono ?_
      rintro e w1 ⟨rfl, hb1, hR1⟩
      have HB1 := hide ((unhide HB0).trans hb1)
      have H1 := hide hR1
      clear hb1 hR1
      go_wp2_with (refine (unhide HQU _ hlt (unhide H1)).mono ?_; intro e w3 hP; obtain ⟨hb3, rfl⟩ := of_err hP rfl; clear hP; have HB3 := hide ((unhide HB1).trans hb3); clear hb3; unfold thr)
      exact ⟨rfl, post_err rfl (unhide HB3) rfl⟩
    · rw [bnd_ok]
      have HTL := hide (qtP_le hs (unhide HQ2))
      go_enter Tryz.func137, Tryz.ntmps137
      go_wp2_with fail
      refine (unhide HN).mono ?_
      rintro e w1 ⟨rfl, hb1, hR1⟩
      have HB1 := hide ((unhide HB0).trans hb1)
      have HX1 := hide (but_z hb1 (unhide HX0) hne)
      have H1 := hide hR1
      clear hb1 hR1
      go_wp2_with fail
      refine (unhide HQU _ hlt (unhide H1)).mono ?_
      intro e w3 hP
      obtain ⟨hb3, hv, hR3⟩ := of_ok hP rfl
      unfold strV at hv
      subst hv
      have HB3 := hide ((unhide HB1).trans hb3)
      have HX3 := hide (but_z hb3 (unhide HX1) hne)
      have H3 := hide hR3
      clear hP hb3 hR3
      go_wp2_with (first
        | (refine wpList_store_row rfl 45 _ _ rfl w.heap.size (lfO 1 t 0) rfl rfl 45 zeroP (unhide HX3) size_pat rfl (lfO_oneC _ _ _) ?_)
        | fail)
      (try simp only [Exit.inBlock, Exit.then])
      refine bodyPost_ret (results_cell_row rfl _ _ w.heap.size 45 (lfO 1 t 0) (0, 0) _ rfl (setRow_heap _ _ _ _ _ _ (unhide HX3)) Tryz.underlying45 rfl size_pat) rfl ?_
      exact post_ok rfl (but_setRow (unhide HB3) (Nat.le_refl _) _) ⟨mkP 1 t 0 ⟨#[]⟩ [], rfl, leaf_can _ _ _ _, leaf_lies (by omega) (by omega) (unhide HTL) (by decide)⟩ ((unhide H3).setRow hne _)
  · rw [if_neg h39]
    have e39 : ((nx s i : Int) == 39) = false := bn
    by_cases h40 : nx s i = 40
    · rw [if_pos h40]
      have e40 : ((nx s i : Int) == 40) = true := bt
      rw [h40] at HN
      clear HLE HNM HWO HQU h39 h40 e39 e40 hletter HLT
      generalize sk s i = k at *
      rcases RP with ⟨er, a1⟩ | ⟨q, a1⟩
      · go_enter Tryz.func137, Tryz.ntmps137
        go_wp2_with fail
        refine (unhide HN).mono ?_
        rintro e w1 ⟨rfl, hb1, hR1⟩
        have HB1 := hide ((unhide HB0).trans hb1)
        have HS1 := hide ((unhide HS0).but hb1 hzG)
        have H1 := hide hR1
        clear hb1 hR1
        go_wp2_with (refine (unhide HPA _ (unhide H1) (unhide HS1)).mono ?_; intro e w3 hP; obtain ⟨hb3, rfl⟩ := of_err hP rfl; clear hP; have HB3 := hide ((unhide HB1).trans hb3); clear hb3; unfold thr)
        exact ⟨rfl, post_err rfl (unhide HB3) rfl⟩
      · go_enter Tryz.func137, Tryz.ntmps137
        go_wp2_with fail
        refine (unhide HN).mono ?_
        rintro e w1 ⟨rfl, hb1, hR1⟩
        have HB1 := hide ((unhide HB0).trans hb1)
        have HX1 := hide (but_z hb1 (unhide HX0) hne)
        have HS1 := hide ((unhide HS0).but hb1 hzG)
        have H1 := hide hR1
        have hs1 : w.heap.size + 1 ≤ w1.heap.size := (Array.getElem?_eq_some_iff.1 (unhide HX1)).1
        clear hb1 hR1
        go_wp2_with fail
        refine (unhide HPA _ (unhide H1) (unhide HS1)).mono ?_
        intro e w3 hP
        obtain ⟨hb3, ⟨U, rfl, hU, hL⟩, hR3⟩ := of_ok hP rfl
        have HB3 := hide ((unhide HB1).trans hb3)
        have HX3 := hide (but_z hb3 (unhide HX1) hne)
        have H3 := hide hR3
        have HU := hide (And.intro hU hL)
        clear hP hb3 hR3 hU hL
        unfold pv
        go_wp2_with (first
          | (refine wpList_store_row rfl 45 _ _ rfl w.heap.size (patO U) rfl rfl 45 zeroP (unhide HX3) size_pat rfl (patO_oneC _) ?_)
          | fail)
        (try simp only [Exit.inBlock, Exit.then])
        refine bodyPost_ret (results_cell_row rfl _ _ w.heap.size 45 (patO U) (0, 0) _ rfl (setRow_heap _ _ _ _ _ _ (unhide HX3)) Tryz.underlying45 rfl size_pat) rfl ?_
        exact post_ok rfl (but_setRow (unhide HB3) (Nat.le_refl _) _) ⟨U, rfl, (unhide HU).1, ((unhide HU).2.setRow (by omega) _).mono (by omega)⟩ ((unhide H3).setRow hne _)
    · rw [if_neg h40]
      have e40 : ((nx s i : Int) == 40) = false := bn
      clear HQU HPA
      have named : ∀ (K b : Nat), (K = 23 ∧ b = 64) ∨ (K = 24 ∧ b = 42) → nx s i = b → Calls Tryz.prog 137 #[.pointer (some ⟨z, 0, none⟩)] w fun e w' => RdPost (patL w.heap.size) z s o w (bnd (nmP s (sk s i + 1)) fun t e => .ok (mkP (K : Int) ⟨#[]⟩ 0 t [], e)) e w' := by
        intro K b hKb hnx
        have hlt := unhide HLT (by omega)
        rw [hnx] at HN
        have HNM2 := hide (fun w h => unhide HNM w (by omega) h)
        clear HLE HWO h39 h40 e39 e40 hletter HLT hnx HNM
        generalize sk s i = k at *
        obtain ⟨R, hq⟩ : ∃ R, nmP s (k + 1) = R := ⟨_, rfl⟩
        have HQ2 := hide hq
        rw [hq] at HNM2 ⊢
        clear hq
        rcases R with ⟨er, a1⟩ | ⟨t, a1⟩
        · rw [bnd_err]
          rcases hKb with ⟨rfl, rfl⟩ | ⟨rfl, rfl⟩ <;> (
            go_enter Tryz.func137, Tryz.ntmps137
            go_wp2_with fail
            refine (unhide HN).mono ?_
            rintro e w1 ⟨rfl, hb1, hR1⟩
            have HB1 := hide ((unhide HB0).trans hb1)
            have H1 := hide (hR1.set1 (k + 1))
            have HB2 := hide ((unhide HB1).setCell 1 (.int .i64 ((k + 1 : Nat) : Int)))
            have c1 := hR1.c1
            have fz := hR1.fz 1
            clear hb1 hR1
            go_wp2_with (refine (unhide HNM2 _ (unhide H1)).mono ?_; intro e w3 hP; obtain ⟨hb3, rfl⟩ := of_err hP rfl; clear hP; have HB3 := hide ((unhide HB2).trans hb3); clear hb3; unfold thr)
            exact ⟨rfl, post_err rfl (unhide HB3) rfl⟩)
        · rw [bnd_ok]
          have HTL := hide (nmP_le hs (unhide HQ2))
          rcases hKb with ⟨rfl, rfl⟩ | ⟨rfl, rfl⟩ <;> (
            go_enter Tryz.func137, Tryz.ntmps137
            go_wp2_with fail
            refine (unhide HN).mono ?_
            rintro e w1 ⟨rfl, hb1, hR1⟩
            have HB1 := hide ((unhide HB0).trans hb1)
            have HX1 := hide (but_z (hb1.trans ((But.refl z w1).setCell 1 (.int .i64 ((k + 1 : Nat) : Int)))) (unhide HX0) hne)
            have H1 := hide (hR1.set1 (k + 1))
            have HB2 := hide ((unhide HB1).setCell 1 (.int .i64 ((k + 1 : Nat) : Int)))
            have c1 := hR1.c1
            have fz := hR1.fz 1
            clear hb1 hR1
            go_wp2_with fail
            refine (unhide HNM2 _ (unhide H1)).mono ?_
            intro e w3 hP
            obtain ⟨hb3, hv, hR3⟩ := of_ok hP rfl
            unfold strV at hv
            subst hv
            have HB3 := hide ((unhide HB2).trans hb3)
            have HX3 := hide (but_z hb3 (unhide HX1) hne)
            have H3 := hide hR3
            clear hP hb3 hR3 c1 fz
            first
              | (go_wp2_with (first
                  | (refine wpList_store_row rfl 45 _ _ rfl w.heap.size (nmO 23 t) rfl rfl 45 zeroP (unhide HX3) size_pat rfl (nmO_oneC _ _) ?_)
                  | fail)
                 (try simp only [Exit.inBlock, Exit.then])
                 refine bodyPost_ret (results_cell_row rfl _ _ w.heap.size 45 (nmO 23 t) (0, 0) _ rfl (setRow_heap _ _ _ _ _ _ (unhide HX3)) Tryz.underlying45 rfl size_pat) rfl ?_
                 exact post_ok rfl (but_setRow (unhide HB3) (Nat.le_refl _) _) ⟨mkP 23 ⟨#[]⟩ 0 t [], rfl, leaf_can _ _ _ _, leaf_lies (by omega) (by omega) (by decide) (unhide HTL)⟩ ((unhide H3).setRow hne _))
              | (go_wp2_with (first
                  | (refine wpList_store_row rfl 45 _ _ rfl w.heap.size (nmO 24 t) rfl rfl 45 zeroP (unhide HX3) size_pat rfl (nmO_oneC _ _) ?_)
                  | fail)
                 (try simp only [Exit.inBlock, Exit.then])
                 refine bodyPost_ret (results_cell_row rfl _ _ w.heap.size 45 (nmO 24 t) (0, 0) _ rfl (setRow_heap _ _ _ _ _ _ (unhide HX3)) Tryz.underlying45 rfl size_pat) rfl ?_
                 exact post_ok rfl (but_setRow (unhide HB3) (Nat.le_refl _) _) ⟨mkP 24 ⟨#[]⟩ 0 t [], rfl, leaf_can _ _ _ _, leaf_lies (by omega) (by omega) (by decide) (unhide HTL)⟩ ((unhide H3).setRow hne _)))
      by_cases h64 : nx s i = 64
      · rw [if_pos h64]
        exact named 23 64 (.inl ⟨rfl, rfl⟩) h64
      · rw [if_neg h64]
        by_cases h42 : nx s i = 42
        · rw [if_pos h42]
          exact named 24 42 (.inr ⟨rfl, rfl⟩) h42
        · rw [if_neg h42]
          have e64 : ((nx s i : Int) == 64) = false := bn
          have e42 : ((nx s i : Int) == 42) = false := bn
          clear named HNM h39 h40 h64 h42 HLT
          cases hl : letterN (nx s i)
          · rw [hl] at HLE
            rw [if_neg (by decide)]
            clear hl hletter HWO
            generalize nx s i = b at *
            generalize sk s i = k at *
            go_enter Tryz.func137, Tryz.ntmps137
            go_wp2_with fail
            refine (unhide HN).mono ?_
            rintro e w1 ⟨rfl, hb1, hR1⟩
            have HB1 := hide ((unhide HB0).trans hb1)
            have HST := hide (stop_any w1 hR1)
            clear hb1 hR1
            go_wp2_with fail
            refine (unhide HLE _).mono ?_
            rintro e w1 ⟨rfl, rfl⟩
            go_wp2_with (refine (unhide HST).mono ?_; rintro e w ⟨rfl, rfl⟩; unfold thr)
            exact ⟨rfl, post_err rfl (unhide HB1) rfl⟩
          · have HWO2 := hide (fun w h1 h2 => unhide HWO w (hletter ▸ hl) h1 h2)
            rw [hl] at HLE
            rw [if_pos rfl]
            clear hl hletter HWO
            generalize nx s i = b at *
            generalize sk s i = k at *
            rcases RW with ⟨er, a1⟩ | ⟨q, a1⟩
            · go_enter Tryz.func137, Tryz.ntmps137
              go_wp2_with fail
              refine (unhide HN).mono ?_
              rintro e w1 ⟨rfl, hb1, hR1⟩
              have HB1 := hide ((unhide HB0).trans hb1)
              have HS1 := hide ((unhide HS0).but hb1 hzG)
              have H1 := hide hR1
              clear hb1 hR1
              go_wp2_with fail
              refine (unhide HLE _).mono ?_
              rintro e w1 ⟨rfl, rfl⟩
              go_wp2_with (refine (unhide HWO2 _ (unhide H1) (unhide HS1)).mono ?_; intro e w3 hP; obtain ⟨hb3, rfl⟩ := of_err hP rfl; clear hP; have HB3 := hide ((unhide HB1).trans hb3); clear hb3; unfold thr)
              exact ⟨rfl, post_err rfl (unhide HB3) rfl⟩
            · go_enter Tryz.func137, Tryz.ntmps137
              go_wp2_with fail
              refine (unhide HN).mono ?_
              rintro e w1 ⟨rfl, hb1, hR1⟩
              have HB1 := hide ((unhide HB0).trans hb1)
              have HX1 := hide (but_z hb1 (unhide HX0) hne)
              have HS1 := hide ((unhide HS0).but hb1 hzG)
              have H1 := hide hR1
              have hs1 : w.heap.size + 1 ≤ w1.heap.size := (Array.getElem?_eq_some_iff.1 (unhide HX1)).1
              clear hb1 hR1
              go_wp2_with fail
              refine (unhide HLE _).mono ?_
              rintro e w1 ⟨rfl, rfl⟩
              go_wp2_with fail
              refine (unhide HWO2 _ (unhide H1) (unhide HS1)).mono ?_
              intro e w3 hP
              obtain ⟨hb3, ⟨U, rfl, hU, hL⟩, hR3⟩ := of_ok hP rfl
              have HB3 := hide ((unhide HB1).trans hb3)
              have HX3 := hide (but_z hb3 (unhide HX1) hne)
              have H3 := hide hR3
              have HU := hide (And.intro hU hL)
              clear hP hb3 hR3 hU hL
              unfold pv
              go_wp2_with (first
                | (refine wpList_store_row rfl 45 _ _ rfl w.heap.size (patO U) rfl rfl 45 zeroP (unhide HX3) size_pat rfl (patO_oneC _) ?_)
                | fail)
              (try simp only [Exit.inBlock, Exit.then])
              refine bodyPost_ret (results_cell_row rfl _ _ w.heap.size 45 (patO U) (0, 0) _ rfl (setRow_heap _ _ _ _ _ _ (unhide HX3)) Tryz.underlying45 rfl size_pat) rfl ?_
              exact post_ok rfl (but_setRow (unhide HB3) (Nat.le_refl _) _) ⟨U, rfl, (unhide HU).1, ((unhide HU).2.setRow (by omega) _).mono (by omega)⟩ ((unhide H3).setRow hne _)
end Go.Proofs.YtpkmamgleofimaaGreatDoor

namespace Go.Proofs.YtpkmamgleofimaaGreatDoor
open Go

section
variable {P : Program} {ops : Array Oper} {Q : Exit → Act → World → Prop} {S : World → Prop} {n : Nat}

def AnyE (P : Program) (ops : Array Oper) (Q : Exit → Act → World → Prop) (S : World → Prop) (n : Nat) : Nat → Array Bool → Act → World → Prop
  | 0, listed, a, w => Region.ready .any ops listed = [] ∧ Q .normal a w
  | f + 1, listed, a, w => (Region.ready .any ops listed = [] → Q .normal a w) ∧
    ∀ i ∈ Region.ready .any ops listed, wpOp P ops Q i (fun a' w' => (i ≠ n → S w') ∧ AnyE P ops Q S n f (listed.setIfInBounds i true) a' w') a w
theorem AnyE.any : ∀ (f : Nat) (listed : Array Bool) (a : Act) (w : World), AnyE P ops Q S n f listed a w → wpAny P .any ops Q f listed a w
  | 0, _, _, _, h => h
  | f + 1, _, _, _, h => ⟨h.1, fun i hi => wpOp_mono (fun a' w' k => AnyE.any f _ a' w' k.2) (h.2 i hi)⟩
structure Sink (ops : Array Oper) (n : Nat) : Prop where
  sel : Region.noSelect ops = true
  sink : Region.sinkB .any ops n = true
  chain : Region.chainB .any ops n = true
  size : ops.size = n + 1
abbrev Inv (ops : Array Oper) (n : Nat) (listed : Array Bool) : Prop := HeadInv .any ops n listed
theorem inv_start : Inv ops n (Array.replicate ops.size false) :=
  ⟨by simp, fun j oj _ h => (by rw [getD_replicate_false] at h; cases h), fun t _ ht => (by simp [ht])⟩
theorem firstE {i : Nat} {oi : Oper} {v : Value} (F : Sink ops n) (hi : ops[i]? = some oi) (hin : i < n) (hQ : ∀ c a w, Q (.panic c) (a.put oi.dst v) w → Q (.panic c) a w) :
    ∀ (f : Nat) (listed : Array Bool) (a : Act) (w : World), Inv ops n listed →
      (∀ j oj, ops[j]? = some oj → j ≠ i → listed.getD j true = false → (∀ e ∈ oj.after, Region.binds .any e = true → e.on ≠ i) → oi.apart ops oj = true) →
      i ∈ Region.ready .any ops listed → YieldsIf P ops S oi v a → S w →
      AnyE P ops Q S n f (listed.setIfInBounds i true) (a.put oi.dst v) w → AnyE P ops Q S n (f + 1) listed a w := by
  have hsel := Region.noSelect_spec F.sel
  intro f
  induction f with
  | zero =>
    intro listed a w _ _ hr hy hS H
    refine ⟨fun h => absurd hr (by rw [h]; exact List.not_mem_nil), fun j hj => ?_⟩
    by_cases e : j = i
    · subst e
      exact hy.wpOp hi hS ⟨fun _ => hS, H⟩
    · exact absurd (ready_mono hj e) (by rw [H.1]; exact List.not_mem_nil)
  | succ f ih =>
    intro listed a w inv hfree hr hy hS H
    refine ⟨fun h => absurd hr (by rw [h]; exact List.not_mem_nil), fun j hj => ?_⟩
    by_cases e : j = i
    · subst e
      exact hy.wpOp hi hS ⟨fun _ => hS, H⟩
    · obtain ⟨hju, oj, hoj, hall⟩ := mem_ready.1 hj
      have hiu := (mem_ready.1 hr).1
      have hjl : j < ops.size := (Array.getElem?_eq_some_iff.1 hoj).1
      have hjn : j ≠ n := fun x => tail_waits F.sink F.chain (by rw [F.size]; omega) inv (n - i) i rfl hin hiu j (by omega) hj
      have hjn' : j < n := by have := F.size; omega
      have hno : ∀ e ∈ oj.after, Region.binds .any e = true → e.on ≠ i := fun e he hb x => by
        have h1 := hall e he hb
        rw [x, getD_both hiu] at h1
        cases h1
      have h2 := wpOp_putIf hoj (hfree j oj hoj e hju hno) (fun cs b => hsel i oi cs b hi) (fun cs b => hsel j oj cs b hoj) hQ hy (H.2 j (ready_mono hj e))
      refine wpOp_mono (fun a' w' h3 => ?_) h2
      obtain ⟨hy', hS', h4⟩ := h3
      refine ⟨fun _ => hS' hjn, ih (listed.setIfInBounds j true) a' w' (inv.set hj hjn') (fun k ok hk hki hun hk2 => ?_) (ready_mono hr (Ne.symm e)) hy' (hS' hjn) ?_⟩
      · refine hfree k ok hk hki ?_ hk2
        by_cases x : j = k
        · rw [← x]; exact hju
        · rw [getD_set_ne true x] at hun; exact hun
      · rw [Array.setIfInBounds_comm _ _ e]; exact h4
theorem takeE {i : Nat} {oi : Oper} {v : Value} {f : Nat} {listed : Array Bool} {a : Act} {w : World} (F : Sink ops n) (hi : ops[i]? = some oi) (hf : Region.free .any ops listed i = true)
    (hr : (Region.ready .any ops listed).contains i = true) (hin : decide (i < n) = true) (hQ : ∀ c a w, Q (.panic c) (a.put oi.dst v) w → Q (.panic c) a w) (hS : S w) (hy : YieldsIf P ops S oi v a)
    (h : Inv ops n (listed.setIfInBounds i true) → AnyE P ops Q S n f (listed.setIfInBounds i true) (a.put oi.dst v) w) : Inv ops n listed → AnyE P ops Q S n (f + 1) listed a w := fun inv =>
  have hr' : i ∈ Region.ready .any ops listed := by simpa using hr
  firstE F hi (of_decide_eq_true hin) hQ f listed a w inv (Region.free_spec hi hf) hr' hy hS (h (inv.set hr' (of_decide_eq_true hin)))
theorem stepE {i : Nat} {o : Oper} {f : Nat} {listed : Array Bool} {a : Act} {w : World} (hr : Region.ready .any ops listed = [i]) (hi : ops[i]? = some o) (hin : decide (i < n) = true)
    (h : ∀ K : Act → World → Prop, (∀ a' w', S w' → (Inv ops n (listed.setIfInBounds i true) → AnyE P ops Q S n f (listed.setIfInBounds i true) a' w') → K a' w') →
      if Region.wanted o (yielded ops a.tmps) = true then Oper.wp P o a w K Q else K (a.put o.dst undef) w) : Inv ops n listed → AnyE P ops Q S n (f + 1) listed a w := fun inv =>
  ⟨fun h0 => absurd (hr ▸ h0) (by simp), fun j hj => by
    have hj' : j = i := by rw [hr] at hj; simpa using hj
    subst hj'
    exact wpOp_step hi fun K hK => h K fun a' w' hS hA => hK a' w' ⟨fun _ => hS, hA (inv.set hj (of_decide_eq_true hin))⟩⟩
theorem lastE {o : Oper} {f : Nat} {listed : Array Bool} {a : Act} {w : World} (hr : Region.ready .any ops listed = [n]) (hi : ops[n]? = some o) (hd : Region.ready .any ops (listed.setIfInBounds n true) = [])
    (h : ∀ K : Act → World → Prop, (∀ a' w', Q .normal a' w' → K a' w') →
      if Region.wanted o (yielded ops a.tmps) = true then Oper.wp P o a w K Q else K (a.put o.dst undef) w) : Inv ops n listed → AnyE P ops Q S n (f + 1) listed a w := fun _ =>
  ⟨fun h0 => absurd (hr ▸ h0) (by simp), fun j hj => by
    have hj' : j = n := by rw [hr] at hj; simpa using hj
    subst hj'
    refine wpOp_step hi fun K hK => h K fun a' w' hq => hK a' w' ⟨fun x => absurd rfl x, ?_⟩
    cases f with
    | zero => exact ⟨hd, hq⟩
    | succ f => exact ⟨fun _ => hq, by rw [hd]; exact fun _ h => absurd h List.not_mem_nil⟩⟩
theorem takeR {f : Nat} {listed : Array Bool} {a : Act} {w : World} (F : Sink ops n) (i : Nat) {oi : Oper} {v : Value} {S' : World → Prop} (H : RowKit.Hid (S = S')) (hS : S w)
    (h : Inv ops n (listed.setIfInBounds i true) → AnyE P ops Q S n f (listed.setIfInBounds i true) (a.put oi.dst v) w)
    (hi : ops[i]? = some oi := by rfl) (hf : Region.free .any ops listed i = true := by kernel_rfl) (hr : (Region.ready .any ops listed).contains i = true := by kernel_rfl) (hin : decide (i < n) = true := by rfl)
    (hw : Region.wanted oi (yielded ops a.tmps) = true := by rfl)
    (hy : ∀ w, S' w → (execOp a.eval oi).run P w = .ok (.value v) w := by intro w hSw; (try dsimp only at hSw); go_split_ands; (go_simp <;> (try with_reducible rfl)))
    (hQ : ∀ c a w, Q (.panic c) (a.put oi.dst v) w → Q (.panic c) a w := by exact fun _ _ _ h => h) : Inv ops n listed → AnyE P ops Q S n (f + 1) listed a w :=
  takeE F hi hf hr hin hQ hS (Or.inl ⟨hw, fun w h => hy w (by rw [show S = S' from H] at h; exact h)⟩) h
theorem stepQ (i : Nat) {o : Oper} {f : Nat} {listed : Array Bool} {a : Act} {w : World}
    (h : ∀ K : Act → World → Prop, (∀ a' w', S w' → (Inv ops n (listed.setIfInBounds i true) → AnyE P ops Q S n f (listed.setIfInBounds i true) a' w') → K a' w') →
      if Region.wanted o (yielded ops a.tmps) = true then Oper.wp P o a w K Q else K (a.put o.dst undef) w)
    (hr : Region.ready .any ops listed = [i] := by kernel_rfl) (hi : ops[i]? = some o := by rfl) (hin : decide (i < n) = true := by rfl) : Inv ops n listed → AnyE P ops Q S n (f + 1) listed a w :=
  stepE hr hi hin h
theorem startE {id : Nat} {a : Act} {w : World} (hm : P.follows .mixedOrders = true) (n : Nat) (S : World → Prop) (F : Sink ops n) (h : Sink ops n → Inv ops n (Array.replicate ops.size false) → AnyE P ops Q S n ops.size (Array.replicate ops.size false) a w.drew) : (Code.region id ops true).wp P Q a w :=
  wp_region_any hm (AnyE.any _ _ _ _ (h F inv_start))
theorem startQ {id : Nat} {a : Act} {w : World} (n : Nat) (S : World → Prop) (h : Sink ops n → Inv ops n (Array.replicate ops.size false) → AnyE P ops Q S n ops.size (Array.replicate ops.size false) a w.drew)
    (hm : P.follows .mixedOrders = true := by kernel_rfl) (h1 : Region.noSelect ops = true := by kernel_rfl) (h2 : Region.sinkB .any ops n = true := by kernel_rfl) (h3 : Region.chainB .any ops n = true := by kernel_rfl) (h4 : ops.size = n + 1 := by rfl) : (Code.region id ops true).wp P Q a w :=
  startE hm n S ⟨h1, h2, h3, h4⟩ h
end
theorem wanted_op2 {P : Program} {ops : Array Oper} {o : Oper} {a : Act} {w : World} {K : Act → World → Prop} {Q : Exit → Act → World → Prop} {E : Prop} (hg : o.guard = none) (h : Oper.wp P o a w K Q) : if Region.wanted o (yielded ops a.tmps) = true then Oper.wp P o a w K Q else E := by
  rw [if_pos (by simp [Region.wanted, hg])]
  exact h
end Go.Proofs.YtpkmamgleofimaaGreatDoor

namespace Go.Proofs.YtpkmamgleofimaaGreatDoor
open Go.RowKit

section
variable {P : Program} {ops : Array Oper} {Q : Exit → Act → World → Prop} {S : World → Prop} {n : Nat}
theorem stepE2 {i j : Nat} {oi oj : Oper} {f : Nat} {listed : Array Bool} {a : Act} {w : World} (hr : Region.ready .any ops listed = [i, j]) (hi : ops[i]? = some oi) (hj : ops[j]? = some oj) (hin : decide (i < n) = true) (hjn : decide (j < n) = true)
    (h1 : ∀ K : Act → World → Prop, (∀ a' w', S w' → (Inv ops n (listed.setIfInBounds i true) → AnyE P ops Q S n f (listed.setIfInBounds i true) a' w') → K a' w') →
      if Region.wanted oi (yielded ops a.tmps) = true then Oper.wp P oi a w K Q else K (a.put oi.dst undef) w)
    (h2 : ∀ K : Act → World → Prop, (∀ a' w', S w' → (Inv ops n (listed.setIfInBounds j true) → AnyE P ops Q S n f (listed.setIfInBounds j true) a' w') → K a' w') →
      if Region.wanted oj (yielded ops a.tmps) = true then Oper.wp P oj a w K Q else K (a.put oj.dst undef) w) : Inv ops n listed → AnyE P ops Q S n (f + 1) listed a w := fun inv =>
  ⟨fun h0 => absurd (hr ▸ h0) (by simp), fun k hk => by
    have hk' : k = i ∨ k = j := by rw [hr] at hk; simpa using hk
    rcases hk' with rfl | rfl
    · exact wpOp_step hi fun K hK => h1 K fun a' w' hS hA => hK a' w' ⟨fun _ => hS, hA (inv.set hk (of_decide_eq_true hin))⟩
    · exact wpOp_step hj fun K hK => h2 K fun a' w' hS hA => hK a' w' ⟨fun _ => hS, hA (inv.set hk (of_decide_eq_true hjn))⟩⟩
end
theorem rowN_liesX {k' B gk : Nat} {g : Option Nat} {nm : ByteArray} {w : World} {U : PT} (hk : k' ≤ 100) (hn : nm.size ≤ 65536) (hr : w.heap[gk]? = some (.cells (patO U) 45 (0, 0))) (hB : B ≤ gk) (hg : some gk ≠ g) (hU : LiesX B g w U) : LiesX B g w (rowN (k' : Int) nm gk 1 [U]) := by
  intro X hX
  have hlt : gk < w.heap.size := (Array.getElem?_eq_some_iff.1 hr).1
  have hr2 : X.heap[gk]? = some (.cells (patO U) 45 (0, 0)) := (hX gk hB hlt hg).trans hr
  exact rowN_in (row_one hr2 (B := B) hB) (fun x hx => by rw [List.mem_singleton] at hx; subst hx; exact hU X hX) (k' : Int) rfl hk hn
theorem wanted_op {P : Program} {o : Oper} {ops : Array Oper} {a : Act} {w : World} {K : Act → World → Prop} {Q : Exit → Act → World → Prop} {E : Prop} (hg : o.guard = none) (h : Oper.wp P o a w K Q) : if Region.wanted o (yielded ops a.tmps) = true then Oper.wp P o a w K Q else E := by
  rw [if_pos (by simp [Region.wanted, hg])]; exact h
theorem LiesX.setRow {B g : Nat} {w : World} {U : PT} (h : LiesX B (some g) w U) (cs : Array Value) : LiesX B (some g) (w.setRow g cs) U := h.step (by simp) fun i _ _ h3 => setRow_other w g i cs (fun e => h3 (by rw [e]))
theorem piece_end {s : ByteArray} {z a1 gp gk K f k0 : Nat} {o : Int} {w W wr : World} {V q : PT} {t : ByteArray} {RR : Rd PT} (ha : a1 ≤ s.size) (hf : s.size < a1 + f) (hgp : gp < W.heap.size) (hR : Rdr W z s a1 o) (hB : But z w W)
    (hX : W.heap[w.heap.size]? = some (.cells zeroP 45 (0, 0))) (hP : W.heap[gp]? = some (.cells (patO V) 45 (0, 0))) (hk : W.heap[gk]? = some (.cells (patO V) 45 (0, 0))) (hgk : gk ≠ gp) (hlk : w.heap.size + 1 ≤ gk) (hlp : w.heap.size + 1 ≤ gp) (hgz : gp ≠ z)
    (hc : V.can = q) (hL : LiesX (w.heap.size + 1) (some gp) W V) (hE : RR = gvF s f (mkP (K : Int) ⟨#[]⟩ 0 t [q]) a1) (hK : K ≤ 22) (ht : t.size ≤ 65536) (hm : atIn wr z = k0) (hlt : k0 < a1) :
    (∃ (f k : Nat) (q' V' : PT), k ≤ s.size ∧ s.size < k + f ∧ gp + 1 ≤ (W.setRow gp (patO (rowN (K : Int) t gk 1 [V]))).heap.size ∧ Hid (Rdr (W.setRow gp (patO (rowN (K : Int) t gk 1 [V]))) z s k o) ∧ Hid (But z w (W.setRow gp (patO (rowN (K : Int) t gk 1 [V])))) ∧ Hid ((W.setRow gp (patO (rowN (K : Int) t gk 1 [V]))).heap[w.heap.size]? = some (.cells zeroP 45 (0, 0))) ∧ Hid ((W.setRow gp (patO (rowN (K : Int) t gk 1 [V]))).heap[gp]? = some (.cells (patO V') 45 (0, 0))) ∧ Hid (V'.can = q' ∧ LiesX (w.heap.size + 1) (some gp) (W.setRow gp (patO (rowN (K : Int) t gk 1 [V]))) V') ∧ Hid (RR = gvF s f q' k)) ∧
    s.size + 1 - atIn (W.setRow gp (patO (rowN (K : Int) t gk 1 [V]))) z < s.size + 1 - atIn wr z := by
  have hR2 := hR.setRow hgz (patO (rowN (K : Int) t gk 1 [V]))
  refine ⟨⟨f, a1, mkP (K : Int) ⟨#[]⟩ 0 t [q], rowN (K : Int) t gk 1 [V], ha, hf, by rw [show (W.setRow gp (patO (rowN (K : Int) t gk 1 [V]))).heap.size = W.heap.size by simp]; exact hgp, hR2, but_setRow hB (by omega) _, (setRow_other W gp _ _ (by omega)).trans hX, setRow_heap _ _ _ _ _ _ hP, ⟨?_, ?_⟩, hE⟩, ?_⟩
  · rw [rowN_can, List.map_cons, List.map_nil, hc]
  · exact rowN_liesX (by omega) ht ((setRow_other W gp gk _ hgk).trans hk) hlk (fun e => hgk (by injection e)) (hL.setRow _)
  · rw [hR2.at, hm]; omega
theorem gvK_le (b : Nat) : gvK b ≤ 22 := by unfold gvK; split <;> (try split) <;> omega
theorem gvF_step (s : ByteArray) (f : Nat) (p : PT) (i : Nat) : gvF s (f + 1) p i = if gvK (nx s i) = 0 then .ok (p, sk s i) else bnd (nmP s (sk s i + 1)) fun t e => gvF s f (mkP (gvK (nx s i)) ⟨#[]⟩ 0 t [p]) e := rfl
set_option maxRecDepth 100000 in
set_option maxHeartbeats 4000000 in
theorem piece_any {d : Nat} {B : ByteArray → Nat → Rd PT} (hB : ∀ s, Adv s (B s)) (HBA : Says 137 d (fun s => baP d (B s) s)) : Says 132 d (fun s => piP d (B s) s) := by
  intro s i z w hs hi hR hS hzG
  have hzl := hR.lt
  have hb0 : But z w (w.alloc (.cells zeroP 45)) := (But.refl z w).alloc _
  have hR0 := hR.below ((Below.refl _ _).alloc (Nat.le_refl _) (.cells zeroP 45))
  have hne : w.heap.size ≠ z := by omega
  have HB0 := hide hb0
  have HX0 : Hid ((w.alloc (.cells zeroP 45)).heap[w.heap.size]? = some (.cells zeroP 45 (0, 0))) := hide (zbox)
  have HC : Hid (Calls Tryz.prog 137 #[.pointer (some ⟨z, 0, none⟩)] (w.alloc (.cells zeroP 45)) fun e w' => RdPost (patL (w.alloc (.cells zeroP 45)).heap.size) z s ((200 - d : Nat) : Int) (w.alloc (.cells zeroP 45)) (baP d (B s) s i) e w') := hide (HBA s i z _ hs hi hR0 (hS.but hb0 hzG) hzG)
  show Calls _ _ _ _ fun e w' => RdPost (patL w.heap.size) z s ((200 - d : Nat) : Int) w (piP d (B s) s i) e w'
  have HRR : Hid (piP d (B s) s i = bnd (baP d (B s) s i) fun p j => gvF s (s.size + 1) p j) := hide (rfl)
  have HAD := hide (fun x j => baP_adv (d := d) (hB s) i x j hi)
  generalize piP d (B s) s i = RR at *
  generalize ((200 - d : Nat) : Int) = o at *
  generalize baP d (B s) s i = RB at *
  clear hb0 hR0 hR hS HBA hB
  rcases RB with ⟨er, a1⟩ | ⟨p0, j0⟩
  · have HRE : Hid (RR = .error (er, a1)) := hide (by rw [unhide HRR, bnd_err])
    go_enter Tryz.func132, Tryz.ntmps132
    go_wp2_with (refine (unhide HC).mono ?_; intro e w3 hP; obtain ⟨hb3, rfl⟩ := of_err hP rfl; clear hP; have HB3 := hide ((unhide HB0).trans hb3); clear hb3; unfold thr)
    exact ⟨rfl, post_err (unhide HRE) (unhide HB3) rfl⟩
  · have HR1 : Hid (RR = gvF s (s.size + 1) p0 j0) := hide (by rw [unhide HRR, bnd_ok])
    have hadv := unhide HAD p0 j0 rfl
    clear HRR HAD
    go_enter Tryz.func132, Tryz.ntmps132
    go_wp2_with fail
    refine (unhide HC).mono ?_
    intro e w1 hP
    obtain ⟨hb1, ⟨U, rfl, hU, hL⟩, hRd1⟩ := of_ok hP rfl
    rw [World.size_alloc] at hL
    have hs1 : w.heap.size + 1 ≤ w1.heap.size := by have := hb1.size; rw [World.size_alloc] at this; exact this
    have HB1 := hide ((unhide HB0).trans hb1)
    have HX1 := hide (but_z hb1 (unhide HX0) hne)
    have H1 := hide hRd1
    have HU := hide (And.intro hU hL)
    clear hP hb1 hRd1 hU hL HC
    have hb2 : Below w1.heap.size w1 (w1.alloc (.cells (patO U) 45)) := ba _
    have HB2 := hide ((unhide HB1).trans (But.of_below hb2))
    have HX2 := hide (row_below (unhide HX1) hb2)
    have H2 := hide ((unhide H1).below hb2)
    have HP2 : Hid ((w1.alloc (.cells (patO U) 45)).heap[w1.heap.size]? = some (.cells (patO U) 45 (0, 0))) := hide (at_new rfl)
    have HL2 := hide ((unhide HU).2.newrow (Nat.le_refl _) (.cells (patO U) 45))
    have hgz : w1.heap.size ≠ z := by omega
    clear hb2
    have hsz2 : (w1.alloc (.cells (patO U) 45)).heap.size = w1.heap.size + 1 := World.size_alloc _ _
    unfold pv
    go_wp2_with fail
    rw [show (#[.int .i64 U.k, .string U.t, .int .i64 U.n, .string U.nm, .slice U.xa U.len U.cap] : Array Value) = patO U from rfl]
    generalize (w1.alloc (.cells (patO U) 45)) = w2 at *
    clear H1 HB1 HX1
    generalize w1.heap.size = gp at *
    go_loopw [] (fun wr => ∃ (f k : Nat) (q V : PT), k ≤ s.size ∧ s.size < k + f ∧ gp + 1 ≤ wr.heap.size ∧ Hid (Rdr wr z s k o) ∧ Hid (But z w wr) ∧ Hid (wr.heap[w.heap.size]? = some (.cells zeroP 45 (0, 0))) ∧ Hid (wr.heap[gp]? = some (.cells (patO V) 45 (0, 0))) ∧ Hid (V.can = q ∧ LiesX (w.heap.size + 1) (some gp) wr V) ∧ Hid (RR = gvF s f q k)) (fun wr => s.size + 1 - atIn wr z)
    case atStart => exact ⟨s.size + 1, j0, p0, U, hadv.2, by omega, by omega, unhide H2, unhide HB2, unhide HX2, unhide HP2, ⟨(unhide HU).1, unhide HL2⟩, unhide HR1⟩
    case round =>
      obtain ⟨f, k, q, V, hk, hf, hgr, HR, HB, HX, HP, HV, HE⟩ := hrel
      have hks := sk_le s k hk
      have HN := hide (next_any wr hs hk (unhide HR))
      have HG := hide (giving_any (nx s k))
      have HM := hide (unhide HR).at
      have hf0 : f ≠ 0 := by omega
      obtain ⟨f', rfl⟩ : ∃ f', f = f' + 1 := ⟨f - 1, by omega⟩
      have HE2 := hide ((unhide HE).trans (gvF_step s f' q k))
      have hK22 := gvK_le (nx s k)
      have HLT := hide (fun (h : gvK (nx s k) ≠ 0) => nx_in (s := s) (i := k) (fun z => h (by rw [z]; rfl)))
      have HNM := hide (fun w h1 h2 => name_any (s := s) (i := sk s k + 1) (z := z) (o := o) w hs h1 h2)
      have HNA := hide (fun t e h => nmP_adv s (sk s k + 1) t e h)
      clear H2 HB2 HX2 HP2 HU HL2 HR1 HE
      generalize nx s k = b at *
      generalize gvK b = K at *
      generalize sk s k = m at *
      by_cases hK0 : K = 0
      · have HE3 : Hid (RR = .ok (q, m)) := hide (by rw [unhide HE2, if_pos hK0])
        have e0 : ((K : Int) == 0) = true := bt
        clear HE2 hK0 HNM HNA HLT
        go_wp2_with fail
        refine (unhide HN).mono ?_
        rintro e w3 ⟨rfl, hb3, hR3⟩
        have HX3 := hide (but_z hb3 (unhide HX) hne)
        have HP3 := hide (but_z hb3 (unhide HP) (by omega))
        have HB3 := hide ((unhide HB).trans hb3)
        have HV3 := hide ((unhide HV).2.but hb3 (by omega))
        have H3 := hide hR3
        clear hb3 hR3
        go_wp2_with fail
        refine (unhide HG _).mono ?_
        rintro e w3 ⟨rfl, rfl⟩
        obtain ⟨x0, x1, x2, x3, x4⟩ := pats5s (unhide HP3)
        go_wp2_with (first
          | (refine wpList_store_row rfl 45 _ _ rfl w.heap.size (patO V) rfl rfl 45 zeroP (unhide HX3) size_pat rfl (patO_oneC _) ?_)
          | fail)
        (try simp only [Exit.inBlock, Exit.then])
        refine bodyPost_ret (results_cell_row rfl _ _ w.heap.size 45 (patO V) (0, 0) _ rfl (setRow_heap _ _ _ _ _ _ (unhide HX3)) Tryz.underlying45 rfl size_pat) rfl ?_
        exact post_ok (unhide HE3) (but_setRow (unhide HB3) (Nat.le_refl _) _) ⟨V, rfl, (unhide HV).1, ((unhide HV3).lies.setRow (by omega) _).mono (by omega)⟩ ((unhide H3).setRow hne _)
      · have e0 : ((K : Int) == 0) = false := bn
        have HE3 : Hid (RR = bnd (nmP s (m + 1)) fun t e => gvF s f' (mkP K ⟨#[]⟩ 0 t [q]) e) := hide (by rw [unhide HE2, if_neg hK0])
        have hmlt := unhide HLT hK0
        have HNM2 := hide (fun w h => unhide HNM w (by omega) h)
        have HNA2 := hide (fun t e h => unhide HNA t e (by omega) h)
        clear HE2 HNM HNA HLT hK0
        go_wp2_with fail
        refine (unhide HN).mono ?_
        rintro e w3 ⟨rfl, hb3, hR3⟩
        have hbs := hb3.trans ((But.refl z w3).setCell 1 (.int .i64 ((m + 1 : Nat) : Int)))
        have HX3 := hide (but_z hbs (unhide HX) hne)
        have HP3 := hide (but_z hbs (unhide HP) (by omega))
        have HB3 := hide ((unhide HB).trans hbs)
        have HV3 := hide ((unhide HV).2.but hbs (by omega))
        have H3 := hide (hR3.set1 (m + 1))
        have c1 := hR3.c1
        have fz := hR3.fz 1
        have hs3 := hb3.size
        clear hb3 hR3 hbs
        go_wp2_with fail
        refine (unhide HG _).mono ?_
        rintro e w3 ⟨rfl, rfl⟩
        go_wp2_with fail
        have HSZ : Hid ((w3.setCell ⟨z, 1, none⟩ (.int .i64 ((m : Int) + 1))).heap.size = w3.heap.size) := hide (by simp)
        rw [show ((m + 1 : Nat) : Int) = (m : Int) + 1 from rfl] at H3 HB3 HX3 HP3 HV3
        generalize w3.setCell ⟨z, 1, none⟩ (.int .i64 ((m : Int) + 1)) = w4 at *
        have hs4 : gp + 1 ≤ w4.heap.size := by have := unhide HSZ; omega
        obtain ⟨x0, x1, x2, x3, x4⟩ := pats5s (unhide HP3)
        clear c1 fz
        obtain ⟨RN, hRN⟩ : ∃ RN, nmP s (m + 1) = RN := ⟨_, rfl⟩
        rw [hRN] at HNM2 HNA2 HE3
        have HRN := hide hRN
        clear hRN
        rcases RN with ⟨er, a1⟩ | ⟨t, a1⟩
        · have HE4 : Hid (RR = .error (er, a1)) := hide (by rw [unhide HE3, bnd_err])
          have HNM3 := hide (fun W (hb : Below w4.heap.size w4 W) => (unhide HNM2 W ((unhide H3).below hb)).mono (R' := fun e w' => e = thr er a1 ∧ But z w4 w') fun e w' hP => ⟨(of_err hP rfl).2, (But.of_below hb).trans (of_err hP rfl).1⟩)
          clear HNM2
          obtain ⟨S0, hS0⟩ : ∃ S0 : World → Prop, S0 = fun w' => w'.cell? ⟨gp, 0, none⟩ = some (.int .i64 V.k) ∧ w'.cell? ⟨gp, 1, none⟩ = some (.string V.t) ∧ w'.cell? ⟨gp, 2, none⟩ = some (.int .i64 V.n) ∧ w'.cell? ⟨gp, 3, none⟩ = some (.string V.nm) ∧ w'.cell? ⟨gp, 4, none⟩ = some (.slice V.xa V.len V.cap) := ⟨_, rfl⟩
          have HS0 := hide hS0
          have hS : S0 w4.drew := by rw [hS0]; exact ⟨x0, x1, x2, x3, x4⟩
          have HKE : Hid (∀ W, W.heap[gp]? = some (.cells (patO V) 45 (0, 0)) → S0 W) := hide (fun W h => by rw [hS0]; exact pats5s h)
          clear hS0
          refine startQ 6 S0 ?_
          intro F
          refine takeR F 0 HS0 hS ?_
          (try go_frame)
          refine takeR F 1 HS0 hS ?_
          (try go_frame)
          refine takeR F 3 HS0 hS ?_
          (try go_frame)
          refine stepE2 (i := 2) (j := 4) (by kernel_rfl) rfl rfl (by rfl) (by rfl) (fun K2 hK2 => ?_) (fun K2 hK2 => ?_)
          · go_simp
            refine (unhide HNM3 _ (Below.refl _ _).drew).mono ?_
            rintro e w5 ⟨rfl, hb5⟩
            have HB5 := hide ((unhide HB3).trans hb5)
            clear hb5
            unfold thr
            exact ⟨rfl, post_err (unhide HE4) (unhide HB5) rfl⟩
          · go_simp
            have hbA : Below w4.heap.size w4 (w4.alloc (.cells (patO V) 45)).drew := (ba _).drew
            refine hK2 _ _ (unhide HKE _ (row_below (unhide HP3) hbA)) ?_
            refine stepQ 2 (fun K3 hK3 => ?_)
            go_simp
            refine (unhide HNM3 _ hbA).mono ?_
            rintro e w5 ⟨rfl, hb5⟩
            have HB5 := hide ((unhide HB3).trans hb5)
            clear hb5
            unfold thr
            exact ⟨rfl, post_err (unhide HE4) (unhide HB5) rfl⟩
        · have HNM3 := hide (fun W (hb : Below w4.heap.size w4 W) => (unhide HNM2 W ((unhide H3).below hb)).mono (R' := fun e w' => e = .returned (.string t) ∧ But z W w' ∧ Rdr w' z s a1 o) fun e w' hP => ⟨(of_ok hP rfl).2.1, (of_ok hP rfl).1, (of_ok hP rfl).2.2⟩)
          have HEO : Hid (RR = gvF s f' (mkP K ⟨#[]⟩ 0 t [q]) a1) := hide (by rw [unhide HE3, bnd_ok])
          have hadv5 := unhide HNA2 t a1 rfl
          have HTL := hide (nmP_le hs (unhide HRN))
          clear HNM2
          obtain ⟨S0, hS0⟩ : ∃ S0 : World → Prop, S0 = fun w' => w'.cell? ⟨gp, 0, none⟩ = some (.int .i64 V.k) ∧ w'.cell? ⟨gp, 1, none⟩ = some (.string V.t) ∧ w'.cell? ⟨gp, 2, none⟩ = some (.int .i64 V.n) ∧ w'.cell? ⟨gp, 3, none⟩ = some (.string V.nm) ∧ w'.cell? ⟨gp, 4, none⟩ = some (.slice V.xa V.len V.cap) := ⟨_, rfl⟩
          have HS0 := hide hS0
          have hS : S0 w4.drew := by rw [hS0]; exact ⟨x0, x1, x2, x3, x4⟩
          have HKE : Hid (∀ W, W.heap[gp]? = some (.cells (patO V) 45 (0, 0)) → S0 W) := hide (fun W h => by rw [hS0]; exact pats5s h)
          clear hS0
          refine startQ 6 S0 ?_
          intro F
          refine takeR F 0 HS0 hS ?_
          (try go_frame)
          refine takeR F 1 HS0 hS ?_
          (try go_frame)
          refine takeR F 3 HS0 hS ?_
          (try go_frame)
          refine stepE2 (i := 2) (j := 4) (by kernel_rfl) rfl rfl (by rfl) (by rfl) (fun K2 hK2 => ?_) (fun K2 hK2 => ?_)
          · go_simp
            refine (unhide HNM3 _ (Below.refl _ _).drew).mono ?_
            rintro e w5 ⟨rfl, hb5, hR5⟩
            have hbw : But z w4 w5 := (But.of_below (Below.refl _ _).drew).trans hb5
            have HP5 := hide (but_z hbw (unhide HP3) hgz)
            refine hK2 _ _ (unhide HKE _ (unhide HP5)) ?_
            clear hS
            have hS : S0 w5 := unhide HKE _ (unhide HP5)
            refine stepQ 4 (fun K3 hK3 => ?_)
            go_simp
            have hbA : Below w5.heap.size w5 (w5.alloc (.cells (patO V) 45)) := ba _
            refine hK3 _ _ (unhide HKE _ (row_below (unhide HP5) hbA)) ?_
            clear hS
            have hS : S0 (w5.alloc (.cells (patO V) 45)) := unhide HKE _ (row_below (unhide HP5) hbA)
            refine stepQ 5 (fun K5 hK5 => ?_)
            go_simp
            refine hK5 _ _ hS ?_
            refine lastE (by kernel_rfl) rfl (by kernel_rfl) (fun K4 hK4 => ?_)
            refine wanted_op rfl (wp_store_row 45 (.tmp 3) (.tmp 25) rfl gp (patO (rowN (K : Int) t w5.heap.size 1 [V])) rfl rfl 45 (patO V) (row_below (unhide HP5) hbA) size_pat rfl (patO_oneC _) ?_)
            refine hK4 _ _ ?_
            (try simp only [List.getElem_toArray, List.getElem_cons_succ, List.getElem_cons_zero])
            (try go_frame)
            have HEND := hide (piece_end (K := K) (f := f') (gk := w5.heap.size) (t := t) (wr := wr) (by omega) (by omega) (by rw [World.size_alloc]; have := hbw.size; omega) (hR5.below hbA) ((unhide HB3).trans (hbw.trans (But.of_below hbA))) (row_below (but_z hbw (unhide HX3) hne) hbA) (row_below (unhide HP5) hbA) (at_new rfl) (by have := hbw.size; omega) (by have := hbw.size; omega) (by omega) hgz (unhide HV).1 (((unhide HV3).but hbw (by omega)).below hbA) (unhide HEO) (by omega) (unhide HTL) (unhide HM) (by omega))
            clear hK5 K5 hK4 hK3 hK2 K4 K3 K2 F hS HS0 HKE hb5 hR5 hbw hbA
            go_wp2_with fail
            exact unhide HEND
          · go_simp
            have hbA : Below w4.heap.size w4 (w4.alloc (.cells (patO V) 45)).drew := (ba _).drew
            refine hK2 _ _ (unhide HKE _ (row_below (unhide HP3) hbA)) ?_
            refine stepQ 2 (fun K3 hK3 => ?_)
            go_simp
            refine (unhide HNM3 _ hbA).mono ?_
            rintro e w5 ⟨rfl, hb5, hR5⟩
            have hbw : But z w4 w5 := (But.of_below hbA).trans hb5
            have HP5 := hide (but_z hbw (unhide HP3) hgz)
            have HK5 := hide (but_z hb5 (show (w4.alloc (.cells (patO V) 45)).drew.heap[w4.heap.size]? = some (.cells (patO V) 45 (0, 0)) from at_new rfl) (by omega))
            refine hK3 _ _ (unhide HKE _ (unhide HP5)) ?_
            clear hS
            have hS : S0 w5 := unhide HKE _ (unhide HP5)
            refine stepQ 5 (fun K5 hK5 => ?_)
            go_simp
            refine hK5 _ _ hS ?_
            refine lastE (by kernel_rfl) rfl (by kernel_rfl) (fun K4 hK4 => ?_)
            refine wanted_op rfl (wp_store_row 45 (.tmp 3) (.tmp 25) rfl gp (patO (rowN (K : Int) t w4.heap.size 1 [V])) rfl rfl 45 (patO V) (unhide HP5) size_pat rfl (patO_oneC _) ?_)
            refine hK4 _ _ ?_
            (try simp only [List.getElem_toArray, List.getElem_cons_succ, List.getElem_cons_zero])
            (try go_frame)
            have HEND := hide (piece_end (K := K) (f := f') (gk := w4.heap.size) (t := t) (wr := wr) (by omega) (by omega) (by have := hbw.size; omega) hR5 ((unhide HB3).trans hbw) (but_z hbw (unhide HX3) hne) (unhide HP5) (unhide HK5) (by omega) (by omega) (by omega) hgz (unhide HV).1 ((unhide HV3).but hbw (by omega)) (unhide HEO) (by omega) (unhide HTL) (unhide HM) (by omega))
            clear hK5 K5 hK4 hK3 hK2 K4 K3 K2 F hS HS0 HKE hb5 hR5 hbw hbA
            go_wp2_with fail
            exact unhide HEND
end Go.Proofs.YtpkmamgleofimaaGreatDoor
