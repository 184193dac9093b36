/- The document's walk over signs: words. -/
import Derived.Test.YtimbfelbalfmiaaDoorRsH
import Derived.Test.YtimbfelbalfmiaaDoorRefIn4
import Derived.Test.YtimbfelbalfmiaaDoorRefWord4
namespace Go.Proofs.YtimbfelbalfmiaaDoor
open Go.RowKit

/-- The last of the kinds up to a number whose word a text is. -/
def lw (t : ByteArray) : Nat → Nat
  | 0 => 0
  | n + 1 => if 2 ≤ n + 1 ∧ wordK (n + 1) = t then n + 1 else lw t n
theorem lw_step (t : ByteArray) (n : Nat) : lw t (n + 1) = if 2 ≤ n + 1 ∧ wordK (n + 1) = t then n + 1 else lw t n := rfl
theorem lw_le (t : ByteArray) : ∀ n, lw t n ≤ n
  | 0 => Nat.le_refl _
  | n + 1 => by have := lw_le t n; rw [lw_step]; split <;> omega
theorem lw_two (t : ByteArray) : ∀ n, lw t n = 0 ∨ 2 ≤ lw t n
  | 0 => .inl rfl
  | n + 1 => by have := lw_two t n; rw [lw_step]; split <;> omega
theorem is_has {K : Nat} (h1 : 2 ≤ K) (h2 : K ≤ 20) : (isText (K : Int) = true ↔ hasK K = 1) ∧ (isNum (K : Int) = true ↔ hasK K = 2) := by
  unfold isText isNum hasK
  simp only [decide_eq_true_eq, List.mem_cons, List.not_mem_nil, or_false]
  constructor <;> constructor <;> (intro h; first | (split <;> (try split) <;> (try split) <;> omega) | (split at h <;> (try split at h) <;> (try split at h) <;> omega))
theorem lw_none (t : ByteArray) : ∀ n, (∀ K, 1 ≤ K → K ≤ n → wordK K ≠ t) → lw t n = 0
  | 0, _ => rfl
  | n + 1, h => by rw [lw_step, if_neg (fun q => h (n + 1) (by omega) (Nat.le_refl _) q.2)]; exact lw_none t n fun K h1 h2 => h K h1 (by omega)
theorem kw_none (t : ByteArray) : ∀ n, (∀ K, 1 ≤ K → K ≤ n → wordK K ≠ t) → kwUp t n = 0
  | 0, _ => rfl
  | n + 1, h => by
    have := kw_none t n fun K h1 h2 => h K h1 (by omega)
    rw [kwUp, if_neg (by omega), if_neg (h (n + 1) (by omega) (Nat.le_refl _))]
set_option maxRecDepth 100000 in
theorem lw_kind (t : ByteArray) (ht : t.size ≠ 0) : lw t 20 = kindW t := by
  by_cases h : ∃ K, 1 ≤ K ∧ K ≤ 24 ∧ wordK K = t
  · obtain ⟨K, h1, h2, rfl⟩ := h
    have h : K = 1 ∨ K = 2 ∨ K = 3 ∨ K = 4 ∨ K = 5 ∨ K = 6 ∨ K = 7 ∨ K = 8 ∨ K = 9 ∨ K = 10 ∨ K = 11 ∨ K = 12 ∨ K = 13 ∨ K = 14 ∨ K = 15 ∨ K = 16 ∨ K = 17 ∨ K = 18 ∨ K = 19 ∨ K = 20 ∨ K = 21 ∨ K = 22 ∨ K = 23 ∨ K = 24 := by omega
    clear h1 h2
    rcases h with rfl | rfl | rfl | rfl | rfl | rfl | rfl | rfl | rfl | rfl | rfl | rfl | rfl | rfl | rfl | rfl | rfl | rfl | rfl | rfl | rfl | rfl | rfl | rfl
    all_goals first
      | exact absurd rfl ht
      | rfl
  · have h' : ∀ K, 1 ≤ K → K ≤ 24 → wordK K ≠ t := fun K h1 h2 q => h ⟨K, h1, h2, q⟩
    unfold kindW
    rw [kw_none t 24 h', lw_none t 20 fun K h1 h2 => h' K h1 (by omega)]
theorem ba_ne {a b : ByteArray} (h : a ≠ b) : (a.toList == b.toList) = false := by
  rw [beq_eq_false_iff_ne]
  intro e
  apply h
  rw [ByteArray.toList_eq, ByteArray.toList_eq] at e
  exact ByteArray.ext (Array.toList_inj.1 e)
/-- What a word is read as, by its kind. -/
structure WoP (d : Nat) (B : Nat → Rd PT) (s : ByteArray) (j j2 K : Nat) (R : Rd PT) : Prop where
  no : K = 0 → R = .error (7, j)
  arb : K = 20 → R = bnd (parP d B s j2) fun p m => .ok (mkP 20 ⟨#[]⟩ 0 ⟨#[]⟩ [p], m)
  num : K ≠ 0 → K ≠ 20 → hasK K = 2 → R = bnd (takP s 40 j2) fun _ a => bnd (nuP s a) fun n b => bnd (takP s 41 b) fun _ c => .ok (mkP K ⟨#[]⟩ n ⟨#[]⟩ [], c)
  txt : K ≠ 0 → K ≠ 20 → hasK K ≠ 2 → hasK K = 1 → R = bnd (takP s 40 j2) fun _ a => bnd (fiP s a) fun t b => bnd (takP s 41 b) fun _ c => .ok (mkP K t 0 ⟨#[]⟩ [], c)
  leaf : K ≠ 0 → K ≠ 20 → hasK K ≠ 2 → hasK K ≠ 1 → R = .ok (mkP K ⟨#[]⟩ 0 ⟨#[]⟩ [], j2)
theorem woP_of {d : Nat} {B : Nat → Rd PT} {s : ByteArray} {j K : Nat} (h : kindW (s.extract j (wdE s j)) = K) : WoP d B s j (wdE s j) K (woP d B s j) := by
  unfold woP
  rw [h]
  refine ⟨fun a => if_pos a, fun a => ?_, fun a b c => ?_, fun a b c e => ?_, fun a b c e => ?_⟩
  · rw [if_neg (by omega), if_pos a]
  · rw [if_neg a, if_neg b, if_pos c]
  · rw [if_neg a, if_neg b, if_neg c, if_pos e]
  · rw [if_neg a, if_neg b, if_neg c, if_neg e]
theorem but_cellN {w W : World} {z g k : Nat} {v : Value} (h : But z w W) (hg : w.heap.size ≤ g) : But z w (W.setCell ⟨g, k, none⟩ v) :=
  ⟨h.os, h.tape, h.output, by simpa using h.size, fun i hi hz => (heap_setCell_other W ⟨g, k, none⟩ i v (show i ≠ g by omega)).trans (h.block i hi hz)⟩
theorem Wk.cellN {w : World} {z n k : Nat} {s : ByteArray} {l : List Sg} {d er a : Int} {v : Value} (h : Wk w z s l d er a) (hz : z < n) : Wk (w.setCell ⟨n, k, none⟩ v) z s l d er a := h.other fun i hi => heap_setCell_other w ⟨n, k, none⟩ i v (show i ≠ n by omega)
theorem WkB.cellN {w : World} {z n k : Nat} {s : ByteArray} {d er a : Int} {v : Value} (h : WkB w z s d er a) (hz : z < n) : WkB (w.setCell ⟨n, k, none⟩ v) z s d er a := by obtain ⟨x, r, h⟩ := h; exact ⟨x, r, h.cellN hz⟩
theorem rowN_liesW {k' B gk : Nat} {g : Option Nat} {nm : ByteArray} {w : World} {U : PT} (hk : k' ≤ 100) (hn : nm.size ≤ 65536) (hr : w.heap[gk]? = some (.cells (patO U) 24 (0, 0))) (hB : B ≤ gk) (hg : some gk ≠ g) (hU : LiesX B g w U) : LiesX B g w (rowN (k' : Int) nm gk 1 [U]) := by
  intro X hX
  have hlt : gk < w.heap.size := (Array.getElem?_eq_some_iff.1 hr).1
  have hr2 : X.heap[gk]? = some (.cells (patO U) 24 (0, 0)) := (hX gk hB hlt hg).trans hr
  exact rowN_in (row_one hr2 (B := B) hB) (fun x hx => by rw [List.mem_singleton] at hx; subst hx; exact hU X hX) (k' : Int) rfl hk hn
/-- The bracket behind what stands in it. -/
theorem last_take {z : Nat} {s : ByteArray} {dd : Int} {w W1 : World} {RR : Rd PT} {V : PT} (hdd : dd ≤ 201) (h : (∃ b q, b ≤ s.size ∧ Wk W1 z s (sgs s b) dd 0 0 ∧ RR = bnd (takP s 41 b) (fun _ m => .ok (q, m)) ∧ V.can = q ∧ ∀ W, Lies w.heap.size W V) ∨ (∃ er a D, dd ≤ D ∧ D ≤ 201 ∧ WkB W1 z s D er (a : Nat) ∧ er ≠ 0 ∧ RR = .error (er, a))) :
    ∃ P : World → Prop, (∀ w' n cs, P w' → z < n → P (w'.setRow n cs)) ∧ (∀ w', P w' → But z w w' → WPost (patL w.heap.size) patV0 z s dd w RR (.returned (pv V)) w') ∧ Calls Tryd.prog 19 #[.pointer (some ⟨z, 0, none⟩), .int .i64 41] W1 fun e w' => (∃ x, e = .returned (sgE x)) ∧ But z W1 w' ∧ P w' := by
  rcases h with ⟨b, q, hb, hW, hR, hc, hl⟩ | ⟨er, a, D, h1, h2, hW, he, hR⟩
  · by_cases h41 : nx s b = 41
    · refine ⟨fun w' => Wk w' z s (sgs s (sk s b + 1)) dd 0 0, fun w' n cs h hn => h.box hn, fun w' h hb => ?_, ?_⟩
      · exact wpost_ok (by rw [hR, takP_ok h41, bnd_ok]) hb ⟨V, rfl, hc, hl _⟩ h
      · exact (wtk_ok hb hW 41 h41 (by decide) (by decide) (by decide) (by decide) (by decide)).mono fun e w' q => ⟨⟨_, q.1⟩, q.2⟩
    · refine ⟨fun w' => WkB w' z s dd 2 (sk s b), fun w' n cs h hn => h.box hn, fun w' h hb => ?_, ?_⟩
      · exact wpost_err (by rw [hR, takP_no h41, bnd_err]) hb ⟨V, rfl⟩ (Int.le_refl _) hdd h
      · exact wtk_no hb hW 41 h41 (by decide)
  · exact ⟨fun w' => WkB w' z s D er a, fun w' n cs h hn => h.box hn, fun w' h hb => wpost_err hR hb ⟨V, rfl⟩ h1 h2 h he, wtake_bad hW he⟩
theorem nuP_sm {s : ByteArray} {i n b : Nat} (h : nuP s i = .ok (n, b)) : n ≤ 65537 := by
  unfold nuP at h
  split at h
  · split at h
    · cases h
    · split at h
      · cases h
      · injection h with h; injection h with h _; rw [← h]; exact capUp_le _ _ _
  · cases h
section
variable {d : Nat} {B : ByteArray → Nat → Rd PT} {s : ByteArray} {i z : Nat} {w : World}
set_option maxRecDepth 100000 in
set_option maxHeartbeats 8000000 in
theorem wpiece_wrd (hd : d ≤ 200) (hB : ∀ s, Adv s (B s)) (HA : 0 < d → WSays 10 (d - 1) B) (hs : s.size ≤ 65536) (hi : i ≤ s.size) (hW : Wk w z s (sgs s i) ((200 - d : Nat) : Int) 0 0) (hl : letterN (nx s i) = true) :
    Calls Tryd.prog 28 #[.pointer (some ⟨z, 0, none⟩)] w fun e w' => WPost (patL w.heap.size) patV0 z s ((200 - d : Nat) : Int) w (baP d (B s) s i) e w' := by
  have hdd : ((200 - d : Nat) : Int) ≤ 201 := by omega
  have hzl := hW.lt
  have hb0 : Below w.heap.size w (w.alloc (.cells zeroP 24)) := (Below.refl _ _).alloc (Nat.le_refl _) _
  have HX0 := hide (show (w.alloc (.cells zeroP 24)).heap[w.heap.size]? = some (.cells zeroP 24 (0, 0)) from zbox)
  have hn39 := (let_in hl).2
  have hr9 : 65 ≤ nx s i ∧ nx s i ≤ 90 := of_decide_eq_true hl
  have hE := wdE_adv (s := s) (j := sk s i) hl
  have hsz := ext_size s (Nat.le_of_lt hE.1) hE.2
  have HRR := hide (show baP d (B s) s i = woP d (B s) s (sk s i) by unfold baP; rw [if_neg hn39, if_neg (by omega), if_neg (by omega), if_neg (by omega), if_pos hl])
  have HT := hide (wtw_ok hi (hW.below hb0) hl)
  obtain ⟨x, r, hx⟩ := sgs_ne (s := s) hi
  have hk : x.k = 303 := by rw [sgs_wrd hi hl] at hx; injection hx with hx _; rw [← hx]
  have hW2 := hW
  rw [hx] at hW2
  obtain ⟨g, o, n, cap, c0, x0, -, hgl, hnc, hmax, -⟩ := hW2.first
  rw [hk] at x0
  simp only [Int.cast_ofNat_Int] at x0
  unfold maxLen at hmax
  have HKD := hide (lw_kind (s.extract (sk s i) (wdE s (sk s i))) (by omega))
  have HWO := hide (woP_of (d := d) (B := B s) (unhide HKD).symm)
  have HDE := hide (fun w j hj hw x hx => wdeeper_any hd hB HA s j z w hs hj hw x hx)
  clear hW hW2 hx hk hb0 HKD hn39 hr9 hl hd HA
  generalize ((200 - d : Nat) : Int) = dd at *
  generalize baP d (B s) s i = RR at *
  generalize woP d (B s) s (sk s i) = RW at *
  have HTZ := hide (show (s.extract (sk s i) (wdE s (sk s i))).size ≤ 65536 by omega)
  generalize s.extract (sk s i) (wdE s (sk s i)) = t at *
  generalize wdE s (sk s i) = j2 at *
  generalize sk s i = j at *
  clear hsz
  go_enter Tryd.func28, Tryd.ntmps28
  go_wp2_with fail
  refine (unhide HT).mono ?_
  rintro e w1 ⟨rfl, hb1, hW1⟩
  have hs1 := hb1.size
  rw [World.size_alloc] at hs1
  obtain ⟨w2, hw2⟩ : ∃ w2, w2 = w1.alloc (.cells #[.int .i64 303, .string t, .int .i64 (j : Int), .int .i64 (j2 : Int)] 42) := ⟨_, rfl⟩
  have hb2 : Below w1.heap.size w1 w2 := by rw [hw2]; exact (Below.refl _ _).alloc (Nat.le_refl _) _
  have HX2 := hide (row_below (but_z hb1 (unhide HX0) (by omega)) hb2)
  have HB2 := hide ((((But.refl z w).alloc _).trans hb1).trans (But.of_below hb2))
  have hS2 : w2.heap[w1.heap.size]? = some (.cells #[.int .i64 303, .string t, .int .i64 (j : Int), .int .i64 (j2 : Int)] 42 (0, 0)) := by rw [hw2]; exact at_new rfl
  have HS2 := hide hS2
  obtain ⟨-, c3, -⟩ := hW1.cells
  have hzl1 := hW1.lt
  have hsz2 : w2.heap.size = w1.heap.size + 1 := by rw [hw2, World.size_alloc]
  have HW2 := hide (hW1.below hb2)
  have Hw2 := hide hw2
  clear hb1 hW1 hb2 hw2 hS2
  unfold sgE
  go_wp2_with fail
  rw [show w1.alloc (.cells #[.int .i64 303, .string t, .int .i64 (j : Int), .int .i64 (j2 : Int)] 42) = w2 from (unhide Hw2).symm]
  go_loopw [5, 6] (fun v x wr => ∃ k : Nat, 2 ≤ k ∧ k ≤ 21 ∧ x = .int .i64 (k : Int) ∧ v = .int .i64 (lw t (k - 1) : Int) ∧ Hid (Below w2.heap.size w2 wr)) (fun _ x _ => 21 - (intOf x).toNat)
  case atStart => exact ⟨2, by omega, by omega, rfl, rfl, Below.refl _ _⟩
  case round =>
    obtain ⟨k, hk2, hk21, rfl, rfl, HBR⟩ := hrel
    rcases Nat.lt_or_ge k 21 with hlt | hge
    · have hg : (k : Int) ≤ 20 := by omega
      obtain ⟨-, y1, -, -⟩ := sg4 (row_below (unhide HS2) (unhide HBR))
      have HWA := hide (fun w => word_any k (by omega) (by omega) w)
      have HLW := hide (show lw t k = if 2 ≤ k ∧ wordK k = t then k else lw t (k - 1) by obtain ⟨m, rfl⟩ : ∃ m, k = m + 1 := ⟨k - 1, by omega⟩; exact lw_step t m)
      have hlle := lw_le t (k - 1)
      have hA : Below wr.heap.size wr wr.drew := (Below.refl _ _).drew
      by_cases hw : wordK k = t
      · have HL2 := hide (show lw t k = k by rw [unhide HLW, if_pos ⟨hk2, hw⟩])
        have he : ((wordK k).toList == t.toList) = true := by rw [hw]; simp
        clear hw HLW
        generalize lw t (k - 1) = lv at *
        generalize wordK k = W at *
        go_wp2_with fail
        go_region_held3 (fun w' => w'.cell? ⟨w1.heap.size, 1, none⟩ = some (.string t)) (exact cell_later hA y1)
          (first | (go_at_call 35; refine (unhide HWA _).mono ?_; rintro e w7 ⟨rfl, hb7⟩; have hA := bnext hA hb7; clear hb7))
        go_wp2_with fail
        exact ⟨⟨k + 1, by omega, by omega, rfl, by rw [Nat.add_sub_cancel, unhide HL2], bnext (unhide HBR) hA⟩, by simp [intOf]; omega⟩
      · have HL2 := hide (show lw t k = lw t (k - 1) by rw [unhide HLW, if_neg (fun q => hw q.2)])
        have he : ((wordK k).toList == t.toList) = false := ba_ne hw
        clear hw HLW
        have HLV := hide (Eq.refl (lw t (k - 1)))
        generalize hlv : lw t (k - 1) = lv at *
        clear hlv
        generalize wordK k = W at *
        go_wp2_with fail
        go_region_held3 (fun w' => w'.cell? ⟨w1.heap.size, 1, none⟩ = some (.string t)) (exact cell_later hA y1)
          (first | (go_at_call 35; refine (unhide HWA _).mono ?_; rintro e w7 ⟨rfl, hb7⟩; have hA := bnext hA hb7; clear hb7))
        go_wp2_with fail
        exact ⟨⟨k + 1, by omega, by omega, rfl, by rw [Nat.add_sub_cancel, unhide HL2], bnext (unhide HBR) hA⟩, by simp [intOf]; omega⟩
    · obtain rfl : k = 21 := by omega
      have hK20 := lw_le t 20
      have hK2 := lw_two t 20
      simp only [Nat.reduceSub]
      generalize lw t 20 = K at *
      have HXr := hide (row_below (unhide HX2) (unhide HBR))
      have HSr := hide (row_below (unhide HS2) (unhide HBR))
      have HBr := hide ((unhide HB2).trans (But.of_below (unhide HBR)))
      have HWr := hide ((unhide HW2).below (unhide HBR))
      have hszr := (unhide HBR).size
      have HRW := hide (show WoP d (B s) s j j2 K RR by rw [unhide HRR]; exact unhide HWO)
      clear HT HX0 HX2 HB2 HS2 HW2 Hw2 HBR HRR HWO c0 x0 c3
      by_cases h0 : K = 0
      · have HE := hide ((unhide HRW).no h0)
        have e0 : ((K : Int) == 0) = true := by rw [beq_iff_eq]; omega
        have HS := hide (wstop_ok (unhide HWr) 7 (j : Int))
        have HNE := hide (sgs_ne (s := s) hE.2)
        obtain ⟨s0, s1, s2, s3⟩ := sg4 (unhide HSr)
        clear h0 hK2 hK20 HRW HDE
        go_wp2_with fail
        refine (unhide HS).mono ?_
        rintro e w5 ⟨rfl, hb5, hW5⟩
        have HX5 := hide (but_z hb5 (unhide HXr) (by omega))
        have HB5 := hide ((unhide HBr).trans hb5)
        have HW5 := hide (show WkB w5 z s dd 7 (j : Int) by obtain ⟨x, r, q⟩ := unhide HNE; rw [q] at hW5; exact ⟨x, r, hW5⟩)
        clear hb5 hW5
        go_wp2_with (first
          | (refine wpList_store_row rfl 24 _ _ rfl w.heap.size (patO (mkP 0 ⟨#[]⟩ 0 ⟨#[]⟩ [])) rfl rfl 24 zeroP (unhide HX5) size_pat rfl (patO_oneC _) ?_)
          | fail)
        (try simp only [Exit.inBlock, Exit.then])
        exact bodyPost_ret (results_cell_row rfl _ _ w.heap.size 24 (patO (mkP 0 ⟨#[]⟩ 0 ⟨#[]⟩ [])) (0, 0) _ rfl (setRow_heap _ _ _ _ _ _ (unhide HX5)) Tryd.underlying24 rfl size_pat) rfl (wpost_err (unhide HE) (but_setRow (unhide HB5) (Nat.le_refl _) _) ⟨mkP 0 ⟨#[]⟩ 0 ⟨#[]⟩ [], rfl⟩ (Int.le_refl _) hdd ((unhide HW5).box hzl))
      · have e0 : ((K : Int) == 0) = false := by rw [beq_eq_false_iff_ne]; omega
        have h2K : 2 ≤ K := by omega
        obtain ⟨hTt, hNn⟩ := is_has h2K hK20
        have HTX := hide (fun w => texts_any (K : Int) w)
        have HNX := hide (fun w => numbers_any (K : Int) w)
        have hb3 : Below wr.heap.size wr (wr.alloc (.cells (patO (mkP K ⟨#[]⟩ 0 ⟨#[]⟩ [])) 24)) := (Below.refl _ _).alloc (Nat.le_refl _) _
        have HB3 := hide hb3
        have HG3 := hide (show (wr.alloc (.cells (patO (mkP K ⟨#[]⟩ 0 ⟨#[]⟩ [])) 24)).heap[wr.heap.size]? = some (.cells (patO (mkP K ⟨#[]⟩ 0 ⟨#[]⟩ [])) 24 (0, 0)) from at_new rfl)
        have hsz3 : (wr.alloc (.cells (patO (mkP K ⟨#[]⟩ 0 ⟨#[]⟩ [])) 24)).heap.size = wr.heap.size + 1 := World.size_alloc _ _
        clear hb3
        go_wp2_with fail
        rw [show (#[.int .i64 (K : Int), .string ⟨#[]⟩, .int .i64 0, .string ⟨#[]⟩, .slice none 0 0] : Array Value) = patO (mkP K ⟨#[]⟩ 0 ⟨#[]⟩ []) from rfl]
        generalize wr.alloc (.cells (patO (mkP K ⟨#[]⟩ 0 ⟨#[]⟩ [])) 24) = w3 at *
        -- REST
        cases hbt : isText (K : Int)
        · cases hbn : isNum (K : Int)
          · simp only [hbt] at HTX
            simp only [hbn] at HNX
            by_cases h20 : K = 20
            · by_cases h40 : nx s j2 = 40
              · have HK20 := hide h20
                have HE := hide (show RR = bnd (inP d (B s) s (sk s j2 + 1)) fun p m => .ok (mkP 20 ⟨#[]⟩ 0 ⟨#[]⟩ [p], m) by rw [(unhide HRW).arb h20, parP_in h40])
                have HDE2 := hide (fun w hw x hx => unhide HDE w (sk s j2 + 1) (nx_in (s := s) (i := j2) (by omega)) hw x hx)
                have e20 : ((K : Int) == 20) = true := by rw [beq_iff_eq]; omega
                clear HRW HDE hTt hNn hbt hbn h0 h20
                generalize inP d (B s) s (sk s j2 + 1) = RI at *
                refine (unhide HTX _).mono ?_
                rintro e w4 ⟨rfl, hb4⟩
                have HA4 := hide hb4
                clear hb4
                go_wp2_with fail
                refine (unhide HNX _).mono ?_
                rintro e w5 ⟨rfl, hb5⟩
                have HA5 := hide (bnext (unhide HA4) hb5)
                clear hb5 HA4
                have hA := bnext (unhide HB3) (unhide HA5)
                have HX5 := hide (row_below (unhide HXr) hA)
                have HG5 := hide (row_below (unhide HG3) (unhide HA5))
                have HB5 := hide ((unhide HBr).trans (But.of_below hA))
                have HW5 := hide ((unhide HWr).below hA)
                have hs5 := (unhide HA5).size
                clear hA
                have HT := hide (wtk_ok hE.2 (unhide HW5) 40 h40 (by decide) (by decide) (by decide) (by decide) (by decide))
                have hlt2 := nx_in (s := s) (i := j2) (by omega)
                clear h40
                generalize sk s j2 = a2 at *
                go_wp2_with fail
                refine (unhide HT).mono ?_
                rintro e w6 ⟨rfl, hb6, hW6⟩
                have hs6 := hb6.size
                have hg6 : wr.heap.size < w6.heap.size := by omega
                obtain ⟨w7, hw7⟩ : ∃ w7, w7 = w6.alloc (.cells #[.int .i64 40, .string (s.extract a2 (a2 + 1)), .int .i64 (a2 : Int), .int .i64 ((a2 + 1 : Nat) : Int)] 42) := ⟨_, rfl⟩
                have hb7 : Below w6.heap.size w6 w7 := by rw [hw7]; exact (Below.refl _ _).alloc (Nat.le_refl _) _
                have HS7 := hide (show w7.heap[w6.heap.size]? = some (.cells #[.int .i64 40, .string (s.extract a2 (a2 + 1)), .int .i64 (a2 : Int), .int .i64 ((a2 + 1 : Nat) : Int)] 42 (0, 0)) by rw [hw7]; exact at_new rfl)
                have HX7 := hide (row_below (but_z hb6 (unhide HX5) (by omega)) hb7)
                have HG7 := hide (row_below (but_z hb6 (unhide HG5) (by omega)) hb7)
                have HB7 := hide (((unhide HB5).trans hb6).trans (But.of_below hb7))
                have HW7 := hide (hW6.below hb7)
                have hs7 := hb7.size
                obtain ⟨-, c3, -⟩ := hW6.cells
                have hzl6 := hW6.lt
                have Hw7 := hide hw7
                clear hb6 hW6 hb7 hw7
                unfold sgE
                simp only [Int.natCast_add, Int.cast_ofNat_Int] at HS7 Hw7 ⊢
                go_wp2_with fail
                rw [show w6.alloc (.cells #[.int .i64 40, .string (s.extract a2 (a2 + 1)), .int .i64 (a2 : Int), .int .i64 ((a2 : Int) + 1)] 42) = w7 from (unhide Hw7).symm]
                refine (unhide HDE2 w7 (unhide HW7) ⟨40, s.extract a2 (a2 + 1), a2, a2 + 1⟩ rfl).mono ?_
                intro e w8 hP
                obtain ⟨U, hU, hUL⟩ : ∃ U, e = .returned (pv U) ∧ ∀ p k, RI = .ok (p, k) → U.can = p ∧ Lies w7.heap.size w8 U := by
                  rcases RI with ⟨er, a⟩ | ⟨p, k⟩
                  · obtain ⟨U, h⟩ := (wof_err hP rfl).2.1
                    exact ⟨U, h, fun p k q => by cases q⟩
                  · obtain ⟨-, ⟨U, h, hc, hl⟩, -⟩ := wof_ok hP rfl
                    exact ⟨U, h, fun p' k' q => by injection q with q; injection q with q _; subst q; exact ⟨hc, hl⟩⟩
                have hs8 := hP.1.size
                have hg8l : wr.heap.size < w8.heap.size := by omega
                have hg8 := but_z hP.1 (unhide HG7) (by omega)
                obtain ⟨g0, g1, g2, g3, g4⟩ := pats5s hg8
                have fz4 := frozen_of_row w8 wr.heap.size 4 _ _ hg8
                obtain ⟨W9, hW9⟩ : ∃ W9, W9 = (w8.setCell ⟨wr.heap.size, 4, none⟩ (.slice (some ⟨w8.heap.size, 0, none⟩) 1 1)).alloc (.cells (patO U) 24) := ⟨_, rfl⟩
                have hb9 : Below (w8.setCell ⟨wr.heap.size, 4, none⟩ (.slice (some ⟨w8.heap.size, 0, none⟩) 1 1)).heap.size (w8.setCell ⟨wr.heap.size, 4, none⟩ (.slice (some ⟨w8.heap.size, 0, none⟩) 1 1)) W9 := by rw [hW9]; exact (Below.refl _ _).alloc (Nat.le_refl _) _
                have hx8 := but_z hP.1 (unhide HX7) (by omega)
                have HX9 := hide (show W9.heap[w.heap.size]? = some (.cells zeroP 24 (0, 0)) from row_below ((heap_setCell_other w8 ⟨wr.heap.size, 4, none⟩ w.heap.size _ (show w.heap.size ≠ wr.heap.size by omega)).trans hx8) hb9)
                have hr9 : W9.heap[w8.heap.size]? = some (.cells (patO U) 24 (0, 0)) := by rw [hW9]; exact at_new (by rw [World.size_setCell])
                have HEND := hide (show WPost (patL w.heap.size) patV0 z s dd w RR (.returned (pv (rowN (K : Int) ⟨#[]⟩ w8.heap.size 1 [U]))) (W9.setRow w.heap.size (patO (rowN (K : Int) ⟨#[]⟩ w8.heap.size 1 [U]))) from by
                  have hbb : But z w W9 := (but_cellN ((unhide HB7).trans hP.1) (g := wr.heap.size) (by omega)).trans (But.of_below hb9)
                  rw [hU] at hP
                  rcases RI with ⟨er, a⟩ | ⟨p, k⟩
                  · obtain ⟨hb, -, D, h1, h2, h3, h4⟩ := wof_err hP rfl
                    exact wpost_err (by rw [unhide HE, bnd_err]) (but_setRow hbb (Nat.le_refl _) _) ⟨_, rfl⟩ h1 h2 (((h3.cellN (by omega)).below hb9).box hzl) h4
                  · obtain ⟨hb, -, h3⟩ := wof_ok hP rfl
                    obtain ⟨hc, hl⟩ := hUL p k rfl
                    have hl9 : Lies w7.heap.size (W9.setRow w.heap.size (patO (rowN (K : Int) ⟨#[]⟩ w8.heap.size 1 [U]))) U := ((hl.but ((But.refl wr.heap.size w8).setCell 4 _) (by omega)).below hb9).setRow (by omega) _
                    have hl2 : Lies w.heap.size (W9.setRow w.heap.size (patO (rowN (K : Int) ⟨#[]⟩ w8.heap.size 1 [U]))) (rowN (K : Int) ⟨#[]⟩ w8.heap.size 1 [U]) := (rowN_liesW (g := none) (by omega) (by decide) ((setRow_other W9 w.heap.size w8.heap.size _ (by omega)).trans hr9) (by omega) (fun e => by cases e) (hl9.except (by omega) (fun i e => by cases e))).lies
                    exact wpost_ok (by rw [unhide HE, bnd_ok]) (but_setRow hbb (Nat.le_refl _) _) ⟨_, rfl, by rw [rowN_can, List.map_cons, List.map_nil, hc, unhide HK20]; rfl, hl2⟩ (((h3.cellN (by omega)).below hb9).box hzl))
                have HW9 := hide hW9
                subst hU
                clear hP hg8 hb9 hx8 hr9 hW9 hUL
                unfold pv
                go_wp2_with (first
                  | (refine wpList_store_row rfl 24 _ _ rfl w.heap.size (patO (rowN (K : Int) ⟨#[]⟩ w8.heap.size 1 [U])) rfl rfl 24 zeroP (by have h := unhide HX9; rw [unhide HW9] at h; exact h) size_pat rfl (patO_oneC _) ?_)
                  | fail)
                (try simp only [Exit.inBlock, Exit.then])
                rw [show (w8.setCell ⟨wr.heap.size, 4, none⟩ (.slice (some ⟨w8.heap.size, 0, none⟩) 1 1)).alloc (.cells #[.int .i64 U.k, .string U.t, .int .i64 U.n, .string U.nm, .slice U.xa U.len U.cap] 24) = W9 from (unhide HW9).symm]
                exact bodyPost_ret (results_cell_row rfl _ _ w.heap.size 24 (patO (rowN (K : Int) ⟨#[]⟩ w8.heap.size 1 [U])) (0, 0) _ rfl (setRow_heap _ _ _ _ _ _ (unhide HX9)) Tryd.underlying24 rfl size_pat) rfl (unhide HEND)
              · have e20 : ((K : Int) == 20) = true := by rw [beq_iff_eq]; omega
                have HE := hide (show RR = .error (2, sk s j2) by rw [(unhide HRW).arb h20, parP, takP_no h40, bnd_err, bnd_err])
                clear HRW HDE hTt hNn hbt hbn h0
                clear h20
                refine (unhide HTX _).mono ?_
                rintro e w4 ⟨rfl, hb4⟩
                have HA4 := hide hb4
                clear hb4
                go_wp2_with fail
                refine (unhide HNX _).mono ?_
                rintro e w5 ⟨rfl, hb5⟩
                have HA5 := hide (bnext (unhide HA4) hb5)
                clear hb5 HA4
                have hA := bnext (unhide HB3) (unhide HA5)
                have HX5 := hide (row_below (unhide HXr) hA)
                have HG5 := hide (row_below (unhide HG3) (unhide HA5))
                have HB5 := hide ((unhide HBr).trans (But.of_below hA))
                have HW5 := hide ((unhide HWr).below hA)
                have hs5 := (unhide HA5).size
                clear hA
                have HT := hide (wtk_no hE.2 (unhide HW5) 40 h40 (by decide))
                clear h40
                go_wp2_with fail
                refine (unhide HT).mono ?_
                rintro e w6 ⟨⟨y, rfl⟩, hb6, hW6⟩
                have HX6 := hide (at_old (o := .cells #[.int .i64 (y.k : Int), .string y.t, .int .i64 (y.a : Int), .int .i64 (y.e : Int)] 42) (by have := hb6.size; omega) (but_z hb6 (unhide HX5) (by omega)))
                obtain ⟨g0, g1, g2, g3, g4⟩ := pats5s (but_z hb6 (unhide HG5) (by omega))
                obtain ⟨-, c3, -⟩ := hW6.cells
                have hzl6 := hW6.lt
                have hs6 := hb6.size
                have hg6 : wr.heap.size < w6.heap.size := by omega
                have HB6 := hide (((unhide HB5).trans hb6).alloc (.cells #[.int .i64 (y.k : Int), .string y.t, .int .i64 (y.a : Int), .int .i64 (y.e : Int)] 42))
                have HW6 := hide (hW6.below ((Below.refl _ _).alloc (Nat.le_refl _) (.cells #[.int .i64 (y.k : Int), .string y.t, .int .i64 (y.a : Int), .int .i64 (y.e : Int)] 42)))
                clear hb6 hW6
                unfold sgE
                go_wp2_with (first
                  | (refine wpList_store_row rfl 24 _ _ rfl w.heap.size (patO (mkP K ⟨#[]⟩ 0 ⟨#[]⟩ [])) rfl rfl 24 zeroP (unhide HX6) size_pat rfl (patO_oneC _) ?_)
                  | fail)
                (try simp only [Exit.inBlock, Exit.then])
                exact bodyPost_ret (results_cell_row rfl _ _ w.heap.size 24 (patO (mkP K ⟨#[]⟩ 0 ⟨#[]⟩ [])) (0, 0) _ rfl (setRow_heap _ _ _ _ _ _ (unhide HX6)) Tryd.underlying24 rfl size_pat) rfl (wpost_err (unhide HE) (but_setRow (unhide HB6) (Nat.le_refl _) _) ⟨mkP K ⟨#[]⟩ 0 ⟨#[]⟩ [], rfl⟩ (Int.le_refl _) hdd ((unhide HW6).box hzl))
            · have HE := hide ((unhide HRW).leaf h0 h20 (fun q => by rw [hNn.2 q] at hbn; cases hbn) (fun q => by rw [hTt.2 q] at hbt; cases hbt))
              have e20 : ((K : Int) == 20) = false := by rw [beq_eq_false_iff_ne]; omega
              clear HRW HDE hTt hNn hbt hbn h20 h0
              refine (unhide HTX _).mono ?_
              rintro e w4 ⟨rfl, hb4⟩
              have HA4 := hide hb4
              clear hb4
              go_wp2_with fail
              refine (unhide HNX _).mono ?_
              rintro e w5 ⟨rfl, hb5⟩
              have HA5 := hide (bnext (unhide HA4) hb5)
              clear hb5 HA4
              have hA := bnext (unhide HB3) (unhide HA5)
              have HX5 := hide (row_below (unhide HXr) hA)
              have HG5 := hide (row_below (unhide HG3) (unhide HA5))
              have HB5 := hide ((unhide HBr).trans (But.of_below hA))
              have HW5 := hide ((unhide HWr).below hA)
              have hs5 := (unhide HA5).size
              clear hA
              obtain ⟨g0, g1, g2, g3, g4⟩ := pats5s (unhide HG5)
              go_wp2_with (first
                | (refine wpList_store_row rfl 24 _ _ rfl w.heap.size (patO (mkP K ⟨#[]⟩ 0 ⟨#[]⟩ [])) rfl rfl 24 zeroP (unhide HX5) size_pat rfl (patO_oneC _) ?_)
                | fail)
              (try simp only [Exit.inBlock, Exit.then])
              exact bodyPost_ret (results_cell_row rfl _ _ w.heap.size 24 (patO (mkP K ⟨#[]⟩ 0 ⟨#[]⟩ [])) (0, 0) _ rfl (setRow_heap _ _ _ _ _ _ (unhide HX5)) Tryd.underlying24 rfl size_pat) rfl (wpost_ok (unhide HE) (but_setRow (unhide HB5) (Nat.le_refl _) _) ⟨mkP K ⟨#[]⟩ 0 ⟨#[]⟩ [], rfl, leaf_can _ _ _ _, leaf_lies (by omega) (by omega) (by decide) (by decide)⟩ ((unhide HW5).box hzl))
          · simp only [hbt] at HTX
            simp only [hbn] at HNX
            have h20 : K ≠ 20 := fun q => by subst q; cases hbn
            by_cases h40 : nx s j2 = 40
            · have HE := hide (show RR = bnd (nuP s (sk s j2 + 1)) fun n b => bnd (takP s 41 b) fun _ c => .ok (mkP K ⟨#[]⟩ n ⟨#[]⟩ [], c) by rw [(unhide HRW).num h0 h20 (hNn.1 hbn), takP_ok h40, bnd_ok])
              have e20 : ((K : Int) == 20) = false := by rw [beq_eq_false_iff_ne]; omega
              clear HRW HDE hTt hNn hbt hbn h0 h20
              refine (unhide HTX _).mono ?_
              rintro e w4 ⟨rfl, hb4⟩
              have HA4 := hide hb4
              clear hb4
              go_wp2_with fail
              refine (unhide HNX _).mono ?_
              rintro e w5 ⟨rfl, hb5⟩
              have HA5 := hide (bnext (unhide HA4) hb5)
              clear hb5 HA4
              have hA := bnext (unhide HB3) (unhide HA5)
              have HX5 := hide (row_below (unhide HXr) hA)
              have HG5 := hide (row_below (unhide HG3) (unhide HA5))
              have HB5 := hide ((unhide HBr).trans (But.of_below hA))
              have HW5 := hide ((unhide HWr).below hA)
              have hs5 := (unhide HA5).size
              clear hA
              have HT := hide (wtk_ok hE.2 (unhide HW5) 40 h40 (by decide) (by decide) (by decide) (by decide) (by decide))
              have hlt2 := nx_in (s := s) (i := j2) (by omega)
              clear h40
              generalize sk s j2 = a2 at *
              go_wp2_with fail
              refine (unhide HT).mono ?_
              rintro e w6 ⟨rfl, hb6, hW6⟩
              have hs6 := hb6.size
              have hg6 : wr.heap.size < w6.heap.size := by omega
              obtain ⟨w7, hw7⟩ : ∃ w7, w7 = w6.alloc (.cells #[.int .i64 40, .string (s.extract a2 (a2 + 1)), .int .i64 (a2 : Int), .int .i64 ((a2 + 1 : Nat) : Int)] 42) := ⟨_, rfl⟩
              have hb7 : Below w6.heap.size w6 w7 := by rw [hw7]; exact (Below.refl _ _).alloc (Nat.le_refl _) _
              have HS7 := hide (show w7.heap[w6.heap.size]? = some (.cells #[.int .i64 40, .string (s.extract a2 (a2 + 1)), .int .i64 (a2 : Int), .int .i64 ((a2 + 1 : Nat) : Int)] 42 (0, 0)) by rw [hw7]; exact at_new rfl)
              have HX7 := hide (row_below (but_z hb6 (unhide HX5) (by omega)) hb7)
              have HG7 := hide (row_below (but_z hb6 (unhide HG5) (by omega)) hb7)
              have HB7 := hide (((unhide HB5).trans hb6).trans (But.of_below hb7))
              have HW7 := hide (hW6.below hb7)
              have hs7 := hb7.size
              obtain ⟨-, c3, -⟩ := hW6.cells
              have hzl6 := hW6.lt
              have Hw7 := hide hw7
              clear hb6 hW6 hb7 hw7
              unfold sgE
              simp only [Int.natCast_add, Int.cast_ofNat_Int] at HS7 Hw7 ⊢
              go_wp2_with fail
              rw [show w6.alloc (.cells #[.int .i64 40, .string (s.extract a2 (a2 + 1)), .int .i64 (a2 : Int), .int .i64 ((a2 : Int) + 1)] 42) = w7 from (unhide Hw7).symm]
              refine (unhide HTX _).mono ?_
              rintro e w8 ⟨rfl, hb8⟩
              have HX8 := hide (row_below (unhide HX7) hb8)
              have HG8 := hide (row_below (unhide HG7) hb8)
              have HB8 := hide ((unhide HB7).trans (But.of_below hb8))
              have HW8 := hide ((unhide HW7).below hb8)
              have hs8 := hb8.size
              clear hb8 HX7 HG7 HB7 HW7 HS7 Hw7
              have HNU := hide (wnumber_any hs hlt2 hdd (unhide HW8))
              have HNS := hide (fun n b => nuP_sm (s := s) (i := a2 + 1) (n := n) (b := b))
              have HNA := hide (fun n b => nuP_adv s (a2 + 1) n b hlt2)
              generalize nuP s (a2 + 1) = RN at *
              go_wp2_with fail
              refine (unhide HNU).mono ?_
              intro e w9 hP
              obtain ⟨nn, hU, hUL⟩ : ∃ nn : Int, e = .returned (.int .i64 nn) ∧ ∀ n b, RN = .ok (n, b) → nn = (n : Int) := by
                rcases RN with ⟨er, a⟩ | ⟨n, b⟩
                · obtain ⟨U, h⟩ := (wof_err hP rfl).2.1
                  exact ⟨U, h, fun p k q => by cases q⟩
                · obtain ⟨-, h, -⟩ := wof_ok hP rfl
                  exact ⟨n, h, fun p' k' q => by injection q with q; injection q with q _; rw [q]⟩
              have hs9 := hP.1.size
              have hg9 := but_z hP.1 (unhide HG8) (by omega)
              obtain ⟨g0, g1, g2, g3, g4⟩ := pats5s hg9
              have fz4 := frozen_of_row w9 wr.heap.size 2 _ _ hg9
              have HG9 := hide (show (w9.setCell ⟨wr.heap.size, 2, none⟩ (.int .i64 nn)).heap[wr.heap.size]? = some (.cells (patO (mkP K ⟨#[]⟩ nn ⟨#[]⟩ [])) 24 (0, 0)) from heap_setCell_same w9 wr.heap.size 2 _ _ _ hg9)
              have HX9 := hide (show (w9.setCell ⟨wr.heap.size, 2, none⟩ (.int .i64 nn)).heap[w.heap.size]? = some (.cells zeroP 24 (0, 0)) from (heap_setCell_other w9 ⟨wr.heap.size, 2, none⟩ w.heap.size _ (show w.heap.size ≠ wr.heap.size by omega)).trans (but_z hP.1 (unhide HX8) (by omega)))
              have HB9 := hide (show But z w (w9.setCell ⟨wr.heap.size, 2, none⟩ (.int .i64 nn)) from but_cellN ((unhide HB8).trans hP.1) (by omega))
              have HLT := hide (last_take (w := w) (V := mkP K ⟨#[]⟩ nn ⟨#[]⟩ []) (RR := RR) hdd (W1 := w9.setCell ⟨wr.heap.size, 2, none⟩ (.int .i64 nn)) (by
                rcases RN with ⟨er, a⟩ | ⟨n, b⟩
                · obtain ⟨-, -, D, h1, h2, h3, h4⟩ := wof_err hP rfl
                  exact .inr ⟨er, a, D, h1, h2, h3.cellN (by omega), h4, by rw [unhide HE, bnd_err]⟩
                · obtain ⟨-, -, h3⟩ := wof_ok hP rfl
                  have hn := hUL n b rfl
                  have hsm := unhide HNS n b rfl
                  exact .inl ⟨b, mkP K ⟨#[]⟩ n ⟨#[]⟩ [], (unhide HNA n b rfl).2, h3.cellN (by omega), by rw [unhide HE, bnd_ok], by rw [leaf_can, hn], fun W => leaf_lies (by omega) (by omega) (by decide) (by decide)⟩))
              obtain ⟨P, hPb, hPE, hT⟩ := unhide HLT
              have HPB := hide hPb
              have HPE := hide hPE
              have HT2 := hide hT
              clear hPb hPE hT HLT
              subst hU
              clear hP hg9 hUL
              go_wp2_with fail
              refine (unhide HT2).mono ?_
              rintro e w12 ⟨⟨y2, rfl⟩, hb12, hP12⟩
              have HX12 := hide (but_z hb12 (unhide HX9) (by omega))
              obtain ⟨g0, g1, g2, g3, g4⟩ := pats5s (but_z hb12 (unhide HG9) (by omega))
              have HEND := hide (fun cs => unhide HPE _ (unhide HPB w12 w.heap.size cs hP12 hzl) (but_setRow ((unhide HB9).trans hb12) (Nat.le_refl _) cs))
              clear hb12 hP12
              unfold sgE
              go_wp2_with (first
                | (refine wpList_store_row rfl 24 _ _ rfl w.heap.size (patO (mkP K ⟨#[]⟩ nn ⟨#[]⟩ [])) rfl rfl 24 zeroP (unhide HX12) size_pat rfl (patO_oneC _) ?_)
                | fail)
              (try simp only [Exit.inBlock, Exit.then])
              exact bodyPost_ret (results_cell_row rfl _ _ w.heap.size 24 (patO (mkP K ⟨#[]⟩ nn ⟨#[]⟩ [])) (0, 0) _ rfl (setRow_heap _ _ _ _ _ _ (unhide HX12)) Tryd.underlying24 rfl size_pat) rfl (unhide HEND _)
            · have HE := hide (show RR = .error (2, sk s j2) by rw [(unhide HRW).num h0 h20 (hNn.1 hbn), takP_no h40, bnd_err])
              clear HRW HDE hTt hNn hbt hbn h0
              clear h20
              refine (unhide HTX _).mono ?_
              rintro e w4 ⟨rfl, hb4⟩
              have HA4 := hide hb4
              clear hb4
              go_wp2_with fail
              refine (unhide HNX _).mono ?_
              rintro e w5 ⟨rfl, hb5⟩
              have HA5 := hide (bnext (unhide HA4) hb5)
              clear hb5 HA4
              have hA := bnext (unhide HB3) (unhide HA5)
              have HX5 := hide (row_below (unhide HXr) hA)
              have HG5 := hide (row_below (unhide HG3) (unhide HA5))
              have HB5 := hide ((unhide HBr).trans (But.of_below hA))
              have HW5 := hide ((unhide HWr).below hA)
              have hs5 := (unhide HA5).size
              clear hA
              have HT := hide (wtk_no hE.2 (unhide HW5) 40 h40 (by decide))
              clear h40
              go_wp2_with fail
              refine (unhide HT).mono ?_
              rintro e w6 ⟨⟨y, rfl⟩, hb6, hW6⟩
              have HX6 := hide (at_old (o := .cells #[.int .i64 (y.k : Int), .string y.t, .int .i64 (y.a : Int), .int .i64 (y.e : Int)] 42) (by have := hb6.size; omega) (but_z hb6 (unhide HX5) (by omega)))
              obtain ⟨g0, g1, g2, g3, g4⟩ := pats5s (but_z hb6 (unhide HG5) (by omega))
              obtain ⟨-, c3, -⟩ := hW6.cells
              have hzl6 := hW6.lt
              have hs6 := hb6.size
              have hg6 : wr.heap.size < w6.heap.size := by omega
              have HB6 := hide (((unhide HB5).trans hb6).alloc (.cells #[.int .i64 (y.k : Int), .string y.t, .int .i64 (y.a : Int), .int .i64 (y.e : Int)] 42))
              have HW6 := hide (hW6.below ((Below.refl _ _).alloc (Nat.le_refl _) (.cells #[.int .i64 (y.k : Int), .string y.t, .int .i64 (y.a : Int), .int .i64 (y.e : Int)] 42)))
              clear hb6 hW6
              unfold sgE
              go_wp2_with (first
                | (refine wpList_store_row rfl 24 _ _ rfl w.heap.size (patO (mkP K ⟨#[]⟩ 0 ⟨#[]⟩ [])) rfl rfl 24 zeroP (unhide HX6) size_pat rfl (patO_oneC _) ?_)
                | fail)
              (try simp only [Exit.inBlock, Exit.then])
              exact bodyPost_ret (results_cell_row rfl _ _ w.heap.size 24 (patO (mkP K ⟨#[]⟩ 0 ⟨#[]⟩ [])) (0, 0) _ rfl (setRow_heap _ _ _ _ _ _ (unhide HX6)) Tryd.underlying24 rfl size_pat) rfl (wpost_err (unhide HE) (but_setRow (unhide HB6) (Nat.le_refl _) _) ⟨mkP K ⟨#[]⟩ 0 ⟨#[]⟩ [], rfl⟩ (Int.le_refl _) hdd ((unhide HW6).box hzl))
        · simp only [hbt] at HTX
          have h20 : K ≠ 20 := fun q => by subst q; cases hbt
          have hn2 : hasK K ≠ 2 := by rw [hTt.1 hbt]; decide
          have hbn : True := trivial
          by_cases h40 : nx s j2 = 40
          · clear hbn
            have HE := hide (show RR = bnd (fiP s (sk s j2 + 1)) fun t b => bnd (takP s 41 b) fun _ c => .ok (mkP K t 0 ⟨#[]⟩ [], c) by rw [(unhide HRW).txt h0 h20 hn2 (hTt.1 hbt), takP_ok h40, bnd_ok])
            have e20 : ((K : Int) == 20) = false := by rw [beq_eq_false_iff_ne]; omega
            clear HRW HDE hTt hNn hbt h0 h20 hn2
            refine (unhide HTX _).mono ?_
            rintro e w5 ⟨rfl, hb4⟩
            have HA5 := hide hb4
            clear hb4
            have hA := bnext (unhide HB3) (unhide HA5)
            have HX5 := hide (row_below (unhide HXr) hA)
            have HG5 := hide (row_below (unhide HG3) (unhide HA5))
            have HB5 := hide ((unhide HBr).trans (But.of_below hA))
            have HW5 := hide ((unhide HWr).below hA)
            have hs5 := (unhide HA5).size
            clear hA
            have HT := hide (wtk_ok hE.2 (unhide HW5) 40 h40 (by decide) (by decide) (by decide) (by decide) (by decide))
            have hlt2 := nx_in (s := s) (i := j2) (by omega)
            clear h40
            generalize sk s j2 = a2 at *
            go_wp2_with fail
            refine (unhide HT).mono ?_
            rintro e w6 ⟨rfl, hb6, hW6⟩
            have hs6 := hb6.size
            have hg6 : wr.heap.size < w6.heap.size := by omega
            obtain ⟨w7, hw7⟩ : ∃ w7, w7 = w6.alloc (.cells #[.int .i64 40, .string (s.extract a2 (a2 + 1)), .int .i64 (a2 : Int), .int .i64 ((a2 + 1 : Nat) : Int)] 42) := ⟨_, rfl⟩
            have hb7 : Below w6.heap.size w6 w7 := by rw [hw7]; exact (Below.refl _ _).alloc (Nat.le_refl _) _
            have HS7 := hide (show w7.heap[w6.heap.size]? = some (.cells #[.int .i64 40, .string (s.extract a2 (a2 + 1)), .int .i64 (a2 : Int), .int .i64 ((a2 + 1 : Nat) : Int)] 42 (0, 0)) by rw [hw7]; exact at_new rfl)
            have HX7 := hide (row_below (but_z hb6 (unhide HX5) (by omega)) hb7)
            have HG7 := hide (row_below (but_z hb6 (unhide HG5) (by omega)) hb7)
            have HB7 := hide (((unhide HB5).trans hb6).trans (But.of_below hb7))
            have HW7 := hide (hW6.below hb7)
            have hs7 := hb7.size
            obtain ⟨-, c3, -⟩ := hW6.cells
            have hzl6 := hW6.lt
            have Hw7 := hide hw7
            clear hb6 hW6 hb7 hw7
            unfold sgE
            simp only [Int.natCast_add, Int.cast_ofNat_Int] at HS7 Hw7 ⊢
            go_wp2_with fail
            rw [show w6.alloc (.cells #[.int .i64 40, .string (s.extract a2 (a2 + 1)), .int .i64 (a2 : Int), .int .i64 ((a2 : Int) + 1)] 42) = w7 from (unhide Hw7).symm]
            refine (unhide HTX _).mono ?_
            rintro e w8 ⟨rfl, hb8⟩
            have HX8 := hide (row_below (unhide HX7) hb8)
            have HG8 := hide (row_below (unhide HG7) hb8)
            have HB8 := hide ((unhide HB7).trans (But.of_below hb8))
            have HW8 := hide ((unhide HW7).below hb8)
            have hs8 := hb8.size
            clear hb8 HX7 HG7 HB7 HW7 HS7 Hw7
            by_cases h39 : nx s (a2 + 1) = 39
            · by_cases hc : cq s (sk s (a2 + 1) + 1) < s.size
              · have hto := wtt_ok hlt2 (unhide HW8) h39 hc
                have hQ : qtP s (sk s (a2 + 1)) = .ok (⟨(ct s (sk s (a2 + 1) + 1)).toArray⟩, cq s (sk s (a2 + 1) + 1) + 1) := by unfold qtP; rw [if_pos hc]
                have HTL := hide (qtP_le hs hQ)
                have hR0 : (⟨(ct s (sk s (a2 + 1) + 1)).toArray⟩ : ByteArray).size = 0 → RR = .error (8, sk s (a2 + 1)) := fun q => by rw [unhide HE, fiP, if_pos h39, hQ, bnd_ok, if_pos q, bnd_err]
                have hR1 : ¬ (⟨(ct s (sk s (a2 + 1) + 1)).toArray⟩ : ByteArray).size = 0 → RR = bnd (takP s 41 (cq s (sk s (a2 + 1) + 1) + 1)) fun _ c => .ok (mkP K ⟨(ct s (sk s (a2 + 1) + 1)).toArray⟩ 0 ⟨#[]⟩ [], c) := fun q => by rw [unhide HE, fiP, if_pos h39, hQ, bnd_ok, if_neg q, bnd_ok]
                have hb3 : cq s (sk s (a2 + 1) + 1) + 1 ≤ s.size := hc
                clear h39 hc hQ HE
                generalize sk s (a2 + 1) = b2 at *
                generalize (⟨(ct s (b2 + 1)).toArray⟩ : ByteArray) = tt at *
                generalize cq s (b2 + 1) + 1 = b3 at *
                have HTO := hide hto
                clear hto
                go_wp2_with fail
                refine (unhide HTO).mono ?_
                rintro e w9 ⟨rfl, hb9, hW9⟩
                have hs9 := hb9.size
                have hg9l : wr.heap.size < w9.heap.size := by omega
                have hg9 := but_z hb9 (unhide HG8) (by omega)
                obtain ⟨g0, g1, g2, g3, g4⟩ := pats5s hg9
                have fz1 := frozen_of_row w9 wr.heap.size 1 _ _ hg9
                obtain ⟨W1, hW1⟩ : ∃ W1, W1 = (w9.setCell ⟨wr.heap.size, 1, none⟩ (.string tt)).alloc (.cells #[.int .i64 302, .string tt, .int .i64 (b2 : Int), .int .i64 (b3 : Int)] 42) := ⟨_, rfl⟩
                have hb10 : Below (w9.setCell ⟨wr.heap.size, 1, none⟩ (.string tt)).heap.size (w9.setCell ⟨wr.heap.size, 1, none⟩ (.string tt)) W1 := by rw [hW1]; exact (Below.refl _ _).alloc (Nat.le_refl _) _
                have hsz1 : W1.heap.size = w9.heap.size + 1 := by rw [hW1, World.size_alloc, World.size_setCell]
                have HG1 := hide (show W1.heap[wr.heap.size]? = some (.cells (patO (mkP K tt 0 ⟨#[]⟩ [])) 24 (0, 0)) from row_below (heap_setCell_same w9 wr.heap.size 1 _ _ _ hg9) hb10)
                have HX1 := hide (show W1.heap[w.heap.size]? = some (.cells zeroP 24 (0, 0)) from row_below ((heap_setCell_other w9 ⟨wr.heap.size, 1, none⟩ w.heap.size _ (show w.heap.size ≠ wr.heap.size by omega)).trans (but_z hb9 (unhide HX8) (by omega))) hb10)
                have HB1 := hide (show But z w W1 from (but_cellN ((unhide HB8).trans hb9) (by omega)).trans (But.of_below hb10))
                have HWB := hide ((hW9.cellN (n := wr.heap.size) (k := 1) (v := .string tt) (by omega)).below hb10)
                by_cases hy0 : tt.size = 0
                · have hRE := hR0 hy0
                  have q0 : ((tt.size : Int) == 0) = true := by rw [beq_iff_eq]; omega
                  have HSB := hide (wstop_ok (unhide HWB) 8 (b2 : Int))
                  have HNE := hide (sgs_ne (s := s) hb3)
                  have HRE := hide hRE
                  obtain ⟨s0, s1, s2, s3⟩ := sg4 (show W1.heap[w9.heap.size]? = some (.cells #[.int .i64 302, .string tt, .int .i64 (b2 : Int), .int .i64 (b3 : Int)] 42 (0, 0)) by rw [hW1]; exact at_new (by rw [World.size_setCell]))
                  have HW1 := hide hW1
                  clear hb9 hW9 hg9 hb10 hy0 hW1 hR0 hR1 hRE s0 s1 s2 s3
                  unfold sgE
                  go_wp2_with fail
                  rw [show (w9.setCell ⟨wr.heap.size, 1, none⟩ (.string tt)).alloc (.cells #[.int .i64 302, .string tt, .int .i64 (b2 : Int), .int .i64 (b3 : Int)] 42) = W1 from (unhide HW1).symm]
                  refine (unhide HSB).mono ?_
                  rintro e w11 ⟨rfl, hb11, hW11⟩
                  have HWB2 := hide (show WkB w11 z s dd 8 ((b2 : Nat) : Int) by obtain ⟨x, r, q⟩ := unhide HNE; rw [q] at hW11; exact ⟨x, r, hW11⟩)
                  have HX1 := hide (but_z hb11 (unhide HX1) (by omega))
                  have HG1 := hide (but_z hb11 (unhide HG1) (by omega))
                  have HB1 := hide ((unhide HB1).trans hb11)
                  have hs11 := hb11.size
                  clear hb11 hW11
                  have HLT := hide (last_take (w := w) (V := mkP K tt 0 ⟨#[]⟩ []) (RR := RR) hdd (W1 := w11) (.inr ⟨8, b2, dd, Int.le_refl _, hdd, unhide HWB2, by decide, unhide HRE⟩))
                  obtain ⟨P, hPb, hPE, hT⟩ := unhide HLT
                  have HPB := hide hPb
                  have HPE := hide hPE
                  have HT2 := hide hT
                  clear hPb hPE hT HLT
                  go_wp2_with fail
                  refine (unhide HT2).mono ?_
                  rintro e w12 ⟨⟨y2, rfl⟩, hb12, hP12⟩
                  have HX12 := hide (but_z hb12 (unhide HX1) (by omega))
                  obtain ⟨g0, g1, g2, g3, g4⟩ := pats5s (but_z hb12 (unhide HG1) (by omega))
                  have HEND := hide (fun cs => unhide HPE _ (unhide HPB w12 w.heap.size cs hP12 hzl) (but_setRow ((unhide HB1).trans hb12) (Nat.le_refl _) cs))
                  clear hb12 hP12
                  unfold sgE
                  go_wp2_with (first
                    | (refine wpList_store_row rfl 24 _ _ rfl w.heap.size (patO (mkP K tt 0 ⟨#[]⟩ [])) rfl rfl 24 zeroP (unhide HX12) size_pat rfl (patO_oneC _) ?_)
                    | fail)
                  (try simp only [Exit.inBlock, Exit.then])
                  exact bodyPost_ret (results_cell_row rfl _ _ w.heap.size 24 (patO (mkP K tt 0 ⟨#[]⟩ [])) (0, 0) _ rfl (setRow_heap _ _ _ _ _ _ (unhide HX12)) Tryd.underlying24 rfl size_pat) rfl (unhide HEND _)
                · have hRE := hR1 hy0
                  have q0 : ((tt.size : Int) == 0) = false := by rw [beq_eq_false_iff_ne]; omega
                  have HLT := hide (last_take (w := w) (V := mkP K tt 0 ⟨#[]⟩ []) (RR := RR) hdd (W1 := W1) (.inl ⟨b3, mkP K tt 0 ⟨#[]⟩ [], hb3, unhide HWB, hRE, leaf_can _ _ _ _, fun W => leaf_lies (by omega) (by omega) (unhide HTL) (by decide)⟩))
                  obtain ⟨P, hPb, hPE, hT⟩ := unhide HLT
                  have HPB := hide hPb
                  have HPE := hide hPE
                  have HT2 := hide hT
                  clear hPb hPE hT HLT
                  have HW1 := hide hW1
                  clear hb9 hW9 hg9 hb10 hy0 hW1 hR0 hR1 hRE
                  unfold sgE
                  go_wp2_with fail
                  rw [show (w9.setCell ⟨wr.heap.size, 1, none⟩ (.string tt)).alloc (.cells #[.int .i64 302, .string tt, .int .i64 (b2 : Int), .int .i64 (b3 : Int)] 42) = W1 from (unhide HW1).symm]
                  refine (unhide HT2).mono ?_
                  rintro e w12 ⟨⟨y2, rfl⟩, hb12, hP12⟩
                  have HX12 := hide (but_z hb12 (unhide HX1) (by omega))
                  obtain ⟨g0, g1, g2, g3, g4⟩ := pats5s (but_z hb12 (unhide HG1) (by omega))
                  have HEND := hide (fun cs => unhide HPE _ (unhide HPB w12 w.heap.size cs hP12 hzl) (but_setRow ((unhide HB1).trans hb12) (Nat.le_refl _) cs))
                  clear hb12 hP12
                  unfold sgE
                  go_wp2_with (first
                    | (refine wpList_store_row rfl 24 _ _ rfl w.heap.size (patO (mkP K tt 0 ⟨#[]⟩ [])) rfl rfl 24 zeroP (unhide HX12) size_pat rfl (patO_oneC _) ?_)
                    | fail)
                  (try simp only [Exit.inBlock, Exit.then])
                  exact bodyPost_ret (results_cell_row rfl _ _ w.heap.size 24 (patO (mkP K tt 0 ⟨#[]⟩ [])) (0, 0) _ rfl (setRow_heap _ _ _ _ _ _ (unhide HX12)) Tryd.underlying24 rfl size_pat) rfl (unhide HEND _)
              · obtain ⟨A, hA⟩ : ∃ A, A = s.size := ⟨_, rfl⟩
                have htb := wtt_brk hlt2 (unhide HW8) h39 hc
                have hRA : RR = .error (2, A) := by rw [unhide HE, fiP, if_pos h39, qtP, if_neg hc, bnd_err, bnd_err, hA]
                rw [← hA] at htb
                clear h39 hc HE hA
                have HTB := hide htb
                clear htb
                go_wp2_with fail
                refine (unhide HTB).mono ?_
                rintro e w9 ⟨⟨y, rfl⟩, hb9, hW9⟩
                have hs9 := hb9.size
                have hg9l : wr.heap.size < w9.heap.size := by omega
                have hg9 := but_z hb9 (unhide HG8) (by omega)
                obtain ⟨g0, g1, g2, g3, g4⟩ := pats5s hg9
                have fz1 := frozen_of_row w9 wr.heap.size 1 _ _ hg9
                obtain ⟨W1, hW1⟩ : ∃ W1, W1 = (w9.setCell ⟨wr.heap.size, 1, none⟩ (.string y.t)).alloc (.cells #[.int .i64 (y.k : Int), .string y.t, .int .i64 (y.a : Int), .int .i64 (y.e : Int)] 42) := ⟨_, rfl⟩
                have hb10 : Below (w9.setCell ⟨wr.heap.size, 1, none⟩ (.string y.t)).heap.size (w9.setCell ⟨wr.heap.size, 1, none⟩ (.string y.t)) W1 := by rw [hW1]; exact (Below.refl _ _).alloc (Nat.le_refl _) _
                have hsz1 : W1.heap.size = w9.heap.size + 1 := by rw [hW1, World.size_alloc, World.size_setCell]
                have HG1 := hide (show W1.heap[wr.heap.size]? = some (.cells (patO (mkP K y.t 0 ⟨#[]⟩ [])) 24 (0, 0)) from row_below (heap_setCell_same w9 wr.heap.size 1 _ _ _ hg9) hb10)
                have HX1 := hide (show W1.heap[w.heap.size]? = some (.cells zeroP 24 (0, 0)) from row_below ((heap_setCell_other w9 ⟨wr.heap.size, 1, none⟩ w.heap.size _ (show w.heap.size ≠ wr.heap.size by omega)).trans (but_z hb9 (unhide HX8) (by omega))) hb10)
                have HB1 := hide (show But z w W1 from (but_cellN ((unhide HB8).trans hb9) (by omega)).trans (But.of_below hb10))
                have HWB := hide ((hW9.cellN (n := wr.heap.size) (k := 1) (v := .string y.t) (by omega)).below hb10)
                have HLT := hide (last_take (w := w) (V := mkP K y.t 0 ⟨#[]⟩ []) (RR := RR) hdd (W1 := W1) (.inr ⟨2, A, dd, Int.le_refl _, hdd, unhide HWB, by decide, hRA⟩))
                obtain ⟨P, hPb, hPE, hT⟩ := unhide HLT
                have HPB := hide hPb
                have HPE := hide hPE
                have HT2 := hide hT
                clear hPb hPE hT HLT
                have HSB := hide ((unhide HWB).stop (by decide) 8 (y.a : Int))
                have HW1 := hide hW1
                clear hb9 hW9 hg9 hb10 hRA hW1
                unfold sgE
                by_cases hy0 : y.t.size = 0
                · have q0 : ((y.t.size : Int) == 0) = true := by rw [beq_iff_eq]; omega
                  clear hy0
                  go_wp2_with fail
                  rw [show (w9.setCell ⟨wr.heap.size, 1, none⟩ (.string y.t)).alloc (.cells #[.int .i64 (y.k : Int), .string y.t, .int .i64 (y.a : Int), .int .i64 (y.e : Int)] 42) = W1 from (unhide HW1).symm]
                  refine (unhide HSB).mono ?_
                  rintro e w11 ⟨rfl, rfl⟩
                  go_wp2_with fail
                  refine (unhide HT2).mono ?_
                  rintro e w12 ⟨⟨y2, rfl⟩, hb12, hP12⟩
                  have HX12 := hide (but_z hb12 (unhide HX1) (by omega))
                  obtain ⟨g0, g1, g2, g3, g4⟩ := pats5s (but_z hb12 (unhide HG1) (by omega))
                  have HEND := hide (fun cs => unhide HPE _ (unhide HPB w12 w.heap.size cs hP12 hzl) (but_setRow ((unhide HB1).trans hb12) (Nat.le_refl _) cs))
                  clear hb12 hP12
                  unfold sgE
                  go_wp2_with (first
                    | (refine wpList_store_row rfl 24 _ _ rfl w.heap.size (patO (mkP K y.t 0 ⟨#[]⟩ [])) rfl rfl 24 zeroP (unhide HX12) size_pat rfl (patO_oneC _) ?_)
                    | fail)
                  (try simp only [Exit.inBlock, Exit.then])
                  exact bodyPost_ret (results_cell_row rfl _ _ w.heap.size 24 (patO (mkP K y.t 0 ⟨#[]⟩ [])) (0, 0) _ rfl (setRow_heap _ _ _ _ _ _ (unhide HX12)) Tryd.underlying24 rfl size_pat) rfl (unhide HEND _)
                · have q0 : ((y.t.size : Int) == 0) = false := by rw [beq_eq_false_iff_ne]; omega
                  clear hy0
                  go_wp2_with fail
                  rw [show (w9.setCell ⟨wr.heap.size, 1, none⟩ (.string y.t)).alloc (.cells #[.int .i64 (y.k : Int), .string y.t, .int .i64 (y.a : Int), .int .i64 (y.e : Int)] 42) = W1 from (unhide HW1).symm]
                  refine (unhide HT2).mono ?_
                  rintro e w12 ⟨⟨y2, rfl⟩, hb12, hP12⟩
                  have HX12 := hide (but_z hb12 (unhide HX1) (by omega))
                  obtain ⟨g0, g1, g2, g3, g4⟩ := pats5s (but_z hb12 (unhide HG1) (by omega))
                  have HEND := hide (fun cs => unhide HPE _ (unhide HPB w12 w.heap.size cs hP12 hzl) (but_setRow ((unhide HB1).trans hb12) (Nat.le_refl _) cs))
                  clear hb12 hP12
                  unfold sgE
                  go_wp2_with (first
                    | (refine wpList_store_row rfl 24 _ _ rfl w.heap.size (patO (mkP K y.t 0 ⟨#[]⟩ [])) rfl rfl 24 zeroP (unhide HX12) size_pat rfl (patO_oneC _) ?_)
                    | fail)
                  (try simp only [Exit.inBlock, Exit.then])
                  exact bodyPost_ret (results_cell_row rfl _ _ w.heap.size 24 (patO (mkP K y.t 0 ⟨#[]⟩ [])) (0, 0) _ rfl (setRow_heap _ _ _ _ _ _ (unhide HX12)) Tryd.underlying24 rfl size_pat) rfl (unhide HEND _)
            · have htb := wtw_no hlt2 (unhide HW8) 302 (.inr (.inr ⟨rfl, h39⟩))
              have hRA : RR = .error (2, sk s (a2 + 1)) := by rw [unhide HE, fiP, if_neg h39, bnd_err]
              generalize sk s (a2 + 1) = A at *
              clear h39 HE
              have HTB := hide htb
              clear htb
              go_wp2_with fail
              refine (unhide HTB).mono ?_
              rintro e w9 ⟨⟨y, rfl⟩, hb9, hW9⟩
              have hs9 := hb9.size
              have hg9l : wr.heap.size < w9.heap.size := by omega
              have hg9 := but_z hb9 (unhide HG8) (by omega)
              obtain ⟨g0, g1, g2, g3, g4⟩ := pats5s hg9
              have fz1 := frozen_of_row w9 wr.heap.size 1 _ _ hg9
              obtain ⟨W1, hW1⟩ : ∃ W1, W1 = (w9.setCell ⟨wr.heap.size, 1, none⟩ (.string y.t)).alloc (.cells #[.int .i64 (y.k : Int), .string y.t, .int .i64 (y.a : Int), .int .i64 (y.e : Int)] 42) := ⟨_, rfl⟩
              have hb10 : Below (w9.setCell ⟨wr.heap.size, 1, none⟩ (.string y.t)).heap.size (w9.setCell ⟨wr.heap.size, 1, none⟩ (.string y.t)) W1 := by rw [hW1]; exact (Below.refl _ _).alloc (Nat.le_refl _) _
              have hsz1 : W1.heap.size = w9.heap.size + 1 := by rw [hW1, World.size_alloc, World.size_setCell]
              have HG1 := hide (show W1.heap[wr.heap.size]? = some (.cells (patO (mkP K y.t 0 ⟨#[]⟩ [])) 24 (0, 0)) from row_below (heap_setCell_same w9 wr.heap.size 1 _ _ _ hg9) hb10)
              have HX1 := hide (show W1.heap[w.heap.size]? = some (.cells zeroP 24 (0, 0)) from row_below ((heap_setCell_other w9 ⟨wr.heap.size, 1, none⟩ w.heap.size _ (show w.heap.size ≠ wr.heap.size by omega)).trans (but_z hb9 (unhide HX8) (by omega))) hb10)
              have HB1 := hide (show But z w W1 from (but_cellN ((unhide HB8).trans hb9) (by omega)).trans (But.of_below hb10))
              have HWB := hide ((hW9.cellN (n := wr.heap.size) (k := 1) (v := .string y.t) (by omega)).below hb10)
              have HLT := hide (last_take (w := w) (V := mkP K y.t 0 ⟨#[]⟩ []) (RR := RR) hdd (W1 := W1) (.inr ⟨2, A, dd, Int.le_refl _, hdd, unhide HWB, by decide, hRA⟩))
              obtain ⟨P, hPb, hPE, hT⟩ := unhide HLT
              have HPB := hide hPb
              have HPE := hide hPE
              have HT2 := hide hT
              clear hPb hPE hT HLT
              have HSB := hide ((unhide HWB).stop (by decide) 8 (y.a : Int))
              have HW1 := hide hW1
              clear hb9 hW9 hg9 hb10 hRA hW1
              unfold sgE
              by_cases hy0 : y.t.size = 0
              · have q0 : ((y.t.size : Int) == 0) = true := by rw [beq_iff_eq]; omega
                clear hy0
                go_wp2_with fail
                rw [show (w9.setCell ⟨wr.heap.size, 1, none⟩ (.string y.t)).alloc (.cells #[.int .i64 (y.k : Int), .string y.t, .int .i64 (y.a : Int), .int .i64 (y.e : Int)] 42) = W1 from (unhide HW1).symm]
                refine (unhide HSB).mono ?_
                rintro e w11 ⟨rfl, rfl⟩
                go_wp2_with fail
                refine (unhide HT2).mono ?_
                rintro e w12 ⟨⟨y2, rfl⟩, hb12, hP12⟩
                have HX12 := hide (but_z hb12 (unhide HX1) (by omega))
                obtain ⟨g0, g1, g2, g3, g4⟩ := pats5s (but_z hb12 (unhide HG1) (by omega))
                have HEND := hide (fun cs => unhide HPE _ (unhide HPB w12 w.heap.size cs hP12 hzl) (but_setRow ((unhide HB1).trans hb12) (Nat.le_refl _) cs))
                clear hb12 hP12
                unfold sgE
                go_wp2_with (first
                  | (refine wpList_store_row rfl 24 _ _ rfl w.heap.size (patO (mkP K y.t 0 ⟨#[]⟩ [])) rfl rfl 24 zeroP (unhide HX12) size_pat rfl (patO_oneC _) ?_)
                  | fail)
                (try simp only [Exit.inBlock, Exit.then])
                exact bodyPost_ret (results_cell_row rfl _ _ w.heap.size 24 (patO (mkP K y.t 0 ⟨#[]⟩ [])) (0, 0) _ rfl (setRow_heap _ _ _ _ _ _ (unhide HX12)) Tryd.underlying24 rfl size_pat) rfl (unhide HEND _)
              · have q0 : ((y.t.size : Int) == 0) = false := by rw [beq_eq_false_iff_ne]; omega
                clear hy0
                go_wp2_with fail
                rw [show (w9.setCell ⟨wr.heap.size, 1, none⟩ (.string y.t)).alloc (.cells #[.int .i64 (y.k : Int), .string y.t, .int .i64 (y.a : Int), .int .i64 (y.e : Int)] 42) = W1 from (unhide HW1).symm]
                refine (unhide HT2).mono ?_
                rintro e w12 ⟨⟨y2, rfl⟩, hb12, hP12⟩
                have HX12 := hide (but_z hb12 (unhide HX1) (by omega))
                obtain ⟨g0, g1, g2, g3, g4⟩ := pats5s (but_z hb12 (unhide HG1) (by omega))
                have HEND := hide (fun cs => unhide HPE _ (unhide HPB w12 w.heap.size cs hP12 hzl) (but_setRow ((unhide HB1).trans hb12) (Nat.le_refl _) cs))
                clear hb12 hP12
                unfold sgE
                go_wp2_with (first
                  | (refine wpList_store_row rfl 24 _ _ rfl w.heap.size (patO (mkP K y.t 0 ⟨#[]⟩ [])) rfl rfl 24 zeroP (unhide HX12) size_pat rfl (patO_oneC _) ?_)
                  | fail)
                (try simp only [Exit.inBlock, Exit.then])
                exact bodyPost_ret (results_cell_row rfl _ _ w.heap.size 24 (patO (mkP K y.t 0 ⟨#[]⟩ [])) (0, 0) _ rfl (setRow_heap _ _ _ _ _ _ (unhide HX12)) Tryd.underlying24 rfl size_pat) rfl (unhide HEND _)
          · have HE := hide (show RR = .error (2, sk s j2) by rw [(unhide HRW).txt h0 h20 hn2 (hTt.1 hbt), takP_no h40, bnd_err])
            clear hn2 HRW HDE hTt hNn hbt hbn h0
            clear h20
            refine (unhide HTX _).mono ?_
            rintro e w5 ⟨rfl, hb4⟩
            have HA5 := hide hb4
            clear hb4
            have hA := bnext (unhide HB3) (unhide HA5)
            have HX5 := hide (row_below (unhide HXr) hA)
            have HG5 := hide (row_below (unhide HG3) (unhide HA5))
            have HB5 := hide ((unhide HBr).trans (But.of_below hA))
            have HW5 := hide ((unhide HWr).below hA)
            have hs5 := (unhide HA5).size
            clear hA
            have HT := hide (wtk_no hE.2 (unhide HW5) 40 h40 (by decide))
            clear h40
            go_wp2_with fail
            refine (unhide HT).mono ?_
            rintro e w6 ⟨⟨y, rfl⟩, hb6, hW6⟩
            have HX6 := hide (at_old (o := .cells #[.int .i64 (y.k : Int), .string y.t, .int .i64 (y.a : Int), .int .i64 (y.e : Int)] 42) (by have := hb6.size; omega) (but_z hb6 (unhide HX5) (by omega)))
            obtain ⟨g0, g1, g2, g3, g4⟩ := pats5s (but_z hb6 (unhide HG5) (by omega))
            obtain ⟨-, c3, -⟩ := hW6.cells
            have hzl6 := hW6.lt
            have hs6 := hb6.size
            have hg6 : wr.heap.size < w6.heap.size := by omega
            have HB6 := hide (((unhide HB5).trans hb6).alloc (.cells #[.int .i64 (y.k : Int), .string y.t, .int .i64 (y.a : Int), .int .i64 (y.e : Int)] 42))
            have HW6 := hide (hW6.below ((Below.refl _ _).alloc (Nat.le_refl _) (.cells #[.int .i64 (y.k : Int), .string y.t, .int .i64 (y.a : Int), .int .i64 (y.e : Int)] 42)))
            clear hb6 hW6
            unfold sgE
            go_wp2_with (first
              | (refine wpList_store_row rfl 24 _ _ rfl w.heap.size (patO (mkP K ⟨#[]⟩ 0 ⟨#[]⟩ [])) rfl rfl 24 zeroP (unhide HX6) size_pat rfl (patO_oneC _) ?_)
              | fail)
            (try simp only [Exit.inBlock, Exit.then])
            exact bodyPost_ret (results_cell_row rfl _ _ w.heap.size 24 (patO (mkP K ⟨#[]⟩ 0 ⟨#[]⟩ [])) (0, 0) _ rfl (setRow_heap _ _ _ _ _ _ (unhide HX6)) Tryd.underlying24 rfl size_pat) rfl (wpost_err (unhide HE) (but_setRow (unhide HB6) (Nat.le_refl _) _) ⟨mkP K ⟨#[]⟩ 0 ⟨#[]⟩ [], rfl⟩ (Int.le_refl _) hdd ((unhide HW6).box hzl))
end
end Go.Proofs.YtimbfelbalfmiaaDoor
