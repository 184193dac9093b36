/- The document's walk over signs: pieces that are no words. -/
import Derived.Test.YtimbfelbalfmiaaDoorRsG
import Derived.Test.YtimbfelbalfmiaaDoorRdI
namespace Go.Proofs.YtimbfelbalfmiaaDoor
open Go.RowKit

/-- What the walk reads of the sign that comes. -/
theorem Wk.first {w : World} {z : Nat} {s : ByteArray} {x : Sg} {r : List Sg} {d er a : Int} (h : Wk w z s (x :: r) d er a) : ∃ g o n cap : Nat, w.cell? ⟨z, 0, none⟩ = some (.slice (some ⟨g, o, none⟩) (n + 1) cap) ∧ w.cell? ⟨g, o, none⟩ = some (.int .i64 (x.k : Int)) ∧ w.cell? ⟨g, o + 2, none⟩ = some (.int .i64 (x.a : Int)) ∧ g < w.heap.size ∧ n + 1 ≤ cap ∧ cap ≤ maxLen ∧ z < w.heap.size := by
  obtain ⟨g, o, cap, h⟩ := h
  have h0 := h.cells.1
  obtain ⟨x0, -, x2, -⟩ := h.sgs 0 x rfl
  simp only [Nat.zero_mul, Nat.add_zero] at x0 x2
  exact ⟨g, o, r.length, cap, h0, x0, x2, Nat.lt_trans h.gz h.lt, h.fit, h.max, h.lt⟩
theorem parP_in {d : Nat} {B : Nat → Rd PT} {s : ByteArray} {i : Nat} (h : nx s i = 40) : parP d B s i = inP d B s (sk s i + 1) := by
  unfold parP inP
  rw [takP_ok h, bnd_ok]
/-- One sign is known by its byte. -/
theorem kind_chr {s : ByteArray} {i c : Nat} (hi : i ≤ s.size) {x : Sg} {r : List Sg} (h : sgs s i = x :: r) (hc : nx s i = c) (h0 : c ≠ 0) (h1 : c ≠ 39) (h2 : letterN c = false) (h3 : digitN c = false) : x.k = c := by
  rw [sgs_chr hi hc h0 h1 h2 h3] at h
  injection h with h _
  rw [← h]
section
variable {d : Nat} {B : ByteArray → Nat → Rd PT} {s : ByteArray} {i z : Nat} {w : World}
set_option maxRecDepth 100000 in
set_option maxHeartbeats 4000000 in
theorem wpiece_par (hd : d ≤ 200) (hB : ∀ s, Adv s (B s)) (HA : 0 < d → WSays 10 (d - 1) B) (hs : s.size ≤ 65536) (hi : i ≤ s.size) (hW : Wk w z s (sgs s i) ((200 - d : Nat) : Int) 0 0) (h40 : nx s i = 40) :
    Calls Tryd.prog 28 #[.pointer (some ⟨z, 0, none⟩)] w fun e w' => WPost (patL w.heap.size) patV0 z s ((200 - d : Nat) : Int) w (baP d (B s) s i) e w' := by
  have hlt := nx_in (s := s) (i := i) (by omega)
  have hRR : baP d (B s) s i = inP d (B s) s (sk s i + 1) := by
    unfold baP
    rw [if_neg (by omega), if_pos h40, parP_in (by rw [nx_sk]; exact h40), sk_sk]
  rw [hRR]
  have hzl := hW.lt
  have hb0 : Below w.heap.size w (w.alloc (.cells zeroP 24)) := (Below.refl _ _).alloc (Nat.le_refl _) _
  have HT := hide (wtk_ok hi (hW.below hb0) 40 h40 (by decide) (by decide) (by decide) (by decide) (by decide))
  have HX0 := hide (show (w.alloc (.cells zeroP 24)).heap[w.heap.size]? = some (.cells zeroP 24 (0, 0)) from zbox)
  have HDE := hide (fun w hw x hx => wdeeper_any hd hB HA s (sk s i + 1) z w hs hlt hw x hx)
  obtain ⟨x, r, hx⟩ := sgs_ne (s := s) hi
  have hk := kind_chr hi hx h40 (by decide) (by decide) (by decide) (by decide)
  have hW2 := hW
  rw [hx] at hW2
  obtain ⟨g, o, n, cap, c0, x0, -, hgl, hnc, hmax, -⟩ := hW2.first
  rw [hk] at x0
  simp only [Int.cast_ofNat_Int] at x0
  unfold maxLen at hmax
  clear hW hW2 hx hk hRR HA hB hb0 h40
  generalize ((200 - d : Nat) : Int) = dd at *
  generalize inP d (B s) s (sk s i + 1) = RR at *
  generalize sk s i = j at *
  go_enter Tryd.func28, Tryd.ntmps28
  go_wp2_with fail
  refine (unhide HT).mono ?_
  rintro e w1 ⟨rfl, hb1, hW1⟩
  have hs1 := hb1.size
  rw [World.size_alloc] at hs1
  have HX1 := hide (but_z hb1 (unhide HX0) (by omega))
  have HB1 := hide (((But.refl z w).alloc _).trans hb1)
  have HD1 := hide (unhide HDE w1 hW1 ⟨40, s.extract j (j + 1), j, j + 1⟩ rfl)
  clear hb1 hW1 HDE
  go_wp2_with fail
  refine (unhide HD1).mono ?_
  intro e w2 hP
  obtain ⟨U, hU⟩ : ∃ U, e = .returned (pv U) := by
    rcases RR with ⟨er, a⟩ | ⟨p, k⟩
    · exact (wof_err hP rfl).2.1
    · obtain ⟨-, ⟨U, h, -⟩, -⟩ := wof_ok hP rfl; exact ⟨U, h⟩
  have HX2 := hide (but_z hP.1 (unhide HX1) (by omega))
  have HEND := hide (show WPost (patL w.heap.size) patV0 z s dd w RR (.returned (pv U)) (w2.setRow w.heap.size (patO U)) from by
    rw [hU] at hP
    rcases RR with ⟨er, a⟩ | ⟨p, k⟩
    · obtain ⟨hb, -, D, h1, h2, h3, h4⟩ := wof_err hP rfl
      exact wpost_err rfl (but_setRow ((unhide HB1).trans hb) (Nat.le_refl _) _) ⟨U, rfl⟩ h1 h2 (h3.box hzl) h4
    · obtain ⟨hb, ⟨V, h, hc, hl⟩, h3⟩ := wof_ok hP rfl
      have hl2 : Lies w.heap.size (w2.setRow w.heap.size (patO U)) V := ((hl.setRow (g := w.heap.size) (by omega) _).mono (by omega))
      exact wpost_ok rfl (but_setRow ((unhide HB1).trans hb) (Nat.le_refl _) _) ⟨V, h, hc, hl2⟩ (h3.box hzl))
  subst hU
  clear hP
  unfold pv
  go_wp2_with (first
    | (refine wpList_store_row rfl 24 _ _ rfl w.heap.size (patO U) rfl rfl 24 zeroP (unhide HX2) size_pat rfl (patO_oneC _) ?_)
    | fail)
  (try simp only [Exit.inBlock, Exit.then])
  exact bodyPost_ret (results_cell_row rfl _ _ w.heap.size 24 (patO U) (0, 0) _ rfl (setRow_heap _ _ _ _ _ _ (unhide HX2)) Tryd.underlying24 rfl size_pat) rfl (unhide HEND)
set_option maxRecDepth 100000 in
set_option maxHeartbeats 4000000 in
theorem wpiece_txt (hd : d ≤ 200) (hs : s.size ≤ 65536) (hi : i ≤ s.size) (hW : Wk w z s (sgs s i) ((200 - d : Nat) : Int) 0 0) (h39 : nx s i = 39) :
    Calls Tryd.prog 28 #[.pointer (some ⟨z, 0, none⟩)] w fun e w' => WPost (patL w.heap.size) patV0 z s ((200 - d : Nat) : Int) w (baP d (B s) s i) e w' := by
  have hzl := hW.lt
  have hb0 : Below w.heap.size w (w.alloc (.cells zeroP 24)) := (Below.refl _ _).alloc (Nat.le_refl _) _
  have HX0 := hide (show (w.alloc (.cells zeroP 24)).heap[w.heap.size]? = some (.cells zeroP 24 (0, 0)) from zbox)
  have hdd : ((200 - d : Nat) : Int) ≤ 201 := by omega
  obtain ⟨x, r, hx⟩ := sgs_ne (s := s) hi
  have hW2 := hW
  rw [hx] at hW2
  obtain ⟨g, o, n, cap, c0, x0, -, hgl, hnc, hmax, -⟩ := hW2.first
  unfold maxLen at hmax
  have hks := (sk_le s i hi).2
  by_cases hc : cq s (sk s i + 1) < s.size
  · have HT := hide (wtt_ok hi (hW.below hb0) h39 hc)
    have HQ := hide (show qtP s (sk s i) = .ok (⟨(ct s (sk s i + 1)).toArray⟩, cq s (sk s i + 1) + 1) by unfold qtP; rw [if_pos hc])
    have HTL := hide (qtP_le hs (unhide HQ))
    have HRR := hide (show baP d (B s) s i = .ok (mkP 1 ⟨(ct s (sk s i + 1)).toArray⟩ 0 ⟨#[]⟩ [], cq s (sk s i + 1) + 1) by unfold baP; rw [if_pos h39, unhide HQ, bnd_ok])
    have hk : x.k = 302 := by rw [sgs_txt hi h39 hc] at hx; injection hx with hx _; rw [← hx]
    rw [hk] at x0
    simp only [Int.cast_ofNat_Int] at x0
    clear hW hW2 hx hk hb0 h39 HQ hc
    generalize ((200 - d : Nat) : Int) = dd at *
    generalize baP d (B s) s i = RR at *
    generalize sk s i = j at *
    generalize cq s (j + 1) + 1 = j2 at *
    generalize (⟨(ct s (j + 1)).toArray⟩ : ByteArray) = t at *
    go_enter Tryd.func28, Tryd.ntmps28
    go_wp2_with fail
    refine (unhide HT).mono ?_
    rintro e w1 ⟨rfl, hb1, hW1⟩
    have hs1 := hb1.size
    rw [World.size_alloc] at hs1
    have HX1 := hide (but_z hb1 (unhide HX0) (by omega))
    have HB1 := hide (((But.refl z w).alloc _).trans hb1)
    have HW1 := hide hW1
    clear hb1 hW1
    unfold sgE
    have HX2 := hide (at_old (o := .cells #[.int .i64 302, .string t, .int .i64 (j : Int), .int .i64 (j2 : Int)] 42) (by omega) (unhide HX1))
    go_wp2_with (first
      | (refine wpList_store_row rfl 24 _ _ rfl w.heap.size (patO (mkP 1 t 0 ⟨#[]⟩ [])) rfl rfl 24 zeroP (unhide HX2) size_pat rfl (patO_oneC _) ?_)
      | fail)
    (try simp only [Exit.inBlock, Exit.then])
    exact bodyPost_ret (results_cell_row rfl _ _ w.heap.size 24 (patO (mkP 1 t 0 ⟨#[]⟩ [])) (0, 0) _ rfl (setRow_heap _ _ _ _ _ _ (unhide HX2)) Tryd.underlying24 rfl size_pat) rfl (wpost_ok (unhide HRR) (but_setRow ((unhide HB1).alloc _) (Nat.le_refl _) _) ⟨mkP 1 t 0 ⟨#[]⟩ [], rfl, leaf_can _ _ _ _, leaf_lies (by omega) (by omega) (unhide HTL) (by decide)⟩ (((unhide HW1).below ((Below.refl _ _).alloc (Nat.le_refl _) _)).box hzl))
  · have HT := hide (wtt_brk hi (hW.below hb0) h39 hc)
    have HRR := hide (show baP d (B s) s i = .error (2, s.size) by unfold baP qtP; rw [if_pos h39, if_neg hc, bnd_err])
    have hk : x.k = 301 := by rw [sgs_brk hi h39 hc] at hx; injection hx with hx _; rw [← hx]
    rw [hk] at x0
    simp only [Int.cast_ofNat_Int] at x0
    clear hW hW2 hx hk hb0 h39 hc
    generalize ((200 - d : Nat) : Int) = dd at *
    generalize baP d (B s) s i = RR at *
    generalize sk s i = j at *
    go_enter Tryd.func28, Tryd.ntmps28
    go_wp2_with fail
    refine (unhide HT).mono ?_
    rintro e w1 ⟨⟨y, rfl⟩, hb1, hW1⟩
    have hs1 := hb1.size
    rw [World.size_alloc] at hs1
    have HX1 := hide (but_z hb1 (unhide HX0) (by omega))
    have HB1 := hide (((But.refl z w).alloc _).trans hb1)
    have HW1 := hide hW1
    clear hb1 hW1
    unfold sgE
    have HX2 := hide (at_old (o := .cells #[.int .i64 (y.k : Int), .string y.t, .int .i64 (y.a : Int), .int .i64 (y.e : Int)] 42) (by omega) (unhide HX1))
    go_wp2_with (first
      | (refine wpList_store_row rfl 24 _ _ rfl w.heap.size (patO (mkP 1 y.t 0 ⟨#[]⟩ [])) rfl rfl 24 zeroP (unhide HX2) size_pat rfl (patO_oneC _) ?_)
      | fail)
    (try simp only [Exit.inBlock, Exit.then])
    exact bodyPost_ret (results_cell_row rfl _ _ w.heap.size 24 (patO (mkP 1 y.t 0 ⟨#[]⟩ [])) (0, 0) _ rfl (setRow_heap _ _ _ _ _ _ (unhide HX2)) Tryd.underlying24 rfl size_pat) rfl (wpost_err (unhide HRR) (but_setRow ((unhide HB1).alloc _) (Nat.le_refl _) _) ⟨mkP 1 y.t 0 ⟨#[]⟩ [], rfl⟩ (Int.le_refl _) hdd (((unhide HW1).below ((Below.refl _ _).alloc (Nat.le_refl _) _)).box hzl))
set_option maxRecDepth 100000 in
set_option maxHeartbeats 4000000 in
theorem wpiece_cur (hd : d ≤ 200) (hs : s.size ≤ 65536) (hi : i ≤ s.size) (hW : Wk w z s (sgs s i) ((200 - d : Nat) : Int) 0 0) (hc : nx s i = 64) :
    Calls Tryd.prog 28 #[.pointer (some ⟨z, 0, none⟩)] w fun e w' => WPost (patL w.heap.size) patV0 z s ((200 - d : Nat) : Int) w (baP d (B s) s i) e w' := by
  have hzl := hW.lt
  have hb0 : Below w.heap.size w (w.alloc (.cells zeroP 24)) := (Below.refl _ _).alloc (Nat.le_refl _) _
  have HX0 := hide (show (w.alloc (.cells zeroP 24)).heap[w.heap.size]? = some (.cells zeroP 24 (0, 0)) from zbox)
  have hdd : ((200 - d : Nat) : Int) ≤ 201 := by omega
  obtain ⟨x, r, hx⟩ := sgs_ne (s := s) hi
  have hW2 := hW
  rw [hx] at hW2
  obtain ⟨g, o, n, cap, c0, x0, -, hgl, hnc, hmax, -⟩ := hW2.first
  unfold maxLen at hmax
  have hlt := nx_in (s := s) (i := i) (by omega)
  have HT := hide (wtk_ok hi (hW.below hb0) 64 hc (by decide) (by decide) (by decide) (by decide) (by decide))
  have HNM := hide (fun w h => wname_any (w := w) (z := z) (i := sk s i + 1) (s := s) hlt hdd h)
  have HRR := hide (show baP d (B s) s i = bnd (nmP s (sk s i + 1)) fun t e => .ok (mkP 23 ⟨#[]⟩ 0 t [], e) by unfold baP; rw [if_neg (by omega), if_neg (by omega), if_pos hc])
  have hk := kind_chr hi hx hc (by decide) (by decide) (by decide) (by decide)
  have HNL := hide (fun t k => nmP_le (s := s) (i := sk s i + 1) (t := t) (j := k) hs)
  rw [hk] at x0
  simp only [Int.cast_ofNat_Int] at x0
  clear hW hW2 hx hk hb0 hc
  generalize ((200 - d : Nat) : Int) = dd at *
  generalize baP d (B s) s i = RR at *
  generalize sk s i = j at *
  obtain ⟨RN, hRN⟩ : ∃ RN, nmP s (j + 1) = RN := ⟨_, rfl⟩
  rw [hRN] at HNM HRR HNL
  clear hRN
  go_enter Tryd.func28, Tryd.ntmps28
  go_wp2_with fail
  refine (unhide HT).mono ?_
  rintro e w1 ⟨rfl, hb1, hW1⟩
  have hs1 := hb1.size
  rw [World.size_alloc] at hs1
  have HX1 := hide (but_z hb1 (unhide HX0) (by omega))
  have HB1 := hide (((But.refl z w).alloc _).trans hb1)
  have HN1 := hide (unhide HNM w1 hW1)
  clear hb1 hW1 HNM
  unfold sgE
  go_wp2_with fail
  refine (unhide HN1).mono ?_
  intro e w2 hP
  have HX2 := hide (but_z hP.1 (unhide HX1) (by omega))
  rcases RN with ⟨er, a⟩ | ⟨t, k⟩
  · obtain ⟨hb, ⟨t, rfl⟩, D, h1, h2, h3, h4⟩ := wof_err hP rfl
    have HEND := hide (show WPost (patL w.heap.size) patV0 z s dd w RR (.returned (pv (mkP 23 ⟨#[]⟩ 0 t []))) (w2.setRow w.heap.size (patO (mkP 23 ⟨#[]⟩ 0 t []))) from wpost_err (by rw [unhide HRR, bnd_err]) (but_setRow ((unhide HB1).trans hb) (Nat.le_refl _) _) ⟨_, rfl⟩ h1 h2 (h3.box hzl) h4)
    clear hP hb h1 h2 h3 h4
    go_wp2_with (first
      | (refine wpList_store_row rfl 24 _ _ rfl w.heap.size (patO (mkP 23 ⟨#[]⟩ 0 t [])) rfl rfl 24 zeroP (unhide HX2) size_pat rfl (patO_oneC _) ?_)
      | fail)
    (try simp only [Exit.inBlock, Exit.then])
    exact bodyPost_ret (results_cell_row rfl _ _ w.heap.size 24 (patO (mkP 23 ⟨#[]⟩ 0 t [])) (0, 0) _ rfl (setRow_heap _ _ _ _ _ _ (unhide HX2)) Tryd.underlying24 rfl size_pat) rfl (unhide HEND)
  · obtain ⟨hb, hv, h3⟩ := wof_ok hP rfl
    unfold strV at hv
    subst hv
    have HEND := hide (show WPost (patL w.heap.size) patV0 z s dd w RR (.returned (pv (mkP 23 ⟨#[]⟩ 0 t []))) (w2.setRow w.heap.size (patO (mkP 23 ⟨#[]⟩ 0 t []))) from wpost_ok (by rw [unhide HRR, bnd_ok]) (but_setRow ((unhide HB1).trans hb) (Nat.le_refl _) _) ⟨_, rfl, leaf_can _ _ _ _, leaf_lies (by omega) (by omega) (by decide) (unhide HNL t k rfl)⟩ (h3.box hzl))
    clear hP hb h3
    go_wp2_with (first
      | (refine wpList_store_row rfl 24 _ _ rfl w.heap.size (patO (mkP 23 ⟨#[]⟩ 0 t [])) rfl rfl 24 zeroP (unhide HX2) size_pat rfl (patO_oneC _) ?_)
      | fail)
    (try simp only [Exit.inBlock, Exit.then])
    exact bodyPost_ret (results_cell_row rfl _ _ w.heap.size 24 (patO (mkP 23 ⟨#[]⟩ 0 t [])) (0, 0) _ rfl (setRow_heap _ _ _ _ _ _ (unhide HX2)) Tryd.underlying24 rfl size_pat) rfl (unhide HEND)
set_option maxRecDepth 100000 in
set_option maxHeartbeats 4000000 in
theorem wpiece_cal (hd : d ≤ 200) (hs : s.size ≤ 65536) (hi : i ≤ s.size) (hW : Wk w z s (sgs s i) ((200 - d : Nat) : Int) 0 0) (hc : nx s i = 42) :
    Calls Tryd.prog 28 #[.pointer (some ⟨z, 0, none⟩)] w fun e w' => WPost (patL w.heap.size) patV0 z s ((200 - d : Nat) : Int) w (baP d (B s) s i) e w' := by
  have hzl := hW.lt
  have hb0 : Below w.heap.size w (w.alloc (.cells zeroP 24)) := (Below.refl _ _).alloc (Nat.le_refl _) _
  have HX0 := hide (show (w.alloc (.cells zeroP 24)).heap[w.heap.size]? = some (.cells zeroP 24 (0, 0)) from zbox)
  have hdd : ((200 - d : Nat) : Int) ≤ 201 := by omega
  obtain ⟨x, r, hx⟩ := sgs_ne (s := s) hi
  have hW2 := hW
  rw [hx] at hW2
  obtain ⟨g, o, n, cap, c0, x0, -, hgl, hnc, hmax, -⟩ := hW2.first
  unfold maxLen at hmax
  have hlt := nx_in (s := s) (i := i) (by omega)
  have HT := hide (wtk_ok hi (hW.below hb0) 42 hc (by decide) (by decide) (by decide) (by decide) (by decide))
  have HNM := hide (fun w h => wname_any (w := w) (z := z) (i := sk s i + 1) (s := s) hlt hdd h)
  have HRR := hide (show baP d (B s) s i = bnd (nmP s (sk s i + 1)) fun t e => .ok (mkP 24 ⟨#[]⟩ 0 t [], e) by unfold baP; rw [if_neg (by omega), if_neg (by omega), if_neg (by omega), if_pos hc])
  have hk := kind_chr hi hx hc (by decide) (by decide) (by decide) (by decide)
  have HNL := hide (fun t k => nmP_le (s := s) (i := sk s i + 1) (t := t) (j := k) hs)
  rw [hk] at x0
  simp only [Int.cast_ofNat_Int] at x0
  clear hW hW2 hx hk hb0 hc
  generalize ((200 - d : Nat) : Int) = dd at *
  generalize baP d (B s) s i = RR at *
  generalize sk s i = j at *
  obtain ⟨RN, hRN⟩ : ∃ RN, nmP s (j + 1) = RN := ⟨_, rfl⟩
  rw [hRN] at HNM HRR HNL
  clear hRN
  go_enter Tryd.func28, Tryd.ntmps28
  go_wp2_with fail
  refine (unhide HT).mono ?_
  rintro e w1 ⟨rfl, hb1, hW1⟩
  have hs1 := hb1.size
  rw [World.size_alloc] at hs1
  have HX1 := hide (but_z hb1 (unhide HX0) (by omega))
  have HB1 := hide (((But.refl z w).alloc _).trans hb1)
  have HN1 := hide (unhide HNM w1 hW1)
  clear hb1 hW1 HNM
  unfold sgE
  go_wp2_with fail
  refine (unhide HN1).mono ?_
  intro e w2 hP
  have HX2 := hide (but_z hP.1 (unhide HX1) (by omega))
  rcases RN with ⟨er, a⟩ | ⟨t, k⟩
  · obtain ⟨hb, ⟨t, rfl⟩, D, h1, h2, h3, h4⟩ := wof_err hP rfl
    have HEND := hide (show WPost (patL w.heap.size) patV0 z s dd w RR (.returned (pv (mkP 24 ⟨#[]⟩ 0 t []))) (w2.setRow w.heap.size (patO (mkP 24 ⟨#[]⟩ 0 t []))) from wpost_err (by rw [unhide HRR, bnd_err]) (but_setRow ((unhide HB1).trans hb) (Nat.le_refl _) _) ⟨_, rfl⟩ h1 h2 (h3.box hzl) h4)
    clear hP hb h1 h2 h3 h4
    go_wp2_with (first
      | (refine wpList_store_row rfl 24 _ _ rfl w.heap.size (patO (mkP 24 ⟨#[]⟩ 0 t [])) rfl rfl 24 zeroP (unhide HX2) size_pat rfl (patO_oneC _) ?_)
      | fail)
    (try simp only [Exit.inBlock, Exit.then])
    exact bodyPost_ret (results_cell_row rfl _ _ w.heap.size 24 (patO (mkP 24 ⟨#[]⟩ 0 t [])) (0, 0) _ rfl (setRow_heap _ _ _ _ _ _ (unhide HX2)) Tryd.underlying24 rfl size_pat) rfl (unhide HEND)
  · obtain ⟨hb, hv, h3⟩ := wof_ok hP rfl
    unfold strV at hv
    subst hv
    have HEND := hide (show WPost (patL w.heap.size) patV0 z s dd w RR (.returned (pv (mkP 24 ⟨#[]⟩ 0 t []))) (w2.setRow w.heap.size (patO (mkP 24 ⟨#[]⟩ 0 t []))) from wpost_ok (by rw [unhide HRR, bnd_ok]) (but_setRow ((unhide HB1).trans hb) (Nat.le_refl _) _) ⟨_, rfl, leaf_can _ _ _ _, leaf_lies (by omega) (by omega) (by decide) (unhide HNL t k rfl)⟩ (h3.box hzl))
    clear hP hb h3
    go_wp2_with (first
      | (refine wpList_store_row rfl 24 _ _ rfl w.heap.size (patO (mkP 24 ⟨#[]⟩ 0 t [])) rfl rfl 24 zeroP (unhide HX2) size_pat rfl (patO_oneC _) ?_)
      | fail)
    (try simp only [Exit.inBlock, Exit.then])
    exact bodyPost_ret (results_cell_row rfl _ _ w.heap.size 24 (patO (mkP 24 ⟨#[]⟩ 0 t [])) (0, 0) _ rfl (setRow_heap _ _ _ _ _ _ (unhide HX2)) Tryd.underlying24 rfl size_pat) rfl (unhide HEND)
set_option maxRecDepth 100000 in
set_option maxHeartbeats 4000000 in
theorem wpiece_non (hd : d ≤ 200) (_hs : s.size ≤ 65536) (hi : i ≤ s.size) (hW : Wk w z s (sgs s i) ((200 - d : Nat) : Int) 0 0) (h39 : nx s i ≠ 39) (h40 : nx s i ≠ 40) (h64 : nx s i ≠ 64) (h42 : nx s i ≠ 42) (hl : letterN (nx s i) = false) :
    Calls Tryd.prog 28 #[.pointer (some ⟨z, 0, none⟩)] w fun e w' => WPost (patL w.heap.size) patV0 z s ((200 - d : Nat) : Int) w (baP d (B s) s i) e w' := by
  have hzl := hW.lt
  have hb0 : Below w.heap.size w (w.alloc (.cells zeroP 24)) := (Below.refl _ _).alloc (Nat.le_refl _) _
  have HX0 := hide (show (w.alloc (.cells zeroP 24)).heap[w.heap.size]? = some (.cells zeroP 24 (0, 0)) from zbox)
  have hdd : ((200 - d : Nat) : Int) ≤ 201 := by omega
  obtain ⟨x, r, hx, -, hk⟩ := sgs_any (s := s) hi
  have hW2 := hW
  rw [hx] at hW2
  obtain ⟨g, o, n, cap, c0, x0, -, hgl, hnc, hmax, -⟩ := hW2.first
  unfold maxLen at hmax
  have HT := hide (wtw_no hi (hW.below hb0) 303 (.inl ⟨rfl, hl⟩))
  have HRR := hide (show baP d (B s) s i = .error (2, sk s i) by unfold baP; rw [if_neg h39, if_neg h40, if_neg h64, if_neg h42, if_neg (by rw [hl]; decide)])
  rw [hl] at hk
  simp only [Bool.false_eq_true, and_false, false_or, true_and] at hk
  have hb255 : nx s i < 256 := bat_lt s (sk s i)
  have e1 : ((x.k : Int) == 40) = false := by rw [beq_eq_false_iff_ne]; omega
  have e2 : ((x.k : Int) == 302) = false := by rw [beq_eq_false_iff_ne]; omega
  have e3 : ((x.k : Int) == 301) = false := by rw [beq_eq_false_iff_ne]; omega
  have e4 : ((x.k : Int) == 64) = false := by rw [beq_eq_false_iff_ne]; omega
  have e5 : ((x.k : Int) == 42) = false := by rw [beq_eq_false_iff_ne]; omega
  clear hW hW2 hx hk hb0 h39 h40 h64 h42 hl hb255
  generalize ((200 - d : Nat) : Int) = dd at *
  generalize baP d (B s) s i = RR at *
  generalize sk s i = j at *
  go_enter Tryd.func28, Tryd.ntmps28
  go_wp2_with fail
  refine (unhide HT).mono ?_
  rintro e w1 ⟨⟨y, rfl⟩, hb1, hW1⟩
  have hs1 := hb1.size
  rw [World.size_alloc] at hs1
  have HX1 := hide (but_z hb1 (unhide HX0) (by omega))
  have HB1 := hide (((But.refl z w).alloc _).trans hb1)
  obtain ⟨-, c3, -⟩ := hW1.cells
  have hzl1 := hW1.lt
  have HW1 := hide hW1
  clear hb1 hW1
  unfold sgE
  have HX2 := hide (at_old (o := .cells #[.int .i64 (y.k : Int), .string y.t, .int .i64 (y.a : Int), .int .i64 (y.e : Int)] 42) (by omega) (unhide HX1))
  go_wp2_with (first
    | (refine wpList_store_row rfl 24 _ _ rfl w.heap.size (patO (mkP 0 ⟨#[]⟩ 0 ⟨#[]⟩ [])) rfl rfl 24 zeroP (unhide HX2) size_pat rfl (patO_oneC _) ?_)
    | fail)
  (try simp only [Exit.inBlock, Exit.then])
  exact bodyPost_ret (results_cell_row rfl _ _ w.heap.size 24 (patO (mkP 0 ⟨#[]⟩ 0 ⟨#[]⟩ [])) (0, 0) _ rfl (setRow_heap _ _ _ _ _ _ (unhide HX2)) Tryd.underlying24 rfl size_pat) rfl (wpost_err (unhide HRR) (but_setRow ((unhide HB1).alloc _) (Nat.le_refl _) _) ⟨mkP 0 ⟨#[]⟩ 0 ⟨#[]⟩ [], rfl⟩ (Int.le_refl _) hdd (((unhide HW1).below ((Below.refl _ _).alloc (Nat.le_refl _) _)).box hzl))
end
end Go.Proofs.YtimbfelbalfmiaaDoor
