/- What the document's Read answers. -/
import Derived.Test.YtimbfelbalfmiaaDoorRsB
import Derived.Test.YtimbfelbalfmiaaDoorRsK
import Derived.Test.YtimbfelbalfmiaaDoorRsL
import Derived.Test.YtimbfelbalfmiaaDoorRdN
import Derived.Test.YtimbfelbalfmiaaDoorRefSize4
namespace Go.Proofs.YtimbfelbalfmiaaDoor
open Go.RowKit

theorem alF_sk {d : Nat} {B : Nat → Rd PT} {s : ByteArray} : ∀ f l i x j, alF d B s f l i = .ok (x, j) → sk s j = j
  | 0, l, i, x, j, h => by cases h
  | f + 1, l, i, x, j, h => by
    rw [alF] at h
    by_cases q : nx s i = 124
    · rw [if_pos q] at h
      obtain ⟨t, e, h1, h2⟩ := bnd_some h
      exact alF_sk f _ e x j h2
    · rw [if_neg q] at h
      injection h with h; injection h with ha hb
      subst hb
      exact sk_sk s i
theorem alP_sk {d : Nat} {B : Nat → Rd PT} {s : ByteArray} {i j : Nat} {x : PT} (h : alP d B s i = .ok (x, j)) : sk s j = j := by
  unfold alP at h
  obtain ⟨p, e, h1, h2⟩ := bnd_some h
  obtain ⟨l, m, h4, h5⟩ := bnd_some h2
  injection h5 with h5; injection h5 with ha hb
  subst hb
  exact alF_sk _ _ _ _ _ h4
theorem alD_sk {s : ByteArray} {d i j : Nat} {x : PT} (h : alD s d i = .ok (x, j)) : sk s j = j := by
  cases d with
  | zero => rw [alD] at h; exact alP_sk h
  | succ d => rw [alD] at h; exact alP_sk h
/-- The walk as it begins. -/
theorem wk_new {w1 : World} {B : Nat} {v : Value} {s : ByteArray} (h : SRow w1 B v (sgs s 0)) : ∃ g cap, v = .slice (some ⟨g, 0, none⟩) (sgs s 0).length cap ∧ g < w1.heap.size ∧ Wk (w1.alloc (.cells #[v, .string s, .int .i64 0, .int .i64 0, .int .i64 0] 39)) w1.heap.size s (sgs s 0) 0 0 0 := by
  obtain ⟨x, r, hx⟩ := sgs_ne (s := s) (i := 0) (Nat.zero_le _)
  obtain ⟨g, cap, rfl, h1, h2⟩ := h.form (by rw [hx]; simp)
  have hlow := h.low (k := g) rfl
  refine ⟨g, cap, rfl, hlow.2, g, 0, cap, at_new rfl, hlow.2, h1, h2, ?_⟩
  have hb : Below w1.heap.size w1 (w1.alloc (.cells #[.slice (some ⟨g, 0, none⟩) (sgs s 0).length cap, .string s, .int .i64 0, .int .i64 0, .int .i64 0] 39)) := (Below.refl _ _).alloc (Nat.le_refl _) _
  have h' := h.later hb
  intro i y hy
  refine ⟨?_, ?_, ?_, ?_⟩
  · have := h'.cell sgV_len rfl hy (k := 0) rfl; simpa using this
  · have := h'.cell sgV_len rfl hy (k := 1) rfl; simpa using this
  · have := h'.cell sgV_len rfl hy (k := 2) rfl; simpa using this
  · have := h'.cell sgV_len rfl hy (k := 3) rfl; simpa using this
theorem big_err {s : ByteArray} (h : 65536 < s.size) : rdP s = .error (4, 0) := if_pos h
theorem rdP_small {s : ByteArray} (h : ¬ 65536 < s.size) : rdP s = bnd (rdA s) fun p j => if p.fits = true then .ok (p, j) else .error (4, 0) := if_neg h
theorem res_twoD (tmps : Array Value) (W : World) (gp gf : Nat) (cs fs : Array Value) (h2 : tmps.getD 2 undef = .pointer (some ⟨gp, 0, none⟩)) (h3 : tmps.getD 3 undef = .pointer (some ⟨gf, 0, none⟩)) (hp : W.heap[gp]? = some (.cells cs 24 (0, 0))) (hf : W.heap[gf]? = some (.cells fs 27 (0, 0))) (hcs : cs.size = 5) (hfs : fs.size = 2) :
    (results Tryd.f5 tmps).run Tryd.prog W = .ok (.tuple #[.agg cs, .agg fs]) W := by
  have h2' : tmps[2]?.getD undef = .pointer (some ⟨gp, 0, none⟩) := by simpa using h2
  have h3' : tmps[3]?.getD undef = .pointer (some ⟨gf, 0, none⟩) := by simpa using h3
  have e1 := run_loadVar_row (P := Tryd.prog) W gp 24 24 cs (0, 0) _ hp Tryd.underlying24 rfl (by rw [hcs]; exact size_pat)
  have e2 := run_loadVar_row (P := Tryd.prog) W gf 27 27 fs (0, 0) _ hf Tryd.underlying27 rfl (by rw [hfs]; exact size_fault)
  simp [results, Tryd.results5, h2', h3', asAddr, e1, e2]
set_option maxRecDepth 100000 in
set_option maxHeartbeats 8000000 in
theorem refRead_any (s : ByteArray) (w : World) : Calls Tryd.prog 5 #[.string s] w fun e w' => ReadPost s w e w' := by
  obtain ⟨w0, hw0⟩ : ∃ w0, w0 = (w.alloc (.cells zeroP 24)).alloc (.cells #[.int .i64 0, .int .i64 0] 27) := ⟨_, rfl⟩
  have hb0 : Below w.heap.size w w0 := by rw [hw0]; exact ((Below.refl _ _).alloc (Nat.le_refl _) _).alloc (by simp) _
  have hsz : w0.heap.size = w.heap.size + 1 + 1 := by rw [hw0]; simp
  have hf0 : w0.heap[w.heap.size + 1]? = some (.cells #[.int .i64 0, .int .i64 0] 27 (0, 0)) := by rw [hw0]; exact at_new (by simp)
  have hp0 : w0.heap[w.heap.size]? = some (.cells zeroP 24 (0, 0)) := by rw [hw0]; exact at_old (by simp) zbox
  have HW := hide hw0
  have HB0 := hide hb0
  have HF0 := hide hf0
  have HP0 := hide hp0
  clear hb0 hf0 hp0 hw0
  by_cases hs : 65536 < s.size
  · have HE := hide (big_err hs)
    have hg : (65536 : Int) < (s.size : Int) := by omega
    clear hs
    go_enter Tryd.func5, Tryd.ntmps5
    go_wp2_with fail
    exact bodyPost_ret (res_twoD _ _ w.heap.size (w.heap.size + 1) zeroP #[.int .i64 4, .int .i64 0] rfl rfl (at_old (by simp) zbox) (at_new (by simp)) rfl rfl) rfl (read_err (unhide HE) (((Below.refl _ _).alloc (Nat.le_refl _) _).alloc (by simp) _) rfl)
  · have HRQ := hide (rdP_small hs)
    have hs' : s.size ≤ 65536 := by omega
    have hg : ¬ (65536 : Int) < (s.size : Int) := by omega
    have HSI := hide (signs_any s hs' w0)
    obtain ⟨D, hD⟩ : ∃ D, D = 200 := ⟨_, rfl⟩
    have HRD := hide (show rdA s = bnd (alD s D 0) fun p j => if j < s.size then .error (2, j) else .ok (p, j) by rw [hD]; rfl)
    have HAL := hide (fun z w2 (h : Wk w2 z s (sgs s 0) 0 0 0) => (show Calls Tryd.prog 10 #[.pointer (some ⟨z, 0, none⟩)] w2 fun e w' => WPost (patL w2.heap.size) patV0 z s 0 w2 (alD s D 0) e w' from by
      have ho : ((200 - D : Nat) : Int) = 0 := by omega
      have q := walts_says D (by omega) s 0 z w2 hs' (Nat.zero_le _)
      rw [ho] at q
      exact q h))
    have HAD := hide (fun p j => alD_adv s D 0 p j (Nat.zero_le _))
    have HAZ := hide (fun p j => alD_sz s D 0 p j (Nat.zero_le _))
    have HAS := hide (fun p j => alD_sk (s := s) (d := D) (i := 0) (j := j) (x := p))
    obtain ⟨RP, hRP⟩ : ∃ RP, rdP s = RP := ⟨_, rfl⟩
    have HRP := hide hRP
    rw [hRP] at HRQ
    generalize rdA s = RA at *
    generalize alD s D 0 = R at *
    clear hRP hD D hs
    go_enter Tryd.func5, Tryd.ntmps5
    go_wp2_with fail
    rw [show (w.alloc (.cells #[.int .i64 0, .string ⟨#[]⟩, .int .i64 0, .string ⟨#[]⟩, .slice none 0 0] 24)).alloc (.cells #[.int .i64 0, .int .i64 0] 27) = w0 from (unhide HW).symm]
    refine (unhide HSI).mono ?_
    rintro e w1 ⟨v, n, rfl, hrow, hb1⟩
    obtain ⟨g, cap, rfl, hgl, hWk⟩ := wk_new hrow
    have hsz1 := hb1.size
    have HB1 := hide (bnext (unhide HB0) hb1)
    have HF1 := hide (row_below (unhide HF0) hb1)
    have HP1 := hide (row_below (unhide HP0) hb1)
    have hb2 : Below w1.heap.size w1 (w1.alloc (.cells #[.slice (some ⟨g, 0, none⟩) (sgs s 0).length cap, .string s, .int .i64 0, .int .i64 0, .int .i64 0] 39)) := (Below.refl _ _).alloc (Nat.le_refl _) _
    have HA2 := hide (unhide HAL _ _ hWk)
    have HB2 := hide (bnext (unhide HB1) hb2)
    have HF2 := hide (row_below (unhide HF1) hb2)
    have HP2 := hide (row_below (unhide HP1) hb2)
    have hsz2 : (w1.alloc (.cells #[.slice (some ⟨g, 0, none⟩) (sgs s 0).length cap, .string s, .int .i64 0, .int .i64 0, .int .i64 0] 39)).heap.size = w1.heap.size + 1 := World.size_alloc _ _
    clear hrow hb1 hWk hb2 HAL HSI HB1 HF1 HP1 HB0 HF0 HP0 HW
    generalize (sgs s 0).length = ln at *
    go_wp2_with fail
    generalize w1.alloc (.cells #[.slice (some ⟨g, 0, none⟩) ln cap, .string s, .int .i64 0, .int .i64 0, .int .i64 0] 39) = w2 at *
    generalize w1.heap.size = z at *
    refine (unhide HA2).mono ?_
    intro e w3 hP
    have hs3 := hP.1.size
    rcases R with ⟨er, a⟩ | ⟨p, j⟩
    · obtain ⟨hb3, ⟨U, rfl⟩, D, -, -, hW3, her⟩ := wof_err hP rfl
      have hb4 : Below w3.heap.size w3 (w3.alloc (.cells (patO U) 24)) := (Below.refl _ _).alloc (Nat.le_refl _) _
      have q3 : (er == 0) = false := by rw [beq_eq_false_iff_ne]; exact her
      have hz3 := hW3.lt
      obtain ⟨x, r, gw, ow, cw, hwg⟩ := hW3
      obtain ⟨-, -, -, c3, c4⟩ := hwg.cells
      have HE := hide (show RP = .error (er, a) by rw [unhide HRQ, unhide HRD, bnd_err, bnd_err])
      have hf3 := row_below (but_z hb3 (unhide HF2) (by omega)) hb4
      have hp3 := row_below (but_z hb3 (unhide HP2) (by omega)) hb4
      have HF3 := hide hf3
      have HP3 := hide hp3
      have HB4 := hide (bnext (But.below (unhide HB2) hb3 (by omega)) hb4)
      have HC3 := hide (cell_later hb4 c3)
      have HC4 := hide (cell_later hb4 c4)
      clear hP hwg hf3 hp3 her hb4 hb3
      unfold pv
      go_wp2_with fail
      rw [show (#[.int .i64 U.k, .string U.t, .int .i64 U.n, .string U.nm, .slice U.xa U.len U.cap] : Array Value) = patO U from rfl]
      clear c3 c4
      generalize w3.alloc (.cells (patO U) 24) = w4 at *
      have c3 := unhide HC3
      have c4 := unhide HC4
      obtain ⟨p0, p1, p2, p3, p4⟩ := pats5s (unhide HP3)
      obtain ⟨f0, f1⟩ := fault2 (unhide HF3)
      have fp0 := frozen_of_row w4 w.heap.size 0 _ _ (unhide HP3)
      have fp1 := frozen_of_row w4 w.heap.size 1 _ _ (unhide HP3)
      have fp2 := frozen_of_row w4 w.heap.size 2 _ _ (unhide HP3)
      have fp3 := frozen_of_row w4 w.heap.size 3 _ _ (unhide HP3)
      have fp4 := frozen_of_row w4 w.heap.size 4 _ _ (unhide HP3)
      have ff0 := frozen_of_row w4 (w.heap.size + 1) 0 _ _ (unhide HF3)
      have ff1 := frozen_of_row w4 (w.heap.size + 1) 1 _ _ (unhide HF3)
      have n1 : ¬ z = w.heap.size := by omega
      have n2 : ¬ z = w.heap.size + 1 := by omega
      obtain ⟨W7, hW7⟩ : ∃ W7, W7 = (set7 w4 w.heap.size (w.heap.size + 1) (.int .i64 0) (.string ⟨#[]⟩) (.int .i64 0) (.string ⟨#[]⟩) (.slice none 0 0) (.int .i64 er) (.int .i64 (a : Int))).drew := ⟨_, rfl⟩
      have H7 := hide (show W7.heap[w.heap.size]? = some (.cells zeroP 24 (0, 0)) ∧ W7.heap[w.heap.size + 1]? = some (.cells #[.int .i64 er, .int .i64 (a : Int)] 27 (0, 0)) ∧ Below w.heap.size w W7 from by
        have h := set7_all (unhide HP3) (unhide HF3) (by omega) (unhide HB4) (Nat.le_refl _) (by omega) (.int .i64 0) (.string ⟨#[]⟩) (.int .i64 0) (.string ⟨#[]⟩) (.slice none 0 0) (.int .i64 er) (.int .i64 (a : Int))
        rw [hW7, heap_drew]
        exact ⟨h.1, h.2.1, h.2.2.1.drew⟩)
      have HW7 := hide hW7
      clear hW7
      go_region
      go_wp2_with fail
      show bodyPost _ _ _ _ _ (set7 w4 w.heap.size (w.heap.size + 1) (.int .i64 0) (.string ⟨#[]⟩) (.int .i64 0) (.string ⟨#[]⟩) (.slice none 0 0) (.int .i64 er) (.int .i64 (a : Int))).drew
      rw [← unhide HW7]
      exact bodyPost_ret (res_twoD _ W7 w.heap.size (w.heap.size + 1) zeroP #[.int .i64 er, .int .i64 (a : Int)] rfl rfl (unhide H7).1 (unhide H7).2.1 rfl rfl) rfl (read_err ((unhide HRP).trans (unhide HE)) (unhide H7).2.2 rfl)
    · obtain ⟨hb3, ⟨U, rfl, hUc, hUl⟩, hW3⟩ := wof_ok hP rfl
      have hadv := unhide HAD p j rfl
      have hsk := unhide HAS p j rfl
      have hsz4 := unhide HAZ p j rfl
      obtain ⟨x, r, hx, hxa, hxk⟩ := sgs_any (s := s) hadv.2
      rw [hsk] at hxa
      have hb255 : nx s j < 256 := bat_lt s (sk s j)
      have hb4 : Below w3.heap.size w3 (w3.alloc (.cells (patO U) 24)) := (Below.refl _ _).alloc (Nat.le_refl _) _
      rw [hx] at hW3
      have hW4 := hW3.below hb4
      have HW4 := hide hW4
      obtain ⟨gw, ow, nw, cw, c0, x0, x2, hgw, hnc, hmax, hz3⟩ := hW3.first
      rw [hxa] at x2
      unfold maxLen at hmax
      have c3 := hW3.cells.2.1
      have HRR := hide (show RP = bnd (if j < s.size then (.error (2, j) : Rd PT) else .ok (p, j)) fun p j => if p.fits = true then .ok (p, j) else .error (4, 0) by rw [unhide HRQ, unhide HRD, bnd_ok])
      have hf3 := row_below (but_z hb3 (unhide HF2) (by omega)) hb4
      have hp3 := row_below (but_z hb3 (unhide HP2) (by omega)) hb4
      have HB4 := hide (bnext (But.below (unhide HB2) hb3 (by omega)) hb4)
      have hgp := hz3
      by_cases hj : j < s.size
      · have hk : x.k ≠ 305 := by
          rw [hsk] at hxk
          omega
        have q1 : ((x.k : Int) == 305) = false := by rw [beq_eq_false_iff_ne]; omega
        have HE := hide (show RP = .error (2, j) by rw [unhide HRR, if_pos hj, bnd_err])
        have HS := hide (wstop_ok hW4 2 (j : Int))
        have HF3 := hide hf3
        have HP3 := hide hp3
        clear hP hf3 hp3 hb4 hb3 hxk hk hj hx hW3 hW4 hUl hUc hxa hsk hsz4
        unfold pv
        go_wp2_with fail
        rw [show (#[.int .i64 U.k, .string U.t, .int .i64 U.n, .string U.nm, .slice U.xa U.len U.cap] : Array Value) = patO U from rfl]
        refine (unhide HS).mono ?_
        rintro e w4 ⟨rfl, hb5, hW5⟩
        have HF3 := hide (but_z hb5 (unhide HF3) (by omega))
        have HP3 := hide (but_z hb5 (unhide HP3) (by omega))
        have HB4 := hide (But.below (unhide HB4) hb5 (by omega))
        obtain ⟨g5, o5, c5, hwg⟩ := hW5
        have hz4 := hwg.lt
        clear c3
        obtain ⟨-, -, -, c3, c4⟩ := hwg.cells
        clear hb5 hwg
        go_wp2_with fail
        obtain ⟨p0, p1, p2, p3, p4⟩ := pats5s (unhide HP3)
        obtain ⟨f0, f1⟩ := fault2 (unhide HF3)
        have fp0 := frozen_of_row w4 w.heap.size 0 _ _ (unhide HP3)
        have fp1 := frozen_of_row w4 w.heap.size 1 _ _ (unhide HP3)
        have fp2 := frozen_of_row w4 w.heap.size 2 _ _ (unhide HP3)
        have fp3 := frozen_of_row w4 w.heap.size 3 _ _ (unhide HP3)
        have fp4 := frozen_of_row w4 w.heap.size 4 _ _ (unhide HP3)
        have ff0 := frozen_of_row w4 (w.heap.size + 1) 0 _ _ (unhide HF3)
        have ff1 := frozen_of_row w4 (w.heap.size + 1) 1 _ _ (unhide HF3)
        have n1 : ¬ z = w.heap.size := by omega
        have n2 : ¬ z = w.heap.size + 1 := by omega
        obtain ⟨W7, hW7⟩ : ∃ W7, W7 = (set7 w4 w.heap.size (w.heap.size + 1) (.int .i64 0) (.string ⟨#[]⟩) (.int .i64 0) (.string ⟨#[]⟩) (.slice none 0 0) (.int .i64 2) (.int .i64 (j : Int))).drew := ⟨_, rfl⟩
        have H7 := hide (show W7.heap[w.heap.size]? = some (.cells zeroP 24 (0, 0)) ∧ W7.heap[w.heap.size + 1]? = some (.cells #[.int .i64 2, .int .i64 (j : Int)] 27 (0, 0)) ∧ Below w.heap.size w W7 from by
          have h := set7_all (unhide HP3) (unhide HF3) (by omega) (unhide HB4) (Nat.le_refl _) (by omega) (.int .i64 0) (.string ⟨#[]⟩) (.int .i64 0) (.string ⟨#[]⟩) (.slice none 0 0) (.int .i64 2) (.int .i64 (j : Int))
          rw [hW7, heap_drew]
          exact ⟨h.1, h.2.1, h.2.2.1.drew⟩)
        have HW7 := hide hW7
        clear hW7
        go_region
        go_wp2_with fail
        show bodyPost _ _ _ _ _ (set7 w4 w.heap.size (w.heap.size + 1) (.int .i64 0) (.string ⟨#[]⟩) (.int .i64 0) (.string ⟨#[]⟩) (.slice none 0 0) (.int .i64 2) (.int .i64 (j : Int))).drew
        rw [← unhide HW7]
        exact bodyPost_ret (res_twoD _ W7 w.heap.size (w.heap.size + 1) zeroP #[.int .i64 2, .int .i64 (j : Int)] rfl rfl (unhide H7).1 (unhide H7).2.1 rfl rfl) rfl (read_err ((unhide HRP).trans (unhide HE)) (unhide H7).2.2 rfl)
      · have hk : x.k = 305 := by
          have hsj : sk s j = s.size := by omega
          have h0 : nx s j = 0 := bat_end s _ (by omega)
          rw [h0, show letterN 0 = false by decide, show digitN 0 = false by decide] at hxk
          simp only [Bool.false_eq_true, and_false, false_or] at hxk
          omega
        rw [hk] at x0
        simp only [Int.cast_ofNat_Int] at x0
        have HR2 := hide (show RP = if p.fits = true then .ok (p, j) else .error (4, 0) by rw [unhide HRR, if_neg hj, bnd_ok])
        have hUb : U.cnt ≤ 1048576 := by
          have e : U.cnt = p.cnt := by rw [← hUc, can_cnt]
          omega
        have HSZ := hide (refSize_any U _ (hUl.below hb4).here hUb)
        have HF3 := hide hf3
        have HP3 := hide hp3
        have HU := hide (And.intro hUc (hUl.below hb4))
        obtain ⟨g0, g1, g2, g3, g4⟩ := pats5s (show (w3.alloc (.cells (patO U) 24)).heap[w3.heap.size]? = some (.cells (patO U) 24 (0, 0)) from at_new rfl)
        have HG := hide (show (w3.alloc (.cells (patO U) 24)).heap[w3.heap.size]? = some (.cells (patO U) 24 (0, 0)) from at_new rfl)
        have HFI := hide (show p.fits = U.fits by rw [← hUc]; unfold PT.fits; rw [can_cnt, can_dep])
        have HSD := hide (show sizeRef U = if U.fits then .tuple #[.int .i64 (U.cnt : Int), .int .i64 (U.dep : Int), .bool true] else .tuple #[.int .i64 0, .int .i64 0, .bool false] from rfl)
        generalize sizeRef U = SD at *
        generalize U.fits = FT at *
        clear hP hf3 hp3 hb4 hb3 hxk hk hj hx hW3 hW4 hUl hUc hxa hsk hsz4 hUb g0 g1 g2 g3 g4
        unfold pv at HSZ ⊢
        go_wp2_with fail
        rw [show (#[.int .i64 U.k, .string U.t, .int .i64 U.n, .string U.nm, .slice U.xa U.len U.cap] : Array Value) = patO U from rfl] at HSZ ⊢
        refine (unhide HSZ).mono ?_
        rintro e w4 ⟨rfl, hb5⟩
        have HF3 := hide (row_below (unhide HF3) hb5)
        have HP3 := hide (row_below (unhide HP3) hb5)
        have HB4 := hide (bnext (unhide HB4) hb5)
        have HU4 := hide ((unhide HU).2.below hb5)
        obtain ⟨g0, g1, g2, g3, g4⟩ := pats5s (row_below (unhide HG) hb5)
        have hw4 : w3.heap.size < w4.heap.size := by have := hb5.size; rw [World.size_alloc] at this; omega
        clear hb5
        obtain ⟨p0, p1, p2, p3, p4⟩ := pats5s (unhide HP3)
        obtain ⟨f0, f1⟩ := fault2 (unhide HF3)
        have fp0 := frozen_of_row w4 w.heap.size 0 _ _ (unhide HP3)
        have fp1 := frozen_of_row w4 w.heap.size 1 _ _ (unhide HP3)
        have fp2 := frozen_of_row w4 w.heap.size 2 _ _ (unhide HP3)
        have fp3 := frozen_of_row w4 w.heap.size 3 _ _ (unhide HP3)
        have fp4 := frozen_of_row w4 w.heap.size 4 _ _ (unhide HP3)
        have ff0 := frozen_of_row w4 (w.heap.size + 1) 0 _ _ (unhide HF3)
        have ff1 := frozen_of_row w4 (w.heap.size + 1) 1 _ _ (unhide HF3)
        have n1 : ¬ z = w.heap.size := by omega
        have n2 : ¬ z = w.heap.size + 1 := by omega
        cases FT
        · have HSE := hide (show SD = .tuple #[.int .i64 0, .int .i64 0, .bool false] by rw [unhide HSD]; rfl)
          rw [unhide HSE]
          have HE := hide (show RP = .error (4, 0) by rw [unhide HR2, unhide HFI, if_neg (by decide)])
          have H7 := hide (set7_all (unhide HP3) (unhide HF3) (by omega) (unhide HB4) (Nat.le_refl _) (by omega) (.int .i64 0) (.string ⟨#[]⟩) (.int .i64 0) (.string ⟨#[]⟩) (.slice none 0 0) (.int .i64 4) (.int .i64 0))
          go_wp2_with fail
          exact bodyPost_ret (res_twoD _ _ w.heap.size (w.heap.size + 1) zeroP #[.int .i64 4, .int .i64 0] rfl rfl (unhide H7).1 (unhide H7).2.1 rfl rfl) rfl (read_err ((unhide HRP).trans (unhide HE)) (unhide H7).2.2.1 rfl)
        · have HSE := hide (show SD = .tuple #[.int .i64 (U.cnt : Int), .int .i64 (U.dep : Int), .bool true] by rw [unhide HSD]; rfl)
          rw [unhide HSE]
          have HE := hide (show RP = .ok (p, j) by rw [unhide HR2, unhide HFI, if_pos rfl])
          have H7 := hide (set7_all (unhide HP3) (unhide HF3) (by omega) (unhide HB4) (Nat.le_refl _) (by omega) (.int .i64 U.k) (.string U.t) (.int .i64 U.n) (.string U.nm) (.slice U.xa U.len U.cap) (.int .i64 0) (.int .i64 0))
          go_wp2_with fail
          exact bodyPost_ret (res_twoD _ _ w.heap.size (w.heap.size + 1) (patO U) #[.int .i64 0, .int .i64 0] rfl rfl (unhide H7).1 (unhide H7).2.1 rfl rfl) rfl (read_ok ((unhide HRP).trans (unhide HE)) (unhide H7).2.2.1 rfl (unhide HU).1 (((unhide HU4).step (Nat.le_of_eq (unhide H7).2.2.2.2.symm) (fun i h1 _ => (unhide H7).2.2.2.1 i (by omega) (by omega))).mono (by omega)))
end Go.Proofs.YtimbfelbalfmiaaDoor
