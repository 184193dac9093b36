/- What pats.Read answers, for every text. -/
import Derived.Test.YtimbfelbalfmiaaDoorRdM
import Derived.Test.YtimbfelbalfmiaaDoorRdNz
namespace Go.Proofs.YtimbfelbalfmiaaDoor
open Go.RowKit

theorem fault2 {w : World} {z : Nat} {a b : Value} (h : w.heap[z]? = some (.cells #[a, b] 27 (0, 0))) : w.cell? ⟨z, 0, none⟩ = some a ∧ w.cell? ⟨z, 1, none⟩ = some b := by
  constructor <;> (rw [cell_of_row _ _ _ _ _ _ h]; rfl)
theorem res_twoR (tmps : Array Value) (W : World) (gp gf : Nat) (cs fs : Array Value) (h2 : tmps.getD 2 undef = .pointer (some ⟨gp, 0, none⟩)) (h3 : tmps.getD 3 undef = .pointer (some ⟨gf, 0, none⟩)) (hp : W.heap[gp]? = some (.cells cs 24 (0, 0))) (hf : W.heap[gf]? = some (.cells fs 27 (0, 0))) (hcs : cs.size = 5) (hfs : fs.size = 2) :
    (results Tryd.f4 tmps).run Tryd.prog W = .ok (.tuple #[.agg cs, .agg fs]) W := by
  have h2' : tmps[2]?.getD undef = .pointer (some ⟨gp, 0, none⟩) := by simpa using h2
  have h3' : tmps[3]?.getD undef = .pointer (some ⟨gf, 0, none⟩) := by simpa using h3
  have e1 := run_loadVar_row (P := Tryd.prog) W gp 24 24 cs (0, 0) _ hp Tryd.underlying24 rfl (by rw [hcs]; exact size_pat)
  have e2 := run_loadVar_row (P := Tryd.prog) W gf 27 27 fs (0, 0) _ hf Tryd.underlying27 rfl (by rw [hfs]; exact size_fault)
  simp [results, Tryd.results4, h2', h3', asAddr, e1, e2]
/-- Both results' cells are stored. -/
def set7 (w : World) (gp gf : Nat) (v0 v1 v2 v3 v4 x y : Value) : World :=
  ((((((w.setCell ⟨gp, 0, none⟩ v0).setCell ⟨gp, 1, none⟩ v1).setCell ⟨gp, 2, none⟩ v2).setCell ⟨gp, 3, none⟩ v3).setCell ⟨gp, 4, none⟩ v4).setCell ⟨gf, 0, none⟩ x).setCell ⟨gf, 1, none⟩ y
theorem set7_all {w0 w : World} {gp gf : Nat} {u0 u1 u2 u3 u4 a b : Value} (hp : w.heap[gp]? = some (.cells #[u0, u1, u2, u3, u4] 24 (0, 0))) (hf : w.heap[gf]? = some (.cells #[a, b] 27 (0, 0))) (hne : gp ≠ gf) (hB : Below w0.heap.size w0 w) (h1 : w0.heap.size ≤ gp) (h2 : w0.heap.size ≤ gf) (v0 v1 v2 v3 v4 x y : Value) :
    (set7 w gp gf v0 v1 v2 v3 v4 x y).heap[gp]? = some (.cells #[v0, v1, v2, v3, v4] 24 (0, 0)) ∧ (set7 w gp gf v0 v1 v2 v3 v4 x y).heap[gf]? = some (.cells #[x, y] 27 (0, 0)) ∧ Below w0.heap.size w0 (set7 w gp gf v0 v1 v2 v3 v4 x y) ∧ (∀ k, k ≠ gp → k ≠ gf → (set7 w gp gf v0 v1 v2 v3 v4 x y).heap[k]? = w.heap[k]?) ∧ (set7 w gp gf v0 v1 v2 v3 v4 x y).heap.size = w.heap.size := by
  unfold set7
  have e0 := heap_setCell_same w gp 0 _ _ v0 hp
  have e1 := heap_setCell_same _ gp 1 _ _ v1 e0
  have e2 := heap_setCell_same _ gp 2 _ _ v2 e1
  have e3 := heap_setCell_same _ gp 3 _ _ v3 e2
  have e4 := heap_setCell_same _ gp 4 _ _ v4 e3
  have o : ∀ k, k ≠ gp → (((((w.setCell ⟨gp, 0, none⟩ v0).setCell ⟨gp, 1, none⟩ v1).setCell ⟨gp, 2, none⟩ v2).setCell ⟨gp, 3, none⟩ v3).setCell ⟨gp, 4, none⟩ v4).heap[k]? = w.heap[k]? := fun k hk => by
    rw [heap_setCell_other _ ⟨gp, 4, none⟩ k _ hk, heap_setCell_other _ ⟨gp, 3, none⟩ k _ hk, heap_setCell_other _ ⟨gp, 2, none⟩ k _ hk, heap_setCell_other _ ⟨gp, 1, none⟩ k _ hk, heap_setCell_other _ ⟨gp, 0, none⟩ k _ hk]
  have g0 := heap_setCell_same _ gf 0 _ _ x ((o gf (Ne.symm hne)).trans hf)
  have g1 := heap_setCell_same _ gf 1 _ _ y g0
  refine ⟨?_, g1, ?_, fun k hk hk2 => ?_, by simp⟩
  · rw [heap_setCell_other _ ⟨gf, 1, none⟩ gp _ hne, heap_setCell_other _ ⟨gf, 0, none⟩ gp _ hne]; exact e4
  · exact below_cell (below_cell (below_cell (below_cell (below_cell (below_cell (below_cell hB h1 _ _) h1 _ _) h1 _ _) h1 _ _) h1 _ _) h2 _ _) h2 _ _
  · rw [heap_setCell_other _ ⟨gf, 1, none⟩ k _ hk2, heap_setCell_other _ ⟨gf, 0, none⟩ k _ hk2]; exact o k hk
/-- What Read leaves. -/
def ReadPost (s : ByteArray) (w : World) (e : Ending) (w' : World) : Prop :=
  Below w.heap.size w w' ∧ (∀ p j, rdP s = .ok (p, j) → ∃ U : PT, e = .returned (.tuple #[pv U, fauV 0 0]) ∧ U.can = p ∧ Lies w.heap.size w' U) ∧ (∀ er a, rdP s = .error (er, a) → e = .returned (.tuple #[.agg zeroP, fauV er a]))
theorem read_err {s : ByteArray} {w w' : World} {er : Int} {a : Nat} {e : Ending} (h : rdP s = .error (er, a)) (hb : Below w.heap.size w w') (he : e = .returned (.tuple #[.agg zeroP, fauV er a])) : ReadPost s w e w' :=
  ⟨hb, fun p j q => (by rw [h] at q; cases q), fun er' a' q => by rw [h] at q; injection q with q; injection q with q1 q2; subst q1 q2; exact he⟩
theorem read_ok {s : ByteArray} {w w' : World} {p : PT} {j : Nat} {e : Ending} {U : PT} (h : rdP s = .ok (p, j)) (hb : Below w.heap.size w w') (he : e = .returned (.tuple #[pv U, fauV 0 0])) (hc : U.can = p) (hi : Lies w.heap.size w' U) : ReadPost s w e w' :=
  ⟨hb, fun p' j' q => (by rw [h] at q; injection q with q; injection q with q1 q2; subst q1; exact ⟨U, he, hc, hi⟩), fun er' a' q => by rw [h] at q; cases q⟩
set_option maxRecDepth 100000 in
set_option maxHeartbeats 4000000 in
theorem read_any (s : ByteArray) (w : World) (hS : Shapes w) : Calls Tryd.prog 4 #[.string s] w fun e w' => ReadPost s w e w' := by
  obtain ⟨w0, hw0⟩ : ∃ w0, w0 = (w.alloc (.cells zeroP 24)).alloc (.cells #[.int .i64 0, .int .i64 0] 27) := ⟨_, rfl⟩
  have hb0 : Below w.heap.size w w0 := by rw [hw0]; exact ((Below.refl _ _).alloc (Nat.le_refl _) _).alloc (by simp) _
  have hsz : w0.heap.size = w.heap.size + 1 + 1 := by rw [hw0]; simp
  have hf0 : w0.heap[w.heap.size + 1]? = some (.cells #[.int .i64 0, .int .i64 0] 27 (0, 0)) := by rw [hw0]; exact at_new (by simp)
  have hp0 : w0.heap[w.heap.size]? = some (.cells zeroP 24 (0, 0)) := by rw [hw0]; exact at_old (by simp) zbox
  have HW := hide hw0
  have H0 := hide (And.intro hb0 (And.intro hf0 hp0))
  have HRA := hide (fun h => readAll_any s w0 h (hS.later hb0))
  clear hw0 hb0 hf0 hp0 hS
  have HRP := hide (show rdP s = if 65536 < s.size then .error (4, 0) else bnd (rdA s) fun p j => if p.fits = true then .ok (p, j) else .error (4, 0) from rfl)
  have HNE := hide (fun er a h => rdA_nz (s := s) (er := er) (a := a) h)
  by_cases hq : 65536 < s.size
  · have HE := hide (show rdP s = .error (4, 0) by rw [unhide HRP, if_pos hq])
    have hg : (65536 : Int) < (s.size : Int) := by omega
    clear hq HRA HRP HNE
    go_enter Tryd.func4, Tryd.ntmps4
    go_wp2_with fail
    exact bodyPost_ret (res_twoR _ _ w.heap.size (w.heap.size + 1) zeroP #[.int .i64 4, .int .i64 0] rfl rfl (at_old (by simp) zbox) (at_new (by simp)) rfl rfl) rfl (read_err (unhide HE) (((Below.refl _ _).alloc (Nat.le_refl _) _).alloc (by simp) _) rfl)
  · have HR := hide (unhide HRA (by omega))
    have hg : ¬ (65536 : Int) < (s.size : Int) := by omega
    have HRQ := hide (show rdP s = bnd (rdA s) fun p j => if p.fits = true then .ok (p, j) else .error (4, 0) by rw [unhide HRP, if_neg hq])
    clear hq HRA HRP
    obtain ⟨RP, hRP⟩ : ∃ RP, rdP s = RP := ⟨_, rfl⟩
    have HRP := hide hRP
    rw [hRP] at HRQ
    clear hRP
    obtain ⟨R, hR⟩ : ∃ R, rdA s = R := ⟨_, rfl⟩
    rw [hR] at HR HRQ HNE
    clear hR
    rcases R with ⟨er, a⟩ | ⟨p, j⟩
    · have HE := hide (show RP = .error (er, a) by rw [unhide HRQ, bnd_err])
      have hne := unhide HNE er a rfl
      have hne2 : (er == 0) = false := by rw [beq_eq_false_iff_ne]; exact hne
      clear HNE hne
      go_enter Tryd.func4, Tryd.ntmps4
      go_wp2_with fail
      rw [show (w.alloc (.cells #[.int .i64 0, .string ⟨#[]⟩, .int .i64 0, .string ⟨#[]⟩, .slice none 0 0] 24)).alloc (.cells #[.int .i64 0, .int .i64 0] 27) = w0 from (unhide HW).symm]
      refine (unhide HR).mono ?_
      rintro e w1 ⟨hb1, -, h1⟩
      obtain ⟨V, rfl⟩ := h1 er a rfl
      have HF1 := hide (row_below (unhide H0).2.1 hb1)
      have HP1 := hide (row_below (unhide H0).2.2 hb1)
      have HB1 := hide (bnext (unhide H0).1 hb1)
      clear hb1 h1
      obtain ⟨w2, hw2⟩ : ∃ w2, w2 = (w1.alloc (.cells (patO V) 24)).alloc (.cells #[.int .i64 er, .int .i64 (a : Int)] 27) := ⟨_, rfl⟩
      have hb2 : Below w1.heap.size w1 w2 := by rw [hw2]; exact ((Below.refl _ _).alloc (Nat.le_refl _) _).alloc (by simp) _
      have hs1 : w.heap.size + 1 < w1.heap.size := by have := (Array.getElem?_eq_some_iff.1 (unhide HF1)).1; omega
      have hg2 : w2.heap[w1.heap.size + 1]? = some (.cells #[.int .i64 er, .int .i64 (a : Int)] 27 (0, 0)) := by rw [hw2]; exact at_new (by simp)
      have HF2 := hide (row_below (unhide HF1) hb2)
      have HP2 := hide (row_below (unhide HP1) hb2)
      have HB2 := hide (bnext (unhide HB1) hb2)
      have H7 := hide (set7_all (unhide HP2) (unhide HF2) (by omega) (unhide HB2) (Nat.le_refl _) (by omega) (.int .i64 0) (.string ⟨#[]⟩) (.int .i64 0) (.string ⟨#[]⟩) (.slice none 0 0) (.int .i64 er) (.int .i64 (a : Int)))
      obtain ⟨y0, y1⟩ := fault2 hg2
      have HW2 := hide hw2
      clear hw2 hb2 hg2
      unfold pv fauV
      go_wp2_with fail
      rw [show (w1.alloc (.cells #[.int .i64 V.k, .string V.t, .int .i64 V.n, .string V.nm, .slice V.xa V.len V.cap] 24)).alloc (.cells #[.int .i64 er, .int .i64 (a : Int)] 27) = w2 from (unhide HW2).symm]
      obtain ⟨p0, p1, p2, p3, p4⟩ := pats5s (show w2.heap[w.heap.size]? = _ from unhide HP2)
      obtain ⟨f0, f1⟩ := fault2 (show w2.heap[w.heap.size + 1]? = _ from unhide HF2)
      have fp := fun k => frozen_of_row w2 w.heap.size k _ _ (unhide HP2)
      have ff := fun k => frozen_of_row w2 (w.heap.size + 1) k _ _ (unhide HF2)
      have n1 : ¬ w.heap.size = w1.heap.size + 1 := by omega
      have n2 : ¬ w1.heap.size + 1 = w.heap.size := by omega
      have n3 : ¬ w.heap.size + 1 = w1.heap.size + 1 := by omega
      have n4 : ¬ w1.heap.size + 1 = w.heap.size + 1 := by omega
      go_region
      clear p0 p1 p2 p3 p4 f0 f1 fp ff n1 n2 n3 n4 y0 y1
      rw [show ((((((w2.setCell ⟨w.heap.size, 0, none⟩ (.int .i64 0)).setCell ⟨w.heap.size, 1, none⟩ (.string ⟨#[]⟩)).setCell ⟨w.heap.size, 2, none⟩ (.int .i64 0)).setCell ⟨w.heap.size, 3, none⟩ (.string ⟨#[]⟩)).setCell ⟨w.heap.size, 4, none⟩ (.slice none 0 0)).setCell ⟨w.heap.size + 1, 0, none⟩ (.int .i64 er)).setCell ⟨w.heap.size + 1, 1, none⟩ (.int .i64 (a : Int)) = set7 w2 w.heap.size (w.heap.size + 1) (.int .i64 0) (.string ⟨#[]⟩) (.int .i64 0) (.string ⟨#[]⟩) (.slice none 0 0) (.int .i64 er) (.int .i64 (a : Int)) from rfl]
      generalize set7 w2 w.heap.size (w.heap.size + 1) (.int .i64 0) (.string ⟨#[]⟩) (.int .i64 0) (.string ⟨#[]⟩) (.slice none 0 0) (.int .i64 er) (.int .i64 (a : Int)) = W7 at *
      go_wp2_with fail
      exact bodyPost_ret (res_twoR _ _ w.heap.size (w.heap.size + 1) zeroP #[.int .i64 er, .int .i64 (a : Int)] rfl rfl (unhide H7).1 (unhide H7).2.1 rfl rfl) rfl (read_err ((unhide HRP).trans (unhide HE)) (unhide H7).2.2.1.drew rfl)
    · clear HNE
      go_enter Tryd.func4, Tryd.ntmps4
      go_wp2_with fail
      rw [show (w.alloc (.cells #[.int .i64 0, .string ⟨#[]⟩, .int .i64 0, .string ⟨#[]⟩, .slice none 0 0] 24)).alloc (.cells #[.int .i64 0, .int .i64 0] 27) = w0 from (unhide HW).symm]
      refine (unhide HR).mono ?_
      rintro e w1 ⟨hb1, h1, -⟩
      obtain ⟨U, rfl, hU, hUi⟩ := h1 p j rfl
      have HF1 := hide (row_below (unhide H0).2.1 hb1)
      have HP1 := hide (row_below (unhide H0).2.2 hb1)
      have HB1 := hide (bnext (unhide H0).1 hb1)
      have hs1 : w.heap.size + 1 < w1.heap.size := by have := (Array.getElem?_eq_some_iff.1 (unhide HF1)).1; omega
      obtain ⟨w2, hw2⟩ : ∃ w2, w2 = (w1.alloc (.cells (patO U) 24)).alloc (.cells #[.int .i64 0, .int .i64 0] 27) := ⟨_, rfl⟩
      have hb2 : Below w1.heap.size w1 w2 := by rw [hw2]; exact ((Below.refl _ _).alloc (Nat.le_refl _) _).alloc (by simp) _
      have hg2 : w2.heap[w1.heap.size]? = some (.cells (patO U) 24 (0, 0)) := by rw [hw2]; exact at_old (by simp) (at_new rfl)
      have hk2 : w2.heap[w1.heap.size + 1]? = some (.cells #[.int .i64 0, .int .i64 0] 27 (0, 0)) := by rw [hw2]; exact at_new (by simp)
      have HSZ := hide (size_any U w2 (PT.In.later hb2 hUi.here))
      have HF2 := hide (row_below (unhide HF1) hb2)
      have HP2 := hide (row_below (unhide HP1) hb2)
      have HB2 := hide (bnext (unhide HB1) hb2)
      have HU2 := hide (hUi.below hb2)
      have HUC := hide hU
      have HG2 := hide hg2
      obtain ⟨k0, k1⟩ := fault2 hk2
      obtain ⟨g0, g1, g2, g3, g4⟩ := pats5s hg2
      have HW2 := hide hw2
      clear hw2 hb2 hg2 hb1 h1 hU hUi hk2
      unfold pv at HSZ ⊢
      unfold fauV
      have HFI := hide (show p.fits = U.fits by rw [← unhide HUC]; unfold PT.fits; rw [can_cnt, can_dep])
      have HSD := hide (show sizeSaid U = if U.fits then .tuple #[.int .i64 (U.cnt : Int), .int .i64 (U.dep : Int), .int .i64 0] else .tuple #[.int .i64 0, .int .i64 0, .int .i64 4] from rfl)
      generalize sizeSaid U = SD at *
      generalize U.fits = FT at *
      clear k0 k1 g0 g1 g2 g3 g4
      go_wp2_with fail
      rw [show (w1.alloc (.cells #[.int .i64 U.k, .string U.t, .int .i64 U.n, .string U.nm, .slice U.xa U.len U.cap] 24)).alloc (.cells #[.int .i64 0, .int .i64 0] 27) = w2 from (unhide HW2).symm]
      refine (unhide HSZ).mono ?_
      rintro e w3 ⟨rfl, hb3⟩
      have HF3 := hide (row_below (unhide HF2) hb3)
      have HP3 := hide (row_below (unhide HP2) hb3)
      have HB3 := hide (bnext (unhide HB2) hb3)
      have HU3 := hide ((unhide HU2).below hb3)
      obtain ⟨g0, g1, g2, g3, g4⟩ := pats5s (row_below (unhide HG2) hb3)
      obtain ⟨p0, p1, p2, p3, p4⟩ := pats5s (unhide HP3)
      obtain ⟨f0, f1⟩ := fault2 (unhide HF3)
      have fp := fun k => frozen_of_row w3 w.heap.size k _ _ (unhide HP3)
      have ff := fun k => frozen_of_row w3 (w.heap.size + 1) k _ _ (unhide HF3)
      clear hb3
      cases FT
      · have HSE := hide (show SD = .tuple #[.int .i64 0, .int .i64 0, .int .i64 4] by rw [unhide HSD]; rfl)
        rw [unhide HSE]
        have HE := hide (show RP = .error (4, 0) by rw [unhide HRQ, bnd_ok, unhide HFI, if_neg (by decide)])
        have H7 := hide (set7_all (unhide HP3) (unhide HF3) (by omega) (unhide HB3) (Nat.le_refl _) (by omega) (.int .i64 0) (.string ⟨#[]⟩) (.int .i64 0) (.string ⟨#[]⟩) (.slice none 0 0) (.int .i64 4) (.int .i64 0))
        go_wp2_with fail
        exact bodyPost_ret (res_twoR _ _ w.heap.size (w.heap.size + 1) zeroP #[.int .i64 4, .int .i64 0] rfl rfl (unhide H7).1 (unhide H7).2.1 rfl rfl) rfl (read_err ((unhide HRP).trans (unhide HE)) (unhide H7).2.2.1 rfl)
      · have HSE := hide (show SD = .tuple #[.int .i64 (U.cnt : Int), .int .i64 (U.dep : Int), .int .i64 0] by rw [unhide HSD]; rfl)
        rw [unhide HSE]
        have HE := hide (show RP = .ok (p, j) by rw [unhide HRQ, bnd_ok, unhide HFI, if_pos rfl])
        have H7 := hide (set7_all (unhide HP3) (unhide HF3) (by omega) (unhide HB3) (Nat.le_refl _) (by omega) (.int .i64 U.k) (.string U.t) (.int .i64 U.n) (.string U.nm) (.slice U.xa U.len U.cap) (.int .i64 0) (.int .i64 0))
        go_wp2_with fail
        exact bodyPost_ret (res_twoR _ _ w.heap.size (w.heap.size + 1) (patO U) #[.int .i64 0, .int .i64 0] rfl rfl (unhide H7).1 (unhide H7).2.1 rfl rfl) rfl (read_ok ((unhide HRP).trans (unhide HE)) (unhide H7).2.2.1 rfl (unhide HUC) (((unhide HU3).step (Nat.le_of_eq (unhide H7).2.2.2.2.symm) (fun i h1 _ => (unhide H7).2.2.2.1 i (by omega) (by omega))).mono (by omega)))
end Go.Proofs.YtimbfelbalfmiaaDoor
