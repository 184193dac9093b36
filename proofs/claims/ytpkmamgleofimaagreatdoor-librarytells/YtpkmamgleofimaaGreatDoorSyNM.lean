/- What pats.Read answers, for every text. The reader of lines: names, what is open, patterns. The reader of lines: names with commas between. -/
import Derived.Test.YtpkmamgleofimaaGreatDoorRdNzM
import Derived.Test.YtpkmamgleofimaaGreatDoorSyAM
namespace Go.Proofs.YtpkmamgleofimaaGreatDoor
open Go.RowKit

theorem fault2 {w : World} {z : Nat} {a b : Value} (h : w.heap[z]? = some (.cells #[a, b] 30 (0, 0))) : w.cell? ⟨z, 0, none⟩ = some a ∧ w.cell? ⟨z, 1, none⟩ = some b := by
  constructor <;> (rw [cell_of_row _ _ _ _ _ _ h]; rfl)
theorem res_twoR (tmps : Array Value) (W : World) (gp gf : Nat) (cs fs : Array Value) (h2 : tmps.getD 2 undef = .pointer (some ⟨gp, 0, none⟩)) (h3 : tmps.getD 3 undef = .pointer (some ⟨gf, 0, none⟩)) (hp : W.heap[gp]? = some (.cells cs 45 (0, 0))) (hf : W.heap[gf]? = some (.cells fs 30 (0, 0))) (hcs : cs.size = 5) (hfs : fs.size = 2) :
    (results Tryz.f94 tmps).run Tryz.prog W = .ok (.tuple #[.agg cs, .agg fs]) W := by
  have h2' : tmps[2]?.getD undef = .pointer (some ⟨gp, 0, none⟩) := by simpa using h2
  have h3' : tmps[3]?.getD undef = .pointer (some ⟨gf, 0, none⟩) := by simpa using h3
  have e1 := run_loadVar_row (P := Tryz.prog) W gp 45 45 cs (0, 0) _ hp Tryz.underlying45 rfl (by rw [hcs]; exact size_pat)
  have e2 := run_loadVar_row (P := Tryz.prog) W gf 30 30 fs (0, 0) _ hf Tryz.underlying30 rfl (by rw [hfs]; exact size_fault)
  simp [results, Tryz.results94, h2', h3', asAddr, e1, e2]
def set7 (w : World) (gp gf : Nat) (v0 v1 v2 v3 v4 x y : Value) : World :=
  ((((((w.setCell ⟨gp, 0, none⟩ v0).setCell ⟨gp, 1, none⟩ v1).setCell ⟨gp, 2, none⟩ v2).setCell ⟨gp, 3, none⟩ v3).setCell ⟨gp, 4, none⟩ v4).setCell ⟨gf, 0, none⟩ x).setCell ⟨gf, 1, none⟩ y
theorem set7_all {w0 w : World} {gp gf : Nat} {u0 u1 u2 u3 u4 a b : Value} (hp : w.heap[gp]? = some (.cells #[u0, u1, u2, u3, u4] 45 (0, 0))) (hf : w.heap[gf]? = some (.cells #[a, b] 30 (0, 0))) (hne : gp ≠ gf) (hB : Below w0.heap.size w0 w) (h1 : w0.heap.size ≤ gp) (h2 : w0.heap.size ≤ gf) (v0 v1 v2 v3 v4 x y : Value) :
    (set7 w gp gf v0 v1 v2 v3 v4 x y).heap[gp]? = some (.cells #[v0, v1, v2, v3, v4] 45 (0, 0)) ∧ (set7 w gp gf v0 v1 v2 v3 v4 x y).heap[gf]? = some (.cells #[x, y] 30 (0, 0)) ∧ Below w0.heap.size w0 (set7 w gp gf v0 v1 v2 v3 v4 x y) ∧ (∀ k, k ≠ gp → k ≠ gf → (set7 w gp gf v0 v1 v2 v3 v4 x y).heap[k]? = w.heap[k]?) ∧ (set7 w gp gf v0 v1 v2 v3 v4 x y).heap.size = w.heap.size := by
  unfold set7
  have e0 := heap_setCell_same w gp 0 _ _ v0 hp
  have e1 := heap_setCell_same _ gp 1 _ _ v1 e0
  have e2 := heap_setCell_same _ gp 2 _ _ v2 e1
  have e3 := heap_setCell_same _ gp 3 _ _ v3 e2
  have e4 := heap_setCell_same _ gp 4 _ _ v4 e3
  have o : ∀ k, k ≠ gp → (((((w.setCell ⟨gp, 0, none⟩ v0).setCell ⟨gp, 1, none⟩ v1).setCell ⟨gp, 2, none⟩ v2).setCell ⟨gp, 3, none⟩ v3).setCell ⟨gp, 4, none⟩ v4).heap[k]? = w.heap[k]? := fun k hk => by
    rw [heap_setCell_other _ ⟨gp, 4, none⟩ k _ hk, heap_setCell_other _ ⟨gp, 3, none⟩ k _ hk, heap_setCell_other _ ⟨gp, 2, none⟩ k _ hk, heap_setCell_other _ ⟨gp, 1, none⟩ k _ hk, heap_setCell_other _ ⟨gp, 0, none⟩ k _ hk]
  have g0 := heap_setCell_same _ gf 0 _ _ x ((o gf (Ne.symm hne)).trans hf)
  have g1 := heap_setCell_same _ gf 1 _ _ y g0
  refine ⟨?_, g1, ?_, fun k hk hk2 => ?_, by simp⟩
  · rw [heap_setCell_other _ ⟨gf, 1, none⟩ gp _ hne, heap_setCell_other _ ⟨gf, 0, none⟩ gp _ hne]; exact e4
  · exact below_cell (below_cell (below_cell (below_cell (below_cell (below_cell (below_cell hB h1 _ _) h1 _ _) h1 _ _) h1 _ _) h1 _ _) h2 _ _) h2 _ _
  · rw [heap_setCell_other _ ⟨gf, 1, none⟩ k _ hk2, heap_setCell_other _ ⟨gf, 0, none⟩ k _ hk2]; exact o k hk
def ReadPost (s : ByteArray) (w : World) (e : Ending) (w' : World) : Prop :=
  Below w.heap.size w w' ∧ (∀ p j, rdP s = .ok (p, j) → ∃ U : PT, e = .returned (.tuple #[pv U, fauV 0 0]) ∧ U.can = p ∧ Lies w.heap.size w' U) ∧ (∀ er a, rdP s = .error (er, a) → e = .returned (.tuple #[.agg zeroP, fauV er a]))
theorem read_err {s : ByteArray} {w w' : World} {er : Int} {a : Nat} {e : Ending} (h : rdP s = .error (er, a)) (hb : Below w.heap.size w w') (he : e = .returned (.tuple #[.agg zeroP, fauV er a])) : ReadPost s w e w' :=
  ⟨hb, fun p j q => (by rw [h] at q; cases q), fun er' a' q => by rw [h] at q; injection q with q; injection q with q1 q2; subst q1 q2; exact he⟩
theorem read_ok {s : ByteArray} {w w' : World} {p : PT} {j : Nat} {e : Ending} {U : PT} (h : rdP s = .ok (p, j)) (hb : Below w.heap.size w w') (he : e = .returned (.tuple #[pv U, fauV 0 0])) (hc : U.can = p) (hi : Lies w.heap.size w' U) : ReadPost s w e w' :=
  ⟨hb, fun p' j' q => (by rw [h] at q; injection q with q; injection q with q1 q2; subst q1; exact ⟨U, he, hc, hi⟩), fun er' a' q => by rw [h] at q; cases q⟩
set_option maxRecDepth 100000 in
set_option maxHeartbeats 4000000 in
theorem read_any (s : ByteArray) (w : World) (hS : Shapes w) : Calls Tryz.prog 94 #[.string s] w fun e w' => ReadPost s w e w' := by
  obtain ⟨w0, hw0⟩ : ∃ w0, w0 = (w.alloc (.cells zeroP 45)).alloc (.cells #[.int .i64 0, .int .i64 0] 30) := ⟨_, rfl⟩
  have hb0 : Below w.heap.size w w0 := by rw [hw0]; exact (ba _).alloc (by simp) _
  have hsz : w0.heap.size = w.heap.size + 1 + 1 := by rw [hw0]; simp
  have hf0 : w0.heap[w.heap.size + 1]? = some (.cells #[.int .i64 0, .int .i64 0] 30 (0, 0)) := by rw [hw0]; exact at_new (by simp)
  have hp0 : w0.heap[w.heap.size]? = some (.cells zeroP 45 (0, 0)) := by rw [hw0]; exact at_old (by simp) zbox
  have HW := hide hw0
  have H0 := hide (And.intro hb0 (And.intro hf0 hp0))
  have HRA := hide (fun h => readAll_any s w0 h (hS.later hb0))
  clear hw0 hb0 hf0 hp0 hS
  have HRP : Hid (rdP s = if 65536 < s.size then .error (4, 0) else bnd (rdA s) fun p j => if p.fits = true then .ok (p, j) else .error (4, 0)) := hide (rfl)
  have HNE := hide (fun er a h => rdA_nz (s := s) (er := er) (a := a) h)
  by_cases hq : 65536 < s.size
  · have HE : Hid (rdP s = .error (4, 0)) := hide (by rw [unhide HRP, if_pos hq])
    have hg : (65536 : Int) < (s.size : Int) := by omega
    clear hq HRA HRP HNE
    go_enter Tryz.func94, Tryz.ntmps94
    go_wp2_with fail
    exact bodyPost_ret (res_twoR _ _ w.heap.size (w.heap.size + 1) zeroP #[.int .i64 4, .int .i64 0] rfl rfl (at_old (by simp) zbox) (at_new (by simp)) rfl rfl) rfl (read_err (unhide HE) ((ba _).alloc (by simp) _) rfl)
  · have HR := hide (unhide HRA (by omega))
    have hg : ¬ (65536 : Int) < (s.size : Int) := by omega
    have HRQ : Hid (rdP s = bnd (rdA s) fun p j => if p.fits = true then .ok (p, j) else .error (4, 0)) := hide (by rw [unhide HRP, if_neg hq])
    clear hq HRA HRP
    obtain ⟨RP, hRP⟩ : ∃ RP, rdP s = RP := ⟨_, rfl⟩
    have HRP := hide hRP
    rw [hRP] at HRQ
    clear hRP
    obtain ⟨R, hR⟩ : ∃ R, rdA s = R := ⟨_, rfl⟩
    rw [hR] at HR HRQ HNE
    clear hR
    rcases R with ⟨er, a⟩ | ⟨p, j⟩
    · have HE : Hid (RP = .error (er, a)) := hide (by rw [unhide HRQ, bnd_err])
      have hne := unhide HNE er a rfl
      have hne2 : (er == 0) = false := bn hne
      clear HNE hne
      go_enter Tryz.func94, Tryz.ntmps94
      go_wp2_with fail
      rw [show (w.alloc (.cells #[.int .i64 0, .string ⟨#[]⟩, .int .i64 0, .string ⟨#[]⟩, .slice none 0 0] 45)).alloc (.cells #[.int .i64 0, .int .i64 0] 30) = w0 from (unhide HW).symm]
      refine (unhide HR).mono ?_
      rintro e w1 ⟨hb1, -, h1⟩
      obtain ⟨V, rfl⟩ := h1 er a rfl
      have HF1 := hide (row_below (unhide H0).2.1 hb1)
      have HP1 := hide (row_below (unhide H0).2.2 hb1)
      have HB1 := hide (bnext (unhide H0).1 hb1)
      clear hb1 h1
      obtain ⟨w2, hw2⟩ : ∃ w2, w2 = (w1.alloc (.cells (patO V) 45)).alloc (.cells #[.int .i64 er, .int .i64 (a : Int)] 30) := ⟨_, rfl⟩
      have hb2 : Below w1.heap.size w1 w2 := by rw [hw2]; exact (ba _).alloc (by simp) _
      have hs1 : w.heap.size + 1 < w1.heap.size := by have := (Array.getElem?_eq_some_iff.1 (unhide HF1)).1; omega
      have hg2 : w2.heap[w1.heap.size + 1]? = some (.cells #[.int .i64 er, .int .i64 (a : Int)] 30 (0, 0)) := by rw [hw2]; exact at_new (by simp)
      have HF2 := hide (row_below (unhide HF1) hb2)
      have HP2 := hide (row_below (unhide HP1) hb2)
      have HB2 := hide (bnext (unhide HB1) hb2)
      have H7 := hide (set7_all (unhide HP2) (unhide HF2) (by omega) (unhide HB2) (Nat.le_refl _) (by omega) (.int .i64 0) (.string ⟨#[]⟩) (.int .i64 0) (.string ⟨#[]⟩) (.slice none 0 0) (.int .i64 er) (.int .i64 (a : Int)))
      obtain ⟨y0, y1⟩ := fault2 hg2
      have HW2 := hide hw2
      clear hw2 hb2 hg2
      unfold pv fauV
      go_wp2_with fail
      rw [show (w1.alloc (.cells #[.int .i64 V.k, .string V.t, .int .i64 V.n, .string V.nm, .slice V.xa V.len V.cap] 45)).alloc (.cells #[.int .i64 er, .int .i64 (a : Int)] 30) = w2 from (unhide HW2).symm]
      obtain ⟨p0, p1, p2, p3, p4⟩ := pats5s (show w2.heap[w.heap.size]? = _ from unhide HP2)
      obtain ⟨f0, f1⟩ := fault2 (show w2.heap[w.heap.size + 1]? = _ from unhide HF2)
      have fp := fun k => frozen_of_row w2 w.heap.size k _ _ (unhide HP2)
      have ff := fun k => frozen_of_row w2 (w.heap.size + 1) k _ _ (unhide HF2)
      have n1 : ¬ w.heap.size = w1.heap.size + 1 := by omega
      have n2 : ¬ w1.heap.size + 1 = w.heap.size := by omega
      have n3 : ¬ w.heap.size + 1 = w1.heap.size + 1 := by omega
      have n4 : ¬ w1.heap.size + 1 = w.heap.size + 1 := by omega
      go_region
      clear p0 p1 p2 p3 p4 f0 f1 fp ff n1 n2 n3 n4 y0 y1
      rw [show ((((((w2.setCell ⟨w.heap.size, 0, none⟩ (.int .i64 0)).setCell ⟨w.heap.size, 1, none⟩ (.string ⟨#[]⟩)).setCell ⟨w.heap.size, 2, none⟩ (.int .i64 0)).setCell ⟨w.heap.size, 3, none⟩ (.string ⟨#[]⟩)).setCell ⟨w.heap.size, 4, none⟩ (.slice none 0 0)).setCell ⟨w.heap.size + 1, 0, none⟩ (.int .i64 er)).setCell ⟨w.heap.size + 1, 1, none⟩ (.int .i64 (a : Int)) = set7 w2 w.heap.size (w.heap.size + 1) (.int .i64 0) (.string ⟨#[]⟩) (.int .i64 0) (.string ⟨#[]⟩) (.slice none 0 0) (.int .i64 er) (.int .i64 (a : Int)) from rfl]
      generalize set7 w2 w.heap.size (w.heap.size + 1) (.int .i64 0) (.string ⟨#[]⟩) (.int .i64 0) (.string ⟨#[]⟩) (.slice none 0 0) (.int .i64 er) (.int .i64 (a : Int)) = W7 at *
      go_wp2_with fail
      exact bodyPost_ret (res_twoR _ _ w.heap.size (w.heap.size + 1) zeroP #[.int .i64 er, .int .i64 (a : Int)] rfl rfl (unhide H7).1 (unhide H7).2.1 rfl rfl) rfl (read_err ((unhide HRP).trans (unhide HE)) (unhide H7).2.2.1.drew rfl)
    · clear HNE
      go_enter Tryz.func94, Tryz.ntmps94
      go_wp2_with fail
      rw [show (w.alloc (.cells #[.int .i64 0, .string ⟨#[]⟩, .int .i64 0, .string ⟨#[]⟩, .slice none 0 0] 45)).alloc (.cells #[.int .i64 0, .int .i64 0] 30) = w0 from (unhide HW).symm]
      refine (unhide HR).mono ?_
      rintro e w1 ⟨hb1, h1, -⟩
      obtain ⟨U, rfl, hU, hUi⟩ := h1 p j rfl
      have HF1 := hide (row_below (unhide H0).2.1 hb1)
      have HP1 := hide (row_below (unhide H0).2.2 hb1)
      have HB1 := hide (bnext (unhide H0).1 hb1)
      have hs1 : w.heap.size + 1 < w1.heap.size := by have := (Array.getElem?_eq_some_iff.1 (unhide HF1)).1; omega
      obtain ⟨w2, hw2⟩ : ∃ w2, w2 = (w1.alloc (.cells (patO U) 45)).alloc (.cells #[.int .i64 0, .int .i64 0] 30) := ⟨_, rfl⟩
      have hb2 : Below w1.heap.size w1 w2 := by rw [hw2]; exact (ba _).alloc (by simp) _
      have hg2 : w2.heap[w1.heap.size]? = some (.cells (patO U) 45 (0, 0)) := by rw [hw2]; exact at_old (by simp) (at_new rfl)
      have hk2 : w2.heap[w1.heap.size + 1]? = some (.cells #[.int .i64 0, .int .i64 0] 30 (0, 0)) := by rw [hw2]; exact at_new (by simp)
      have HSZ := hide (size_any U w2 (PT.In.later hb2 hUi.here))
      have HF2 := hide (row_below (unhide HF1) hb2)
      have HP2 := hide (row_below (unhide HP1) hb2)
      have HB2 := hide (bnext (unhide HB1) hb2)
      have HU2 := hide (hUi.below hb2)
      have HUC := hide hU
      have HG2 := hide hg2
      obtain ⟨k0, k1⟩ := fault2 hk2
      obtain ⟨g0, g1, g2, g3, g4⟩ := pats5s hg2
      have HW2 := hide hw2
      clear hw2 hb2 hg2 hb1 h1 hU hUi hk2
      unfold pv at HSZ ⊢
      unfold fauV
      have HFI : Hid (p.fits = U.fits) := hide (by rw [← unhide HUC]; unfold PT.fits; rw [can_cnt, can_dep])
      have HSD : Hid (sizeSaid U = if U.fits then .tuple #[.int .i64 (U.cnt : Int), .int .i64 (U.dep : Int), .int .i64 0] else .tuple #[.int .i64 0, .int .i64 0, .int .i64 4]) := hide (rfl)
      generalize sizeSaid U = SD at *
      generalize U.fits = FT at *
      clear k0 k1 g0 g1 g2 g3 g4
      go_wp2_with fail
      rw [show (w1.alloc (.cells #[.int .i64 U.k, .string U.t, .int .i64 U.n, .string U.nm, .slice U.xa U.len U.cap] 45)).alloc (.cells #[.int .i64 0, .int .i64 0] 30) = w2 from (unhide HW2).symm]
      refine (unhide HSZ).mono ?_
      rintro e w3 ⟨rfl, hb3⟩
      have HF3 := hide (row_below (unhide HF2) hb3)
      have HP3 := hide (row_below (unhide HP2) hb3)
      have HB3 := hide (bnext (unhide HB2) hb3)
      have HU3 := hide ((unhide HU2).below hb3)
      obtain ⟨g0, g1, g2, g3, g4⟩ := pats5s (row_below (unhide HG2) hb3)
      obtain ⟨p0, p1, p2, p3, p4⟩ := pats5s (unhide HP3)
      obtain ⟨f0, f1⟩ := fault2 (unhide HF3)
      have fp := fun k => frozen_of_row w3 w.heap.size k _ _ (unhide HP3)
      have ff := fun k => frozen_of_row w3 (w.heap.size + 1) k _ _ (unhide HF3)
      clear hb3
      cases FT
      · have HSE : Hid (SD = .tuple #[.int .i64 0, .int .i64 0, .int .i64 4]) := hide (by rw [unhide HSD]; rfl)
        rw [unhide HSE]
        have HE : Hid (RP = .error (4, 0)) := hide (by rw [unhide HRQ, bnd_ok, unhide HFI, if_neg (by decide)])
        have H7 := hide (set7_all (unhide HP3) (unhide HF3) (by omega) (unhide HB3) (Nat.le_refl _) (by omega) (.int .i64 0) (.string ⟨#[]⟩) (.int .i64 0) (.string ⟨#[]⟩) (.slice none 0 0) (.int .i64 4) (.int .i64 0))
        go_wp2_with fail
        exact bodyPost_ret (res_twoR _ _ w.heap.size (w.heap.size + 1) zeroP #[.int .i64 4, .int .i64 0] rfl rfl (unhide H7).1 (unhide H7).2.1 rfl rfl) rfl (read_err ((unhide HRP).trans (unhide HE)) (unhide H7).2.2.1 rfl)
      · have HSE : Hid (SD = .tuple #[.int .i64 (U.cnt : Int), .int .i64 (U.dep : Int), .int .i64 0]) := hide (by rw [unhide HSD]; rfl)
        rw [unhide HSE]
        have HE : Hid (RP = .ok (p, j)) := hide (by rw [unhide HRQ, bnd_ok, unhide HFI, if_pos rfl])
        have H7 := hide (set7_all (unhide HP3) (unhide HF3) (by omega) (unhide HB3) (Nat.le_refl _) (by omega) (.int .i64 U.k) (.string U.t) (.int .i64 U.n) (.string U.nm) (.slice U.xa U.len U.cap) (.int .i64 0) (.int .i64 0))
        go_wp2_with fail
        exact bodyPost_ret (res_twoR _ _ w.heap.size (w.heap.size + 1) (patO U) #[.int .i64 0, .int .i64 0] rfl rfl (unhide H7).1 (unhide H7).2.1 rfl rfl) rfl (read_ok ((unhide HRP).trans (unhide HE)) (unhide H7).2.2.1 rfl (unhide HUC) (((unhide HU3).step (Nat.le_of_eq (unhide H7).2.2.2.2.symm) (fun i h1 _ => (unhide H7).2.2.2.1 i (by omega) (by omega))).mono (by omega)))
end Go.Proofs.YtpkmamgleofimaaGreatDoor

namespace Go.Proofs.YtpkmamgleofimaaGreatDoor
open Go.RowKit

theorem ahd_ne {E : Nat} {l : List Tk} (h : (ahd E 0 l).k ≠ 0) : l ≠ [] := by rintro rfl; exact h rfl
set_option maxRecDepth 100000 in
set_option maxHeartbeats 2000000 in
theorem sname_any {C : SyC} {l : List Tk} {o : Nat} (w : World) (hR : Syr C w l o) : Calls Tryz.prog 35 #[.pointer (some ⟨C.z, 0, none⟩)] w fun e w' => SyPost strV C o w (nmS C.E l) e w' := by
  have HA := hide (stoken_any w hR)
  have HR := hide hR
  have hsm := ahd_sm hR 0
  have HS := hide (fun w h => sstop_any (C := C) (l := l) (o := o) w h)
  have HT := hide (fun w => sthrow_any 7 (ahd C.E 0 l).a w)
  have HN := hide (fun w => named_any (ahd C.E 0 l).t w (by have := hsm.2.1; unfold maxLen; omega))
  have HP := hide (fun (q : (ahd C.E 0 l).k = 1) w h => spass_any (l := l) (o := o) (C := C) w h (ahd_ne (E := C.E) (by rw [q]; decide)))
  unfold nmS
  clear hR hsm
  generalize hq : ahd C.E 0 l = t at *
  clear hq
  unfold tokV at HA
  by_cases h1 : t.k = 1
  · rw [if_pos h1]
    have HP1 := hide (unhide HP h1)
    have q1 : ((t.k : Int) != 1) = false := by rw [bne, Bool.not_eq_false', beq_iff_eq]; omega
    clear HP h1
    cases hn : named t.t
    · rw [if_neg (by decide)]
      rw [hn] at HN
      clear hn HP1 HS
      show Calls _ _ _ _ fun e w' => SyPost strV C o w (.error (7, t.a)) e w'
      go_enter Tryz.func35, Tryz.ntmps35
      go_wp2_with fail
      refine (unhide HA).mono ?_
      rintro e w2 ⟨rfl, hb2⟩
      have HB2 := hide (bnext hb2 ((Below.refl _ _).alloc (Nat.le_refl _) (.cells #[.int .i64 (t.k : Int), .string t.t, .int .i64 (t.a : Int)] 78)))
      clear hb2
      go_wp2_with fail
      refine (unhide HN _).mono ?_
      rintro e w3 ⟨rfl, rfl⟩
      go_wp2_with fail
      refine (unhide HT _).mono ?_
      rintro e w3 ⟨rfl, rfl⟩
      unfold thr
      go_wp2_with fail
      exact ⟨rfl, spost_err rfl (But.of_below (unhide HB2)) rfl⟩
    · rw [if_pos rfl]
      rw [hn] at HN
      clear hn HS HT
      show Calls _ _ _ _ fun e w' => SyPost strV C o w (.ok (t.t, l.tail)) e w'
      go_enter Tryz.func35, Tryz.ntmps35
      go_wp2_with fail
      refine (unhide HA).mono ?_
      rintro e w2 ⟨rfl, hb2⟩
      have HB2 := hide (bnext hb2 ((Below.refl _ _).alloc (Nat.le_refl _) (.cells #[.int .i64 (t.k : Int), .string t.t, .int .i64 (t.a : Int)] 78)))
      have HX2 : Hid ((w2.alloc (.cells #[.int .i64 (t.k : Int), .string t.t, .int .i64 (t.a : Int)] 78)).heap[w2.heap.size]? = some (.cells #[.int .i64 (t.k : Int), .string t.t, .int .i64 (t.a : Int)] 78 (0, 0))) := hide (at_new rfl)
      have HZ2 : Hid (w2.heap.size ≠ C.z) := hide (by have := (unhide HR).lt; have := hb2.size; omega)
      clear hb2
      go_wp2_with fail
      refine (unhide HN _).mono ?_
      rintro e w3 ⟨rfl, rfl⟩
      go_wp2_with fail
      refine (unhide HP1 _ ((unhide HR).below (unhide HB2))).mono ?_
      rintro e w4 ⟨rfl, hb4, hR4⟩
      have hx4 := hb4.row (unhide HZ2) (unhide HX2)
      have d1 : w4.cell? ⟨w2.heap.size, 1, none⟩ = some (.string t.t) := cr hx4
      have HZ := hide (And.intro ((But.of_below (unhide HB2)).trans hb4) hR4)
      clear hb4 hR4 hx4
      go_wp2_with fail
      go_ret
      exact spost_ok rfl (unhide HZ).1 rfl (unhide HZ).2
  · rw [if_neg h1]
    have q1 : ((t.k : Int) != 1) = true := by rw [bne, Bool.not_eq_true', beq_eq_false_iff_ne]; omega
    clear HP h1 HN HT
    show Calls _ _ _ _ fun e w' => SyPost strV C o w (.error (2, t.a)) e w'
    go_enter Tryz.func35, Tryz.ntmps35
    go_wp2_with fail
    refine (unhide HA).mono ?_
    rintro e w2 ⟨rfl, hb2⟩
    have HB2 := hide (bnext hb2 ((Below.refl _ _).alloc (Nat.le_refl _) (.cells #[.int .i64 (t.k : Int), .string t.t, .int .i64 (t.a : Int)] 78)))
    clear hb2
    go_wp2_with fail
    refine (unhide HS _ ((unhide HR).below (unhide HB2))).mono ?_
    rintro e w3 ⟨rfl, hb3⟩
    have HB3 := hide (bnext (unhide HB2) hb3)
    clear hb3
    unfold thr
    go_wp2_with fail
    exact ⟨rfl, spost_err rfl (But.of_below (unhide HB3)) rfl⟩
section
variable {C : SyC} {w w' : World} {l : List Tk} {o : Nat}
theorem Syr.c2 (h : Syr C w l o) : w.cell? ⟨C.z, 2, none⟩ = some (.int .i64 (o : Int)) := by obtain ⟨xa, cap, off, h1, -⟩ := h.blk; rw [cell_of_row _ _ _ _ _ _ h1]; rfl
theorem Syr.fz (h : Syr C w l o) (k : Nat) : w.frozen? ⟨C.z, k, none⟩ = false := by obtain ⟨xa, cap, off, h1, -⟩ := h.blk; exact frozen_of_row w C.z k _ _ h1
theorem Syr.set2 (h : Syr C w l o) {x : Int} {p : Nat} (hp : x = (p : Int)) : Syr C (w.setCell ⟨C.z, 2, none⟩ (.int .i64 x)) l p := by
  subst hp
  obtain ⟨xa, cap, off, h1, h2, h3, h4, h5⟩ := h.blk
  exact h.put ((But.refl _ _).setCell 2 _) (fun t ht => ht) (heap_setCell_same w C.z 2 _ _ _ h1) h2 h3 h4 h5
end
set_option maxRecDepth 100000 in
set_option maxHeartbeats 2000000 in
theorem senter_ok {C : SyC} {l : List Tk} {o : Nat} (w : World) (hR : Syr C w l o) (ho : o < 400) : Calls Tryz.prog 111 #[.pointer (some ⟨C.z, 0, none⟩)] w fun e w' => e = .returned (.tuple #[]) ∧ But C.z w w' ∧ Syr C w' l (o + 1) := by
  have c2 := hR.c2
  have fz := hR.fz 2
  have HZ : Hid (But C.z w (w.setCell ⟨C.z, 2, none⟩ (.int .i64 ((o : Int) + 1))) ∧ Syr C (w.setCell ⟨C.z, 2, none⟩ (.int .i64 ((o : Int) + 1))) l (o + 1)) := hide (⟨(But.refl _ _).setCell 2 _, hR.set2 (by omega)⟩)
  have d2 : (w.setCell ⟨C.z, 2, none⟩ (.int .i64 ((o : Int) + 1))).cell? ⟨C.z, 2, none⟩ = some (.int .i64 ((o : Int) + 1)) := by have := (unhide HZ).2.c2; rw [show (((o + 1 : Nat)) : Int) = (o : Int) + 1 by omega] at this; exact this
  have q : ¬ (400 : Int) < (o : Int) + 1 := by omega
  clear hR
  go_enter Tryz.func111, Tryz.ntmps111
  go_wp2_with fail
  go_end0
  exact ⟨rfl, unhide HZ⟩
set_option maxRecDepth 100000 in
set_option maxHeartbeats 2000000 in
theorem senter_no {C : SyC} {l : List Tk} {o : Nat} (w : World) (hR : Syr C w l o) (ho : o = 400) : Calls Tryz.prog 111 #[.pointer (some ⟨C.z, 0, none⟩)] w fun e w' => e = thr 4 (ahd C.E 0 l).a ∧ But C.z w w' := by
  have c2 := hR.c2
  have fz := hR.fz 2
  have HZ : Hid (But C.z w (w.setCell ⟨C.z, 2, none⟩ (.int .i64 ((o : Int) + 1))) ∧ Syr C (w.setCell ⟨C.z, 2, none⟩ (.int .i64 ((o : Int) + 1))) l (o + 1)) := hide (⟨(But.refl _ _).setCell 2 _, hR.set2 (by omega)⟩)
  have q : (400 : Int) < (o : Int) + 1 := by omega
  have q2 : o ≤ 400 := by omega
  have HA := hide (sat_any _ (unhide HZ).2)
  have HT := hide (fun w => sthrow_any 4 (ahd C.E 0 l).a w)
  clear hR ho
  generalize (ahd C.E 0 l).a = a at *
  go_enter Tryz.func111, Tryz.ntmps111
  go_wp2_with fail
  refine (unhide HA).mono ?_
  rintro e w2 ⟨rfl, hb2⟩
  have HB2 := hide ((unhide HZ).1.trans (But.of_below hb2))
  clear hb2
  go_wp2_with fail
  refine (unhide HT _).mono ?_
  rintro e w3 ⟨rfl, rfl⟩
  unfold thr
  go_wp2_with fail
  exact ⟨rfl, rfl, unhide HB2⟩
set_option maxRecDepth 100000 in
set_option maxHeartbeats 2000000 in
theorem sleave_any {C : SyC} {l : List Tk} {o : Nat} (w : World) (hR : Syr C w l (o + 1)) (ho : o < 400) : Calls Tryz.prog 113 #[.pointer (some ⟨C.z, 0, none⟩)] w fun e w' => e = .returned (.tuple #[]) ∧ But C.z w w' ∧ Syr C w' l o := by
  have c2 := hR.c2
  have fz := hR.fz 2
  obtain ⟨p, hp⟩ : ∃ p : Nat, p = o + 1 := ⟨_, rfl⟩
  rw [← hp] at c2 hR
  have HZ : Hid (But C.z w (w.setCell ⟨C.z, 2, none⟩ (.int .i64 ((p : Int) - 1))) ∧ Syr C (w.setCell ⟨C.z, 2, none⟩ (.int .i64 ((p : Int) - 1))) l o) := hide (⟨(But.refl _ _).setCell 2 _, hR.set2 (by omega)⟩)
  have hp1 : 1 ≤ p ∧ p ≤ 400 := by omega
  clear hR hp ho
  go_enter Tryz.func113, Tryz.ntmps113
  go_wp2_with fail
  go_end0
  exact ⟨rfl, unhide HZ⟩
end Go.Proofs.YtpkmamgleofimaaGreatDoor

namespace Go.Proofs.YtpkmamgleofimaaGreatDoor
open Go.RowKit

def sV (t : ByteArray) : List Value := [.string t]
theorem strRowS : (Tryz.prog.info? 9).map (fun i => (i.zero, i.size, i.bytes)) = some (some (.string ⟨#[]⟩), 1, 16) := by kernel_rfl
theorem sV_one : ∀ (y : ByteArray), ∀ u ∈ sV y, u.oneCell' = true := fun y u hu => by
  have : u = .string y := by simpa [sV] using hu
  subst this; rfl
theorem sV_cell {w : World} {g : Nat} {x : ByteArray} (h : w.heap[g]? = some (.cells #[.string x] 9 (0, 0))) : ∀ k u, (sV x)[k]? = some u → w.cell? ⟨g, k, none⟩ = some u := fun k u hu => by
  rw [cell_of_row _ _ _ _ _ _ h, ← hu]
  unfold sV
  rw [show (#[Value.string x] : Array Value) = [Value.string x].toArray from rfl, List.getElem?_toArray]
def NLies (B : Nat) (w : World) (N : NL) : Prop := ∀ X : World, (∀ i, B ≤ i → i < w.heap.size → X.heap[i]? = w.heap[i]?) → N.In X
def namsL (B : Nat) (p : List ByteArray) (e : Ending) (w : World) : Prop := ∃ N : NL, e = .returned N.v ∧ N.l = p ∧ NLies B w N
theorem row_names {B : Nat} {w : World} {v : Value} {l : List ByteArray} (h : Row w B 9 1 sV v l) (hl : ∀ t ∈ l, t.size ≤ 2000) : ∃ N : NL, v = N.v ∧ N.l = l ∧ NLies B w N := by
  rcases h.2 with ⟨rfl, h0⟩ | ⟨g, cap, cur, rfl, hb, hg, hc, hm, hs, ht⟩
  · obtain rfl := List.eq_nil_of_length_eq_zero h0
    exact ⟨⟨none, 0, 0, 0, []⟩, rfl, rfl, fun X _ => ⟨Nat.le_refl _, Nat.zero_le _, fun h => absurd h (by simp), fun i t ht => by simp at ht⟩⟩
  · refine ⟨⟨some ⟨g, 0, none⟩, g, 0, cap, l⟩, rfl, rfl, fun X hX => ⟨hc, hm, fun _ => rfl, fun i t ht => ⟨?_, by have := hl t (List.mem_of_getElem? ht); unfold maxLen; omega⟩⟩⟩
    have hlow := h.low (k := g) rfl
    have hr : Row X B 9 1 sV (.slice (some ⟨g, 0, none⟩) l.length cap) l := h.same fun k hk => by
      have : k = g := by simpa [Value.ownBlock] using hk.symm
      subst this
      exact hX k hlow.1 hlow.2
    have := hr.cell (fun _ => rfl) (i := i) (k := 0) (u := .string t) rfl ht rfl
    rw [Nat.mul_one, Nat.add_zero] at this
    show X.cell? ⟨g, 0 + i, none⟩ = _
    rw [Nat.zero_add]; exact this
theorem nmS_sm {C : SyC} {w : World} {l : List Tk} {o : Nat} (h : Syr C w l o) {t : ByteArray} {r : List Tk} (hq : nmS C.E l = .ok (t, r)) : t.size ≤ 2000 := by
  have := (ahd_sm h 0).2.1
  unfold nmS at hq
  split at hq
  · split at hq
    · injection hq with hq; injection hq with hq _; rw [← hq]; exact this
    · cases hq
  · cases hq
theorem nsF_err {E f : Nat} {o : List ByteArray} {l : List Tk} {e : Int × Nat} (h : nmS E l = .error e) : nsF E (f + 1) o l = .error e := by rw [nsF, h]; rfl
theorem nsF_many {E f : Nat} {o : List ByteArray} {l r : List Tk} {t : ByteArray} (h : nmS E l = .ok (t, r)) (ho : o.length = 8) : nsF E (f + 1) o l = .error (5, (ahd E 0 l).a) := by rw [nsF, h, sbd_ok, if_pos ho]
theorem nsF_more {E f : Nat} {o : List ByteArray} {l r : List Tk} {t : ByteArray} (h : nmS E l = .ok (t, r)) (ho : o.length ≠ 8) (hc : isS (ahd E 0 r) (sgn 44) = true) : nsF E (f + 1) o l = nsF E f (o ++ [t]) r.tail := by rw [nsF, h, sbd_ok, if_neg ho, if_pos hc]
theorem nsF_done {E f : Nat} {o : List ByteArray} {l r : List Tk} {t : ByteArray} (h : nmS E l = .ok (t, r)) (ho : o.length ≠ 8) (hc : isS (ahd E 0 r) (sgn 44) = false) : nsF E (f + 1) o l = .ok (o ++ [t], r) := by rw [nsF, h, sbd_ok, if_neg ho, if_neg (by rw [hc]; decide)]
theorem sgrown_old {α : Type} {B : Nat} {e : TypeId} {sz : Nat} {f : α → List Value} {v : Value} {l : List α} {w w' : World} (hr : Row w B e sz f v l) (hB : B ≤ w.heap.size) (hg : w.grownBy w' v.ownBlock) : ∀ k, k < B → w'.heap[k]? = w.heap[k]? :=
  fun k hk => hg.block k (by omega) (fun e => by have := (hr.low e.symm).1; omega)
theorem but_old {z B : Nat} {w a b : World} (h : But z w a) (hB : w.heap.size = B) (hs : a.heap.size ≤ b.heap.size) (hb : ∀ k, k < B → b.heap[k]? = a.heap[k]?) (ho : b.os = a.os ∧ b.tape = a.tape ∧ b.output = a.output) : But z w b :=
  ⟨ho.1.trans h.os, ho.2.1.trans h.tape, ho.2.2.trans h.output, Nat.le_trans h.size hs, fun k hk hz => (hb k (by omega)).trans (h.block k hk hz)⟩
set_option maxRecDepth 100000 in
set_option maxHeartbeats 4000000 in
theorem snames_any {C : SyC} {l : List Tk} {od : Nat} (w : World) (hR : Syr C w l od) : Calls Tryz.prog 93 #[.pointer (some ⟨C.z, 0, none⟩)] w fun e w' => SyPost (namsL w.heap.size) C od w (nsS C.E l) e w' := by
  have HR0 := hide hR
  obtain ⟨B, hB⟩ : ∃ B, B = w.heap.size := ⟨_, rfl⟩
  rw [← hB]
  have HB0 := hide hB
  have hN : nsS C.E l = nsF C.E 9 [] l := rfl
  rw [hN]
  obtain ⟨RR, hRR⟩ : ∃ RR, RR = nsF C.E 9 [] l := ⟨_, rfl⟩
  rw [← hRR]
  have HQ0 := hide hRR
  clear hR hB hN hRR
  go_enter Tryz.func93, Tryz.ntmps93
  go_wp2_with fail
  go_loopw [3] (fun v wr => ∃ (o : List ByteArray) (l' : List Tk) (a : Option Addr) (cap : Nat), o.length ≤ 8 ∧ v = .slice a o.length cap ∧ Hid (Row wr B 9 1 sV (.slice a o.length cap) o ∧ (∀ t ∈ o, t.size ≤ 2000) ∧ Syr C wr l' od ∧ But C.z w wr ∧ RR = nsF C.E (9 - o.length) o l')) (fun v _ => 9 - lenV v)
  case atStart => exact ⟨[], l, none, 0, by simp, rfl, World.ownsRow_nil _ _ _ _, (fun t ht => by simp at ht), unhide HR0, But.refl _ _, unhide HQ0⟩
  case round =>
    obtain ⟨o, l', a, cap, ho, rfl, HI⟩ := hrel
    obtain ⟨f, hf⟩ : ∃ f, 9 - o.length = f + 1 := ⟨8 - o.length, by omega⟩
    have hzB : C.z < B := by rw [unhide HB0]; exact (unhide HR0).lt
    have HA := hide (sat_any wr (unhide HI).2.2.1)
    have HN := hide (fun w h => sname_any (C := C) (l := l') (o := od) w h)
    have HT := hide (fun w => sthrow_any 5 (ahd C.E 0 l').a w)
    have HEQ : Hid (RR = nsF C.E (f + 1) o l') := hide (by rw [← hf]; exact (unhide HI).2.2.2.2)
    obtain ⟨at_, hat⟩ : ∃ at_, at_ = (ahd C.E 0 l').a := ⟨_, rfl⟩
    rw [← hat] at HA HT
    have HAT := hide hat
    have HF := hide hf
    clear hat hf
    go_wp2_with fail
    refine (unhide HA).mono ?_
    rintro e w2 ⟨rfl, hb2⟩
    have HN2 := hide (unhide HN w2 ((unhide HI).2.2.1.below hb2))
    have HSM := hide (fun t r h => nmS_sm (t := t) (r := r) ((unhide HI).2.2.1.below hb2) h)
    have HB2 := hide ((unhide HI).2.2.2.1.trans (But.of_below hb2))
    have HRW2 := hide ((unhide HI).1.later hb2)
    clear hb2 HA HN
    cases hq : nmS C.E l' with
    | error er =>
      obtain ⟨er, i⟩ := er
      have HE : Hid (RR = .error (er, i)) := hide (by rw [unhide HEQ]; exact nsF_err hq)
      rw [hq] at HN2
      clear hq HSM HEQ HT
      go_wp2_with fail
      refine (unhide HN2).mono ?_
      intro e w3 hp
      obtain ⟨hb3, rfl⟩ := sof_err hp rfl
      have HB3 := hide ((unhide HB2).trans hb3)
      clear hp hb3
      unfold thr
      go_wp2_with fail
      exact ⟨rfl, spost_err (unhide HE) (unhide HB3) rfl⟩
    | ok x =>
      obtain ⟨t, r⟩ := x
      have hts := unhide HSM t r hq
      have HQ := hide hq
      rw [hq] at HN2
      clear hq HSM
      go_wp2_with fail
      refine (unhide HN2).mono ?_
      intro e w3 hp
      obtain ⟨hb3, rfl, hR3⟩ := sof_ok hp rfl
      have HB3 := hide ((unhide HB2).trans hb3)
      have HRW3 := hide ((unhide HRW2).same fun k hk => hb3.block k ((unhide HRW2).low hk).2 (by have := ((unhide HRW2).low hk).1; omega))
      have HR3 := hide hR3
      clear hp hb3 hR3 HN2 HRW2 HB2
      by_cases h8 : o.length = 8
      · have HE : Hid (RR = .error (5, at_)) := hide (by rw [unhide HEQ, unhide HAT]; exact nsF_many (unhide HQ) h8)
        have q8 : ((o.length : Int) == 8) = true := bt
        clear h8 HEQ HQ
        go_wp2_with fail
        refine (unhide HT _).mono ?_
        rintro e w4 ⟨rfl, rfl⟩
        unfold thr
        go_wp2_with fail
        exact ⟨rfl, spost_err (unhide HE) (unhide HB3) rfl⟩
      · have q8 : ((o.length : Int) == 8) = false := bn
        have hal : Below w3.heap.size w3 (w3.alloc (.cells #[.string t] 9)) := ba _
        have HRR := hide ((unhide HRW3).later hal)
        have hBw : B ≤ w3.heap.size := by have := (unhide HB3).size; rw [unhide HB0]; exact this
        have HSZ : Hid (B ≤ (w3.alloc (.cells #[.string t] 9)).heap.size) := hide (by rw [World.size_alloc]; omega)
        have HCC := hide (sV_cell (x := t) (show (w3.alloc (.cells #[.string t] 9)).heap[w3.heap.size]? = some (.cells #[.string t] 9 (0, 0)) from at_new rfl))
        have HAF : Hid (∀ w6, (w3.alloc (.cells #[.string t] 9)).grownBy w6 (Value.slice a o.length cap).ownBlock → Syr C w6 r od ∧ But C.z w w6) := hide (fun w6 hg => by
          have ho := sgrown_old (unhide HRR) (unhide HSZ) hg
          exact ⟨((unhide HR3).below hal).old (unhide HR0) (unhide HB0).symm ho, but_old ((unhide HB3).trans (But.of_below hal)) (unhide HB0).symm hg.size ho ⟨hg.os, hg.tape, hg.output⟩⟩)
        have hol : o.length ≤ 1000000 := by omega
        have H8 := hide h8
        clear hal h8
        have HTK := hide (fun w h hs => stake_yes (C := C) (l := r) (o := od) (sgn 44) w h hs)
        have HTN := hide (fun w h hs => stake_no (C := C) (l := r) (o := od) (sgn 44) w h hs)
        unfold sgn at HTK HTN
        go_wp2_with (first
          | (at_builtin; refine wpList_row Tryz.underlying25 strRowS rfl (by decide) (by decide) (fun _ => rfl) sV_one rfl _ _ rfl (unhide HRR) (unhide HSZ) t w3.heap.size 1 rfl rfl (unhide HCC) hol ?_; intro v6 w6 hrow hgrow hown; have HS6 := hide (unhide HAF w6 hgrow); have HR6 := hide hrow; clear hgrow hown hrow HAF HCC)
          | fail)
        obtain ⟨a6, cap6, hv6, -, -⟩ := (unhide HR6).len
        subst hv6
        have hlen : (o ++ [t]).length = o.length + 1 := by simp
        rw [hlen] at HR6 ⊢
        have HSZ6 : Hid (∀ x ∈ o ++ [t], x.size ≤ 2000) := hide (fun x hx => by
          rcases List.mem_append.1 hx with h | h
          · exact (unhide HI).2.1 x h
          · have : x = t := by simpa using h
            subst this; exact hts)
        cases hc : isS (ahd C.E 0 r) ⟨#[44]⟩
        · have HE : Hid (RR = .ok (o ++ [t], r)) := hide (by rw [unhide HEQ]; exact nsF_done (unhide HQ) (unhide H8) hc)
          refine (unhide HTN w6 (unhide HS6).1 hc).mono ?_
          rintro e w7 ⟨rfl, hb7⟩
          obtain ⟨M, hM1, hM2, hM3⟩ := row_names ((unhide HR6).later hb7) (unhide HSZ6)
          have HZ : Hid (Syr C w7 r od ∧ But C.z w w7 ∧ Value.slice a6 (o.length + 1) cap6 = M.v ∧ M.l = o ++ [t] ∧ NLies B w7 M) := hide (⟨(unhide HS6).1.below hb7, (unhide HS6).2.trans (But.of_below hb7), hM1, hM2, hM3⟩)
          clear hb7 hc hM1 hM2 hM3 HTN HTK hlen
          go_wp2_with fail
          go_ret
          exact spost_ok (unhide HE) (unhide HZ).2.1 ⟨M, congrArg Ending.returned (unhide HZ).2.2.1, (unhide HZ).2.2.2⟩ (unhide HZ).1
        · have HE : Hid (RR = nsF C.E f (o ++ [t]) r.tail) := hide (by rw [unhide HEQ]; exact nsF_more (unhide HQ) (unhide H8) hc)
          refine (unhide HTK w6 (unhide HS6).1 hc).mono ?_
          rintro e w7 ⟨rfl, hb7, hR7⟩
          have HZ : Hid (Row w7 B 9 1 sV (.slice a6 (o.length + 1) cap6) (o ++ [t]) ∧ Syr C w7 r.tail od ∧ But C.z w w7) := hide (⟨(unhide HR6).same fun k hk => hb7.block k ((unhide HR6).low hk).2 (by have := ((unhide HR6).low hk).1; omega), hR7, (unhide HS6).2.trans hb7⟩)
          clear hb7 hR7 hc HTN HTK
          go_wp2_with fail
          have hF := unhide HF
          have h8 := unhide H8
          exact ⟨⟨o ++ [t], r.tail, a6, cap6, by rw [hlen]; omega, by rw [hlen], by rw [hlen]; exact (unhide HZ).1, unhide HSZ6, (unhide HZ).2.1, (unhide HZ).2.2, by rw [unhide HE, hlen, show 9 - (o.length + 1) = f by omega]⟩, by show 9 - (o.length + 1) < 9 - o.length; omega⟩
end Go.Proofs.YtpkmamgleofimaaGreatDoor
