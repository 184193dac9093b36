/- The document's walk over signs: what stands in brackets. -/
import Derived.Test.YtimbfelbalfmiaaDoorRsF
namespace Go.Proofs.YtimbfelbalfmiaaDoor
open Go.RowKit

/-- What reads patterns in the walk says. -/
def WSays (f : FuncId) (d : Nat) (P : ByteArray → Nat → Rd PT) : Prop := ∀ (s : ByteArray) (i z : Nat) (w : World), s.size ≤ 65536 → i ≤ s.size → Wk w z s (sgs s i) ((200 - d : Nat) : Int) 0 0 →
  Calls Tryd.prog f #[.pointer (some ⟨z, 0, none⟩)] w fun e w' => WPost (patL w.heap.size) patV0 z s ((200 - d : Nat) : Int) w (P s i) e w'
theorem WkB.setD {w : World} {z : Nat} {s : ByteArray} {d er a : Int} (h : WkB w z s d er a) (d' : Int) : WkB (w.setCell ⟨z, 2, none⟩ (.int .i64 d')) z s d' er a := by
  obtain ⟨x, r, g, o, c, h⟩ := h
  exact ⟨x, r, g, o, c, h.setD d'⟩
theorem Wk.setD {w : World} {z : Nat} {s : ByteArray} {l : List Sg} {d er a : Int} (h : Wk w z s l d er a) (d' : Int) : Wk (w.setCell ⟨z, 2, none⟩ (.int .i64 d')) z s l d' er a := by
  obtain ⟨g, o, c, h⟩ := h
  exact ⟨g, o, c, h.setD d'⟩
theorem Wk.cells {w : World} {z : Nat} {s : ByteArray} {l : List Sg} {d er a : Int} (h : Wk w z s l d er a) : w.cell? ⟨z, 2, none⟩ = some (.int .i64 d) ∧ w.cell? ⟨z, 3, none⟩ = some (.int .i64 er) ∧ w.frozen? ⟨z, 2, none⟩ = false := by
  obtain ⟨g, o, c, h⟩ := h
  exact ⟨h.cells.2.2.1, h.cells.2.2.2.1, h.fz 2⟩
theorem WkB.cells {w : World} {z : Nat} {s : ByteArray} {d er a : Int} (h : WkB w z s d er a) : w.cell? ⟨z, 2, none⟩ = some (.int .i64 d) ∧ w.cell? ⟨z, 3, none⟩ = some (.int .i64 er) ∧ w.frozen? ⟨z, 2, none⟩ = false := by
  obtain ⟨x, r, h⟩ := h
  exact h.cells
theorem zeroP_oneC : zeroP.all (·.oneCell') = true := by simp [zeroP, Value.oneCell']
/-- What stands behind a bracket. -/
def inP (d : Nat) (B : Nat → Rd PT) (s : ByteArray) (j : Nat) : Rd PT := if d = 0 then .error (4, j) else bnd (B j) fun p k => bnd (takP s 41 k) fun _ m => .ok (p, m)
set_option maxRecDepth 100000 in
set_option maxHeartbeats 4000000 in
theorem wdeeper_any {d : Nat} (hd : d ≤ 200) {B : ByteArray → Nat → Rd PT} (hB : ∀ s, Adv s (B s)) (HA : 0 < d → WSays 10 (d - 1) B) (s : ByteArray) (j z : Nat) (w : World) (hs : s.size ≤ 65536) (hj : j ≤ s.size) (hW : Wk w z s (sgs s j) ((200 - d : Nat) : Int) 0 0) (x : Sg) (hx : x.e = j) :
    Calls Tryd.prog 34 #[.pointer (some ⟨z, 0, none⟩), sgE x] w fun e w' => WPost (patL w.heap.size) patV0 z s ((200 - d : Nat) : Int) w (inP d (B s) s j) e w' := by
  have hzl := hW.lt
  obtain ⟨o, ho⟩ : ∃ o : Int, o = ((200 - d : Nat) : Int) := ⟨_, rfl⟩
  rw [← ho] at hW ⊢
  have hoR : 0 ≤ o ∧ o ≤ 200 := by omega
  obtain ⟨w0, hw0⟩ : ∃ w0, w0 = ((w.setCell ⟨z, 2, none⟩ (.int .i64 (o + 1))).alloc (.cells (sgO x) 42)).alloc (.cells zeroP 24) := ⟨_, rfl⟩
  have hbs : Below (w.setCell ⟨z, 2, none⟩ (.int .i64 (o + 1))).heap.size (w.setCell ⟨z, 2, none⟩ (.int .i64 (o + 1))) w0 := by rw [hw0]; exact ((Below.refl _ _).alloc (Nat.le_refl _) _).alloc (by rw [World.size_alloc]; omega) _
  have hsz0 : w0.heap.size = w.heap.size + 1 + 1 := by rw [hw0, World.size_alloc, World.size_alloc, World.size_setCell]
  have HX0 := hide (show w0.heap[w.heap.size + 1]? = some (.cells zeroP 24 (0, 0)) by rw [hw0]; exact at_new (by rw [World.size_alloc, World.size_setCell]))
  obtain ⟨c2, c3, f2⟩ := hW.cells
  have HB0 := hide (show But z w w0 from ((But.refl z w).setCell 2 (.int .i64 (o + 1))).trans (But.of_below hbs))
  have H1 := hide ((hW.setD (o + 1)).below hbs)
  have HW0 := hide hw0
  clear hW hbs hw0
  obtain ⟨RR, hRR⟩ : ∃ RR, RR = inP d (B s) s j := ⟨_, rfl⟩
  rw [← hRR]
  have HRR := hide hRR
  clear hRR
  have hxe : (x.e : Int) = (j : Int) := by omega
  unfold sgE
  rw [hxe]
  have HSG := hide (show sgO x = #[.int .i64 (x.k : Int), .string x.t, .int .i64 (x.a : Int), .int .i64 (j : Int)] by unfold sgO; rw [hxe])
  rw [unhide HSG] at HW0
  clear hxe hx
  by_cases hd0 : d = 0
  · have HE := hide (show RR = .error (4, j) by rw [unhide HRR, inP, if_pos hd0])
    have HS := hide (wstop_ok (unhide H1) 4 (j : Int))
    have HNE := hide (sgs_ne (s := s) hj)
    have hg : (200 : Int) < o + 1 := by omega
    clear HA HRR ho hd0 hd
    go_enter Tryd.func34, Tryd.ntmps34
    go_wp2_with fail
    rw [show ((w.setCell ⟨z, 2, none⟩ (.int .i64 (o + 1))).alloc (.cells #[.int .i64 (x.k : Int), .string x.t, .int .i64 (x.a : Int), .int .i64 (j : Int)] 42)).alloc (.cells #[.int .i64 0, .string ⟨#[]⟩, .int .i64 0, .string ⟨#[]⟩, .slice none 0 0] 24) = w0 from (unhide HW0).symm]
    refine (unhide HS).mono ?_
    rintro e w1 ⟨rfl, hb1, hW1⟩
    have HX1 := hide (but_z hb1 (unhide HX0) (by omega))
    have HB1 := hide ((unhide HB0).trans hb1)
    obtain ⟨-, c3, -⟩ := hW1.cells
    have HW1 := hide (show WkB w1 z s (o + 1) 4 (j : Int) by obtain ⟨x, r, q⟩ := unhide HNE; rw [q] at hW1; exact ⟨x, r, hW1⟩)
    clear hb1 hW1
    go_wp2_with (first
      | (refine wpList_store_row rfl 24 _ _ rfl (w.heap.size + 1) zeroP rfl rfl 24 zeroP (unhide HX1) size_pat rfl zeroP_oneC ?_)
      | fail)
    (try simp only [Exit.inBlock, Exit.then])
    refine bodyPost_ret (results_cell_row rfl _ _ (w.heap.size + 1) 24 zeroP (0, 0) _ rfl (setRow_heap _ _ _ _ _ _ (unhide HX1)) Tryd.underlying24 rfl size_pat) rfl ?_
    exact wpost_err (unhide HE) (but_setRow (unhide HB1) (by omega) _) ⟨mkP 0 ⟨#[]⟩ 0 ⟨#[]⟩ [], rfl⟩ (by omega) (by omega) ((unhide HW1).box (by omega))
  · have hg : ¬ (200 : Int) < o + 1 := by omega
    have HAL := hide (show Calls Tryd.prog 10 #[.pointer (some ⟨z, 0, none⟩)] w0 fun e w' => WPost (patL w0.heap.size) patV0 z s (o + 1) w0 (B s j) e w' from by
      have h1 := unhide H1
      rw [show o + 1 = ((200 - (d - 1) : Nat) : Int) by omega] at h1 ⊢
      exact HA (by omega) s j z w0 hs hj h1)
    have HR1 := hide (show RR = bnd (B s j) fun p k => bnd (takP s 41 k) fun _ m => .ok (p, m) by rw [unhide HRR, inP, if_neg hd0])
    have HAD := hide (fun p k => hB s j p k hj)
    clear HA HRR ho hd0 hd
    generalize B s j = RB at *
    rcases RB with ⟨er, a1⟩ | ⟨p, k⟩
    · have HE := hide (show RR = .error (er, a1) by rw [unhide HR1, bnd_err])
      go_enter Tryd.func34, Tryd.ntmps34
      go_wp2_with fail
      rw [show ((w.setCell ⟨z, 2, none⟩ (.int .i64 (o + 1))).alloc (.cells #[.int .i64 (x.k : Int), .string x.t, .int .i64 (x.a : Int), .int .i64 (j : Int)] 42)).alloc (.cells #[.int .i64 0, .string ⟨#[]⟩, .int .i64 0, .string ⟨#[]⟩, .slice none 0 0] 24) = w0 from (unhide HW0).symm]
      refine (unhide HAL).mono ?_
      intro e w1 hP
      obtain ⟨hb1, ⟨U, rfl⟩, D, hD1, hD2, hW1, her⟩ := wof_err hP rfl
      have hs1 := hb1.size
      have hb2 : Below w1.heap.size w1 (w1.alloc (.cells (patO U) 24)) := (Below.refl _ _).alloc (Nat.le_refl _) _
      obtain ⟨c2, c3, f2⟩ := hW1.cells
      have hb3 : Below (w1.setCell ⟨z, 2, none⟩ (.int .i64 (D - 1))).heap.size (w1.setCell ⟨z, 2, none⟩ (.int .i64 (D - 1))) ((w1.setCell ⟨z, 2, none⟩ (.int .i64 (D - 1))).alloc (.cells (patO U) 24)) := (Below.refl _ _).alloc (Nat.le_refl _) _
      have HT := hide (wtake_bad ((hW1.setD (D - 1)).below hb3) her)
      have hbx : But z w0 ((w1.setCell ⟨z, 2, none⟩ (.int .i64 (D - 1))).alloc (.cells (patO U) 24)) := (hb1.setCell 2 _).trans (But.of_below hb3)
      have HX2 := hide (but_z hbx (unhide HX0) (by omega))
      have HG2 := hide (show ((w1.setCell ⟨z, 2, none⟩ (.int .i64 (D - 1))).alloc (.cells (patO U) 24)).heap[w1.heap.size]? = some (.cells (patO U) 24 (0, 0)) from at_new (by rw [World.size_setCell]))
      have HB2 := hide ((unhide HB0).trans hbx)
      have hzl1 := hW1.lt
      have HER := hide her
      clear hP hb1 hW1 hb2 hb3 hbx HAL her
      unfold pv
      go_wp2_with fail
      refine (unhide HT).mono ?_
      rintro e w3 ⟨⟨y, rfl⟩, hb3, hW3⟩
      have HX3 := hide (but_z hb3 (unhide HX2) (by omega))
      obtain ⟨g0, g1, g2, g3, g4⟩ := pats5s (but_z hb3 (unhide HG2) (by omega))
      have HB3 := hide ((unhide HB2).trans hb3)
      have HW3 := hide hW3
      clear hb3 hW3
      unfold sgE
      go_wp2_with (first
        | (refine wpList_store_row rfl 24 _ _ rfl (w.heap.size + 1) (patO U) rfl rfl 24 zeroP (unhide HX3) size_pat rfl (patO_oneC _) ?_)
        | fail)
      (try simp only [Exit.inBlock, Exit.then])
      refine bodyPost_ret (results_cell_row rfl _ _ (w.heap.size + 1) 24 (patO U) (0, 0) _ rfl (setRow_heap _ _ _ _ _ _ (unhide HX3)) Tryd.underlying24 rfl size_pat) rfl ?_
      exact wpost_err (unhide HE) (but_setRow (unhide HB3) (by omega) _) ⟨U, rfl⟩ (by omega) (by omega) ((unhide HW3).box (by omega)) (unhide HER)
    · have hadv := unhide HAD p k rfl
      have HR2 := hide (show RR = bnd (takP s 41 k) fun _ m => .ok (p, m) by rw [unhide HR1, bnd_ok])
      go_enter Tryd.func34, Tryd.ntmps34
      go_wp2_with fail
      rw [show ((w.setCell ⟨z, 2, none⟩ (.int .i64 (o + 1))).alloc (.cells #[.int .i64 (x.k : Int), .string x.t, .int .i64 (x.a : Int), .int .i64 (j : Int)] 42)).alloc (.cells #[.int .i64 0, .string ⟨#[]⟩, .int .i64 0, .string ⟨#[]⟩, .slice none 0 0] 24) = w0 from (unhide HW0).symm]
      refine (unhide HAL).mono ?_
      intro e w1 hP
      obtain ⟨hb1, ⟨U, rfl, hU, hL⟩, hW1⟩ := wof_ok hP rfl
      have hs1 := hb1.size
      obtain ⟨c2, c3, f2⟩ := hW1.cells
      have hoo : o + 1 - 1 = o := by omega
      have hb3 : Below (w1.setCell ⟨z, 2, none⟩ (.int .i64 o)).heap.size (w1.setCell ⟨z, 2, none⟩ (.int .i64 o)) ((w1.setCell ⟨z, 2, none⟩ (.int .i64 o)).alloc (.cells (patO U) 24)) := (Below.refl _ _).alloc (Nat.le_refl _) _
      have hW2 := (hW1.setD o).below hb3
      have hbx : But z w0 ((w1.setCell ⟨z, 2, none⟩ (.int .i64 o)).alloc (.cells (patO U) 24)) := (hb1.setCell 2 _).trans (But.of_below hb3)
      have HX2 := hide (but_z hbx (unhide HX0) (by omega))
      have HG2 := hide (show ((w1.setCell ⟨z, 2, none⟩ (.int .i64 o)).alloc (.cells (patO U) 24)).heap[w1.heap.size]? = some (.cells (patO U) 24 (0, 0)) from at_new (by rw [World.size_setCell]))
      have HB2 := hide ((unhide HB0).trans hbx)
      have HL2 := hide ((hL.but ((But.refl z w1).setCell 2 (.int .i64 o)) (by omega)).below hb3)
      have HU := hide hU
      have hzl1 := hW1.lt
      have HP : ∃ P : World → Prop, (∀ w' n cs, P w' → z < n → P (w'.setRow n cs)) ∧ Hid (∀ w', P w' → (But z w w') → (Lies w0.heap.size w' U) → WPost (patL w.heap.size) patV0 z s o w RR (.returned (pv U)) w') ∧ Hid (Calls Tryd.prog 19 #[.pointer (some ⟨z, 0, none⟩), .int .i64 41] ((w1.setCell ⟨z, 2, none⟩ (.int .i64 o)).alloc (.cells (patO U) 24)) fun e w' => (∃ x, e = .returned (sgE x)) ∧ But z ((w1.setCell ⟨z, 2, none⟩ (.int .i64 o)).alloc (.cells (patO U) 24)) w' ∧ P w') := by
        by_cases h41 : nx s k = 41
        · refine ⟨fun w' => Wk w' z s (sgs s (sk s k + 1)) o 0 0, fun w' n cs h hn => h.box hn, fun w' h hb hl => ?_, ?_⟩
          · exact wpost_ok (by rw [unhide HR2, takP_ok h41, bnd_ok]) hb ⟨U, rfl, hU, hl.mono (by omega)⟩ h
          · exact (wtk_ok hadv.2 hW2 41 h41 (by decide) (by decide) (by decide) (by decide) (by decide)).mono fun e w' q => ⟨⟨_, q.1⟩, q.2⟩
        · refine ⟨fun w' => WkB w' z s o 2 (sk s k), fun w' n cs h hn => h.box hn, fun w' h hb hl => ?_, ?_⟩
          · exact wpost_err (by rw [unhide HR2, takP_no h41, bnd_err]) hb ⟨U, rfl⟩ (Int.le_refl _) (by omega) h
          · exact wtk_no hadv.2 hW2 41 h41 (by decide)
      obtain ⟨P, hPb, HPE, HT⟩ := HP
      have HPB := hide hPb
      clear hP hb1 hW1 hW2 hb3 hbx HAL hU hL hPb
      unfold pv
      go_wp2_with fail
      refine (unhide HT).mono ?_
      rintro e w3 ⟨⟨y, rfl⟩, hb3, hW3⟩
      have HX3 := hide (but_z hb3 (unhide HX2) (by omega))
      obtain ⟨g0, g1, g2, g3, g4⟩ := pats5s (but_z hb3 (unhide HG2) (by omega))
      have HB3 := hide ((unhide HB2).trans hb3)
      have HL3 := hide ((unhide HL2).but hb3 (by omega))
      have HW3 := hide hW3
      clear hb3 hW3
      unfold sgE
      go_wp2_with (first
        | (refine wpList_store_row rfl 24 _ _ rfl (w.heap.size + 1) (patO U) rfl rfl 24 zeroP (unhide HX3) size_pat rfl (patO_oneC _) ?_)
        | fail)
      (try simp only [Exit.inBlock, Exit.then])
      refine bodyPost_ret (results_cell_row rfl _ _ (w.heap.size + 1) 24 (patO U) (0, 0) _ rfl (setRow_heap _ _ _ _ _ _ (unhide HX3)) Tryd.underlying24 rfl size_pat) rfl ?_
      exact unhide HPE _ (unhide HPB _ _ _ (unhide HW3) (by omega)) (but_setRow (unhide HB3) (by omega) _) ((unhide HL3).setRow (by omega) _)
end Go.Proofs.YtimbfelbalfmiaaDoor
