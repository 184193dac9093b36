/- The reader of patterns: what stands in brackets. -/
import Derived.Test.YtimbfelbalfmiaaDoorRdRow
namespace Go.Proofs.YtimbfelbalfmiaaDoor
open Go.RowKit

theorem Shapes.but {w w' : World} {z : Nat} (h : Shapes w) (hb : But z w w') (hz : z ≠ 0) : Shapes w' := fun K h1 h2 => by
  obtain ⟨a, b, c, d⟩ := h K h1 h2
  have hg : w'.heap[0]? = w.heap[0]? := hb.block _ (by
    unfold World.cell? at a
    rcases Nat.lt_or_ge 0 w.heap.size with q | q
    · exact q
    · rw [Array.getElem?_eq_none q] at a; cases a) (fun e => hz e.symm)
  have key : ∀ o, w'.cell? ⟨0, o, none⟩ = w.cell? ⟨0, o, none⟩ := fun o => by
    unfold World.cell?
    rw [hg]
  exact ⟨(key _).trans a, (key _).trans b, (key _).trans c, (key _).trans d⟩
/-- What reads patterns says. -/
def Says (f : FuncId) (d : Nat) (P : ByteArray → Nat → Rd PT) : Prop := ∀ (s : ByteArray) (i z : Nat) (w : World), s.size ≤ 65536 → i ≤ s.size → Rdr w z s i ((200 - d : Nat) : Int) → Shapes w → z ≠ 0 →
  Calls Tryd.prog f #[.pointer (some ⟨z, 0, none⟩)] w fun e w' => RdPost (patL w.heap.size) z s ((200 - d : Nat) : Int) w (P s i) e w'
theorem Rdr.set2q {w : World} {z : Nat} {s : ByteArray} {i : Nat} {o : Int} (h : Rdr w z s i o) {p q : Int} (hq : p = q) : Rdr (w.setCell ⟨z, 2, none⟩ (.int .i64 p)) z s i q := by subst hq; exact h.set2 p
theorem zbox {w : World} : (w.alloc (.cells zeroP 24)).heap[w.heap.size]? = some (.cells zeroP 24 (0, 0)) := at_new rfl
theorem but_z {w w' : World} {z k : Nat} {x : Obj} (h : But z w w') (hk : w.heap[k]? = some x) (hz : k ≠ z) : w'.heap[k]? = some x := h.row hz hk
theorem but_setRow {w W : World} {z g : Nat} (h : But z w W) (hg : w.heap.size ≤ g) (cs : Array Value) : But z w (W.setRow g cs) :=
  ⟨h.os, h.tape, h.output, by simpa using h.size, fun k hk hz => (setRow_other W g k cs (by omega)).trans (h.block k hk hz)⟩
theorem Rdr.setRow {w : World} {z g : Nat} {s : ByteArray} {i : Nat} {o : Int} (h : Rdr w z s i o) (hg : g ≠ z) (cs : Array Value) : Rdr (w.setRow g cs) z s i o := (setRow_other w g z cs (fun e => hg e.symm)).trans h
theorem takP_ok {s : ByteArray} {c i : Nat} (h : nx s i = c) : takP s c i = .ok ((), sk s i + 1) := if_pos h
theorem takP_no {s : ByteArray} {c i : Nat} (h : nx s i ≠ c) : takP s c i = .error (2, sk s i) := if_neg h
set_option maxRecDepth 100000 in
set_option maxHeartbeats 4000000 in
theorem bracketed_any {d : Nat} (hd : d ≤ 200) {B : ByteArray → Nat → Rd PT} (hB : ∀ s, Adv s (B s)) (HA : 0 < d → Says 14 (d - 1) B) : Says 40 d (fun s => parP d (B s) s) := by
  intro s i z w hs hi hR hS hzG
  have hzl := hR.lt
  have hb0 : But z w (w.alloc (.cells zeroP 24)) := (But.refl z w).alloc _
  have hR0 := hR.below ((Below.refl _ _).alloc (Nat.le_refl _) (.cells zeroP 24))
  have hbox : (w.alloc (.cells zeroP 24)).heap[w.heap.size]? = some (.cells zeroP 24 (0, 0)) := zbox
  have hne : w.heap.size ≠ z := by omega
  have HS0 := hide (hS.but hb0 hzG)
  have HB0 := hide hb0
  have HX0 := hide hbox
  show Calls _ _ _ _ fun e w' => RdPost (patL w.heap.size) z s ((200 - d : Nat) : Int) w (parP d (B s) s i) e w'
  unfold parP
  by_cases h1 : nx s i = 40
  · rw [takP_ok h1, bnd_ok]
    have HT := hide (take_ok 40 _ hs hi hR0 h1 (by decide))
    have hlt := nx_in (s := s) (i := i) (by omega)
    generalize sk s i = j at *
    clear h1 hR hR0 hS hb0 hbox
    by_cases hd0 : d = 0
    · subst hd0
      rw [if_pos rfl]
      have HTH := hide (fun w => throw_any 4 (j + 1) w)
      go_enter Tryd.func40, Tryd.ntmps40
      go_wp2_with fail
      refine (unhide HT).mono ?_
      rintro e w1 ⟨rfl, hb1, hR1⟩
      have c1 := hR1.c1
      have c2 := hR1.c2
      have HB1 := hide ((unhide HB0).trans hb1)
      clear hb1 hR1
      go_wp2_with (refine (unhide HTH _).mono ?_; rintro e w ⟨rfl, rfl⟩; unfold thr)
      exact ⟨rfl, post_err rfl (unhide HB1) rfl⟩
    · rw [if_neg hd0]
      have HAd := hide (HA (by omega) s (j + 1) z)
      have hdd : ((200 - d : Nat) : Int) ≠ 200 := by omega
      have hop : ((200 - d : Nat) : Int) + 1 = ((200 - (d - 1) : Nat) : Int) := by omega
      have hne2 : (((200 - d : Nat) : Int) == 200) = false := by rw [beq_eq_false_iff_ne]; exact hdd
      have ho1 : (0 : Int) ≤ ((200 - d : Nat) : Int) ∧ ((200 - d : Nat) : Int) ≤ 200 := by omega
      have HADV := hide (hB s (j + 1))
      have HOP := hide hop
      clear hdd HA hop
      generalize ((200 - (d - 1) : Nat) : Int) = o1 at *
      generalize ((200 - d : Nat) : Int) = o at *
      obtain ⟨R, hR0⟩ : ∃ R, B s (j + 1) = R := ⟨_, rfl⟩
      rw [hR0] at HAd HADV ⊢
      clear hR0
      rcases R with ⟨er, at'⟩ | ⟨p, k⟩
      · rw [bnd_err]
        go_enter Tryd.func40, Tryd.ntmps40
        go_wp2_with fail
        refine (unhide HT).mono ?_
        rintro e w1 ⟨rfl, hb1, hR1⟩
        have c1 := hR1.c1
        have c2 := hR1.c2
        have fz := hR1.fz 2
        have HB1 := hide ((unhide HB0).trans hb1)
        have H1 := hide hR1
        have HS1 := hide ((unhide HS0).but hb1 hzG)
        clear hb1 hR1
        go_wp2_with (refine (unhide HAd _ hs (by omega) ((unhide H1).set2q (unhide HOP)) ((unhide HS1).but ((But.refl z w1).setCell 2 _) hzG) hzG).mono ?_; intro e w3 hP; obtain ⟨hb3, rfl⟩ := of_err hP rfl; clear hP; have HB3 := hide ((unhide HB1).trans (((But.refl z w1).setCell 2 _).trans hb3)); clear hb3; unfold thr)
        exact ⟨rfl, post_err rfl (unhide HB3) rfl⟩
      · rw [bnd_ok]
        have hadv := unhide HADV p k (by omega) rfl
        go_enter Tryd.func40, Tryd.ntmps40
        go_wp2_with fail
        refine (unhide HT).mono ?_
        rintro e w1 ⟨rfl, hb1, hR1⟩
        have c1 := hR1.c1
        have c2 := hR1.c2
        have fz := hR1.fz 2
        have HB1 := hide ((unhide HB0).trans hb1)
        have H1 := hide hR1
        have HS1 := hide ((unhide HS0).but hb1 hzG)
        have HX1 := hide ((unhide HX0 |> fun h => but_z hb1 h hne))
        clear hb1 hR1
        go_wp2_with fail
        refine (unhide HAd _ hs (by omega) ((unhide H1).set2q (unhide HOP)) ((unhide HS1).but ((But.refl z w1).setCell 2 _) hzG) hzG).mono ?_
        intro e w3 hP
        obtain ⟨hb3, ⟨U, rfl, hU, hL⟩, hR3⟩ := of_ok hP rfl
        unfold pv
        have hs1 : w.heap.size + 1 ≤ w1.heap.size := by
          have h := (unhide HX1)
          exact (Array.getElem?_eq_some_iff.1 h).1
        rw [show (w1.setCell ⟨z, 2, none⟩ (.int .i64 (o + 1))).heap.size = w1.heap.size by simp] at hL
        have hs3 : w1.heap.size ≤ w3.heap.size := by have := hb3.size; simpa using this
        have HB3 := hide ((unhide HB1).trans (((But.refl z w1).setCell 2 _).trans hb3))
        have HX3 := hide (but_z (((But.refl z w1).setCell 2 (.int .i64 (o + 1))).trans hb3) (unhide HX1) hne)
        have HL3 := hide hL
        have HU := hide hU
        have hb4 : Below w3.heap.size w3 (w3.alloc (.cells #[.int .i64 U.k, .string U.t, .int .i64 U.n, .string U.nm, .slice U.xa U.len U.cap] 24)) := (Below.refl _ _).alloc (Nat.le_refl _) _
        have hn3 : ¬ w3.heap.size = z := by omega
        have hn4 : ¬ z = w3.heap.size := by omega
        by_cases h2 : nx s k = 41
        · have HRR := hide (show (bnd (takP s 41 k) fun _ m => (.ok (p, m) : Rd PT)) = .ok (p, sk s k + 1) by rw [takP_ok h2, bnd_ok])
          have HT2 := hide (take_ok 41 _ hs hadv.2 (hR3.below hb4) h2 (by decide))
          have hlt2 := nx_in (s := s) (i := k) (by omega)
          have HG4 := hide (show (w3.alloc (.cells #[.int .i64 U.k, .string U.t, .int .i64 U.n, .string U.nm, .slice U.xa U.len U.cap] 24)).heap[w3.heap.size]? = some (.cells #[.int .i64 U.k, .string U.t, .int .i64 U.n, .string U.nm, .slice U.xa U.len U.cap] 24 (0, 0)) from at_new rfl)
          have HB4 := hide ((unhide HB3).trans (But.of_below hb4))
          have HL4 := hide ((unhide HL3).below hb4)
          have HX4 := hide (row_below (unhide HX3) hb4)
          clear hb3 hR3 hU hL hP hb4 c1 c2 fz HX3 HL3 h2
          generalize sk s k = m at *
          go_wp2_with fail
          refine (unhide HT2).mono ?_
          rintro e w5 ⟨rfl, hb5, hR5⟩
          have HG5 := hide (but_z hb5 (unhide HG4) (by omega))
          have HX5 := hide (but_z hb5 (unhide HX4) hne)
          have HB5 := hide ((unhide HB4).trans hb5)
          have HL5 := hide ((unhide HL4).but hb5 (by omega))
          have c2 := hR5.c2
          have fz := hR5.fz 2
          have H5 := hide hR5
          obtain ⟨g0, g1, g2, g3, g4⟩ := pats5s (unhide HG5)
          have hom : o1 - 1 = o := by have := unhide HOP; omega
          have HOM := hide hom
          have ho2 : (1 : Int) ≤ o1 ∧ o1 ≤ 201 := by have := unhide HOP; omega
          have HX6 := hide (show (w5.setCell ⟨z, 2, none⟩ (.int .i64 (o1 - 1))).heap[w.heap.size]? = some (.cells zeroP 24 (0, 0)) from (heap_setCell_other w5 ⟨z, 2, none⟩ w.heap.size _ hne).trans (unhide HX5))
          clear hb5 hR5 hom
          go_wp2_with (first
            | (refine wpList_store_row rfl 24 _ _ rfl w.heap.size (patO U) rfl rfl 24 zeroP (unhide HX6) size_pat rfl (patO_oneC U) ?_)
            | fail)
          (try simp only [Exit.inBlock, Exit.then])
          refine bodyPost_ret (results_cell_row rfl _ _ w.heap.size 24 (patO U) (0, 0) _ rfl (setRow_heap _ _ _ _ _ _ (unhide HX6)) Tryd.underlying24 rfl size_pat) rfl ?_
          exact post_ok (unhide HRR) (but_setRow ((unhide HB5).setCell 2 _) (Nat.le_refl _) _) ⟨U, rfl, unhide HU, ((((unhide HL5).but ((But.refl z w5).setCell 2 _) (by omega)).setRow (by omega) _).mono (by omega))⟩ (((unhide H5).set2q (unhide HOM)).setRow hne _)
        · have HRR := hide (show (bnd (takP s 41 k) fun _ m => (.ok (p, m) : Rd PT)) = .error (2, sk s k) by rw [takP_no h2, bnd_err])
          have HT2 := hide (take_bad 41 _ hs hadv.2 (hR3.below hb4) h2)
          have HB4 := hide ((unhide HB3).trans (But.of_below hb4))
          clear hb3 hR3 hU hL hP hb4 c1 c2 fz HX3 HL3 h2
          generalize sk s k = m at *
          go_wp2_with (refine (unhide HT2).mono ?_; rintro e w5 ⟨rfl, hb5⟩; have HB5 := hide ((unhide HB4).trans hb5); clear hb5; unfold thr)
          exact ⟨rfl, post_err (unhide HRR) (unhide HB5) rfl⟩
  · rw [takP_no h1, bnd_err]
    have HT := hide (take_bad 40 _ hs hi hR0 h1)
    clear h1 hR hR0 hS hb0 hbox HA
    go_enter Tryd.func40, Tryd.ntmps40
    go_wp2_with (refine (unhide HT).mono ?_; rintro e w5 ⟨rfl, hb5⟩; have HB5 := hide ((unhide HB0).trans hb5); clear hb5; unfold thr)
    exact ⟨rfl, post_err rfl (unhide HB5) rfl⟩
end Go.Proofs.YtimbfelbalfmiaaDoor
