/- The reader of patterns: pieces that begin with a word. The reader of patterns: pieces that begin with a word, the other kinds. -/
import Derived.Test.YtpkmamgleofimaaGreatDoorSyAM
namespace Go.Proofs.YtpkmamgleofimaaGreatDoor
open Go.RowKit

def unitV (_ : Unit) (e : Ending) (_ : World) : Prop := e = .returned (.tuple #[])
theorem take_any {s : ByteArray} {i z : Nat} {o : Int} (c : Nat) (h0 : c ≠ 0) (w : World) (hs : s.size ≤ 65536) (hi : i ≤ s.size) (hR : Rdr w z s i o) : Calls Tryz.prog 149 #[.pointer (some ⟨z, 0, none⟩), .int .u8 (c : Int)] w fun e w' => RdPost unitV z s o w (takP s c i) e w' := by
  by_cases h : nx s i = c
  · refine (take_ok c w hs hi hR h h0).mono ?_
    rintro e w' ⟨rfl, hb, hr⟩
    exact post_ok (takP_ok h) hb rfl hr
  · refine (take_bad c w hs hi hR h).mono ?_
    rintro e w' ⟨rfl, hb⟩
    exact post_err (takP_no h) hb rfl
def lfO (k : Nat) (t : ByteArray) (n : Int) : Array Value := #[.int .i64 (k : Int), .string t, .int .i64 n, .string ⟨#[]⟩, .slice none 0 0]
theorem ext_le (s : ByteArray) (i j : Nat) : (s.extract i j).size ≤ s.size := by rw [ByteArray.size_extract]; omega
theorem kindW_le (t : ByteArray) : kindW t ≤ 24 := kwUp_le t 24
theorem lfO_oneC (k : Nat) (t : ByteArray) (n : Int) : (lfO k t n).all (·.oneCell') = true := by simp [lfO, Value.oneCell']
theorem but_setNew {w W : World} {z g : Nat} (h : But z w W) (hg : w.heap.size ≤ g) (k : Nat) (v : Value) : But z w (W.setCell ⟨g, k, none⟩ v) :=
  ⟨h.os, h.tape, h.output, by simpa using h.size, fun i hi hz => (heap_setCell_other W ⟨g, k, none⟩ i v (by show i ≠ g; omega)).trans (h.block i hi hz)⟩
theorem nuP_le {s : ByteArray} {i n j : Nat} (h : nuP s i = .ok (n, j)) : n ≤ 65536 := by
  unfold nuP at h
  split at h
  · split at h
    · cases h
    · split at h
      · cases h
      · injection h with h; injection h with h _; omega
  · cases h
theorem ct_len (s : ByteArray) (i : Nat) : (ct s i).length ≤ s.size - i :=
  cq_ind (P := fun i => (ct s i).length ≤ s.size - i) (fun i hi => by rw [ct_end hi]; simp) (fun i hi hb ih => by rw [ct_plain hi hb, List.length_cons]; omega)
    (fun i hb hc ih => by rw [ct_two hb hc, List.length_cons]; have := bat_in (s := s) (i := i + 1) (by omega); omega) (fun i hb hc => by rw [ct_here hb hc]; simp) s.size i (by omega)
theorem qtP_le {s : ByteArray} {i j : Nat} {t : ByteArray} (hs : s.size ≤ 65536) (h : qtP s i = .ok (t, j)) : t.size ≤ 65536 := by
  unfold qtP at h
  split at h
  · injection h with h; injection h with h _
    subst h
    have := ct_len s (i + 1)
    show (ct s (i + 1)).toArray.size ≤ 65536
    simp; omega
  · cases h
theorem fiP_leS {s : ByteArray} {i j : Nat} {t : ByteArray} (hs : s.size ≤ 65536) (h : fiP s i = .ok (t, j)) : t.size ≤ 65536 := by
  unfold fiP at h
  split at h
  · obtain ⟨u, e, h1, h2⟩ := bnd_some h
    split at h2
    · cases h2
    · injection h2 with h2; injection h2 with h2 _
      subst h2
      exact qtP_le hs h1
  · cases h
set_option maxRecDepth 100000 in
set_option maxHeartbeats 4000000 in
theorem worded_num {d : Nat} {B : ByteArray → Nat → Rd PT} {s : ByteArray} {i z : Nat} {o : Int} {w : World} (hs : s.size ≤ 65536) (hl : letterN (bat s i) = true) (hR : Rdr w z s i o) (hS : Shapes w) (hzG : z ≠ 4)
    {K : Nat} (hK : kindW (s.extract i (wdE s i)) = K) (h0 : K ≠ 0) (h20 : K ≠ 20) (hh : hasK K = 2) :
    Calls Tryz.prog 144 #[.pointer (some ⟨z, 0, none⟩)] w fun e w' => RdPost (patL w.heap.size) z s o w (woP d (B s) s i) e w' := by
  have hE := wdE_adv hl
  have hzl := hR.lt
  have hb0 : But z w (w.alloc (.cells zeroP 45)) := (But.refl z w).alloc _
  have hR0 := hR.below ((Below.refl _ _).alloc (Nat.le_refl _) (.cells zeroP 45))
  have hne : w.heap.size ≠ z := by omega
  have hK24 : K ≤ 24 := hK ▸ kindW_le _
  have HS0 := hide (hS.but hb0 hzG)
  have HB0 := hide hb0
  have HX0 : Hid ((w.alloc (.cells zeroP 45)).heap[w.heap.size]? = some (.cells zeroP 45 (0, 0))) := hide (zbox)
  have HW := hide (rdWord_any _ hs (by omega) hR0)
  have HKO := hide (fun w h => kindOf_any (s.extract i (wdE s i)) w h)
  rw [hK] at HKO
  have HT1 := hide (fun w h => take_any (z := z) (o := o) 40 (by decide) w hs hE.2 h)
  have HT1A := hide (fun x a => takP_adv s 40 (by decide) (wdE s i) x a hE.2)
  have HRR : Hid (woP d (B s) s i = bnd (takP s 40 (wdE s i)) fun _ a => bnd (nuP s a) fun n b => bnd (takP s 41 b) fun _ c => .ok (mkP K ⟨#[]⟩ n ⟨#[]⟩ [], c)) := hide (by
    unfold woP
    rw [hK, if_neg h0, if_neg h20, if_pos hh])
  generalize woP d (B s) s i = RR at *
  have c1 := hR0.c1
  unfold zeroP at c1
  have e0 : ((K : Int) == 0) = false := bn
  have e20 : ((K : Int) == 20) = false := bn
  have hKb : (0 : Int) ≤ (K : Int) ∧ (K : Int) < 25 := by omega
  have HH := hide hh
  have hK1 : 1 ≤ K := by omega
  clear hR hR0 hS hb0 hl hK hh h0 h20
  generalize s.extract i (wdE s i) = word at *
  generalize wdE s i = E at *
  go_enter Tryz.func144, Tryz.ntmps144
  go_wp2_with fail
  refine (unhide HW).mono ?_
  rintro e w1 ⟨rfl, hb1, hR1⟩
  have HS1 := hide ((unhide HS0).but hb1 hzG)
  have HX1 := hide (but_z hb1 (unhide HX0) hne)
  have HB1 := hide ((unhide HB0).trans hb1)
  have H1 := hide hR1
  have hs1 : w.heap.size + 1 ≤ w1.heap.size := (Array.getElem?_eq_some_iff.1 (unhide HX1)).1
  clear hb1 hR1 c1
  go_wp2_with fail
  refine (unhide HKO _ (unhide HS1)).mono ?_
  rintro e w1 ⟨rfl, rfl⟩
  have hb2 : Below w1.heap.size w1 (w1.alloc (.cells (lfO K ⟨#[]⟩ 0) 45)) := ba _
  have HS2 := hide ((unhide HS1).later hb2)
  obtain ⟨-, s1, -, -⟩ := unhide HS2 K hK1 hK24
  rw [unhide HH] at s1
  have HX2 := hide (row_below (unhide HX1) hb2)
  have HB2 := hide ((unhide HB1).trans (But.of_below hb2))
  have H2 := hide ((unhide H1).below hb2)
  have HP2 : Hid ((w1.alloc (.cells (lfO K ⟨#[]⟩ 0) 45)).heap[w1.heap.size]? = some (.cells (lfO K ⟨#[]⟩ 0) 45 (0, 0))) := hide (at_new rfl)
  unfold lfO at s1
  clear hb2
  go_wp2_with fail
  refine (unhide HT1 _ (unhide H2)).mono ?_
  intro e w3 hP3
  have hgz : w1.heap.size ≠ z := by omega
  rcases hr3 : takP s 40 E with ⟨er, a1⟩ | ⟨⟨⟩, a1⟩
  · obtain ⟨hb3, rfl⟩ := of_err hP3 hr3
    have HB3 := hide ((unhide HB2).trans hb3)
    have HRE : Hid (RR = .error (er, a1)) := hide (by rw [unhide HRR, hr3, bnd_err])
    clear hP3 hb3 hr3 s1
    unfold thr
    go_wp2_with fail
    exact ⟨rfl, post_err (unhide HRE) (unhide HB3) rfl⟩
  · obtain ⟨hb3, hv3, hR3⟩ := of_ok hP3 hr3
    unfold unitV at hv3
    subst hv3
    have hadv := unhide HT1A _ a1 hr3
    have HP3 := hide (but_z hb3 (unhide HP2) hgz)
    have HX3 := hide (but_z hb3 (unhide HX2) hne)
    have HB3 := hide ((unhide HB2).trans hb3)
    have H3 := hide hR3
    have HNU := hide (fun w h => number_any (z := z) (o := o) w hs hadv.2 h)
    have HNA := hide (fun n b => nuP_adv s a1 n b hadv.2)
    have HRR3 : Hid (RR = bnd (nuP s a1) fun n b => bnd (takP s 41 b) fun _ c => .ok (mkP K ⟨#[]⟩ n ⟨#[]⟩ [], c)) := hide (by rw [unhide HRR, hr3, bnd_ok])
    clear hP3 hb3 hr3 s1 hR3 HRR
    go_wp2_with fail
    refine (unhide HNU _ (unhide H3)).mono ?_
    intro e w4 hP4
    rcases hr4 : nuP s a1 with ⟨er, a2⟩ | ⟨n, a2⟩
    · obtain ⟨hb4, rfl⟩ := of_err hP4 hr4
      have HB4 := hide ((unhide HB3).trans hb4)
      have HRE : Hid (RR = .error (er, a2)) := hide (by rw [unhide HRR3, hr4, bnd_err])
      clear hP4 hb4 hr4
      unfold thr
      go_wp2_with fail
      exact ⟨rfl, post_err (unhide HRE) (unhide HB4) rfl⟩
    · obtain ⟨hb4, hv4, hR4⟩ := of_ok hP4 hr4
      unfold numV at hv4
      subst hv4
      have hadv4 := unhide HNA n a2 hr4
      have HLE := hide (nuP_le hr4)
      have HP4 := hide (but_z hb4 (unhide HP3) hgz)
      have HX4 := hide (but_z hb4 (unhide HX3) hne)
      have HB4 := hide ((unhide HB3).trans hb4)
      have H4 := hide hR4
      obtain ⟨p0, p1, p2, p3, p4⟩ := pats5s (unhide HP4)
      have pf := frozen_of_row w4 w1.heap.size 2 _ _ (unhide HP4)
      have HP5 : Hid ((w4.setCell ⟨w1.heap.size, 2, none⟩ (.int .i64 (n : Int))).heap[w1.heap.size]? = some (.cells (lfO K ⟨#[]⟩ (n : Int)) 45 (0, 0))) := hide (heap_setCell_same w4 w1.heap.size 2 _ _ _ (unhide HP4))
      have HX5 : Hid ((w4.setCell ⟨w1.heap.size, 2, none⟩ (.int .i64 (n : Int))).heap[w.heap.size]? = some (.cells zeroP 45 (0, 0))) := hide ((heap_setCell_other w4 ⟨w1.heap.size, 2, none⟩ w.heap.size _ (by show w.heap.size ≠ w1.heap.size; omega)).trans (unhide HX4))
      have H5 : Hid (Rdr (w4.setCell ⟨w1.heap.size, 2, none⟩ (.int .i64 (n : Int))) z s a2 o) := hide ((heap_setCell_other w4 ⟨w1.heap.size, 2, none⟩ z _ (by show z ≠ w1.heap.size; omega)).trans (unhide H4))
      have HB5 : Hid (But z w (w4.setCell ⟨w1.heap.size, 2, none⟩ (.int .i64 (n : Int)))) := hide (but_setNew (unhide HB4) (by omega) _ _)
      have HT2 := hide (fun w h => take_any (z := z) (o := o) 41 (by decide) w hs hadv4.2 h)
      have HRR4 : Hid (RR = bnd (takP s 41 a2) fun _ c => .ok (mkP K ⟨#[]⟩ n ⟨#[]⟩ [], c)) := hide (by rw [unhide HRR3, hr4, bnd_ok])
      clear hP4 hb4 hr4 hR4 HRR3
      go_wp2_with fail
      refine (unhide HT2 _ (unhide H5)).mono ?_
      intro e w6 hP6
      rcases hr6 : takP s 41 a2 with ⟨er, a3⟩ | ⟨⟨⟩, a3⟩
      · obtain ⟨hb6, rfl⟩ := of_err hP6 hr6
        have HB6 := hide ((unhide HB5).trans hb6)
        have HRE : Hid (RR = .error (er, a3)) := hide (by rw [unhide HRR4, hr6, bnd_err])
        clear hP6 hb6 hr6 p0 p1 p2 p3 p4 pf
        unfold thr
        go_wp2_with fail
        exact ⟨rfl, post_err (unhide HRE) (unhide HB6) rfl⟩
      · obtain ⟨hb6, hv6, hR6⟩ := of_ok hP6 hr6
        unfold unitV at hv6
        subst hv6
        clear p0 p1 p2 p3 p4 pf
        obtain ⟨p0, p1, p2, p3, p4⟩ := pats5s (but_z hb6 (unhide HP5) hgz)
        have HX6 := hide (but_z hb6 (unhide HX5) hne)
        have HB6 := hide ((unhide HB5).trans hb6)
        have H6 := hide hR6
        have HRE : Hid (RR = .ok (mkP K ⟨#[]⟩ n ⟨#[]⟩ [], a3)) := hide (by rw [unhide HRR4, hr6, bnd_ok])
        clear hP6 hb6 hr6 hR6
        go_wp2_with (first
          | (refine wpList_store_row rfl 45 _ _ rfl w.heap.size (lfO K ⟨#[]⟩ (n : Int)) rfl rfl 45 zeroP (unhide HX6) size_pat rfl (lfO_oneC _ _ _) ?_)
          | fail)
        (try simp only [Exit.inBlock, Exit.then])
        refine bodyPost_ret (results_cell_row rfl _ _ w.heap.size 45 (lfO K ⟨#[]⟩ (n : Int)) (0, 0) _ rfl (setRow_heap _ _ _ _ _ _ (unhide HX6)) Tryz.underlying45 rfl size_pat) rfl ?_
        exact post_ok (unhide HRE) (but_setRow (unhide HB6) (Nat.le_refl _) _) ⟨mkP K ⟨#[]⟩ n ⟨#[]⟩ [], rfl, leaf_can _ _ _ _, leaf_lies (by omega) (by have h := unhide HLE; omega) (by decide) (by decide)⟩ ((unhide H6).setRow hne _)
set_option maxRecDepth 100000 in
set_option maxHeartbeats 4000000 in
theorem worded_text {d : Nat} {B : ByteArray → Nat → Rd PT} {s : ByteArray} {i z : Nat} {o : Int} {w : World} (hs : s.size ≤ 65536) (hl : letterN (bat s i) = true) (hR : Rdr w z s i o) (hS : Shapes w) (hzG : z ≠ 4)
    {K : Nat} (hK : kindW (s.extract i (wdE s i)) = K) (h0 : K ≠ 0) (h20 : K ≠ 20) (hh : hasK K = 1) :
    Calls Tryz.prog 144 #[.pointer (some ⟨z, 0, none⟩)] w fun e w' => RdPost (patL w.heap.size) z s o w (woP d (B s) s i) e w' := by
  have hE := wdE_adv hl
  have hzl := hR.lt
  have hb0 : But z w (w.alloc (.cells zeroP 45)) := (But.refl z w).alloc _
  have hR0 := hR.below ((Below.refl _ _).alloc (Nat.le_refl _) (.cells zeroP 45))
  have hne : w.heap.size ≠ z := by omega
  have hK24 : K ≤ 24 := hK ▸ kindW_le _
  have HS0 := hide (hS.but hb0 hzG)
  have HB0 := hide hb0
  have HX0 : Hid ((w.alloc (.cells zeroP 45)).heap[w.heap.size]? = some (.cells zeroP 45 (0, 0))) := hide (zbox)
  have HW := hide (rdWord_any _ hs (by omega) hR0)
  have HKO := hide (fun w h => kindOf_any (s.extract i (wdE s i)) w h)
  rw [hK] at HKO
  have HT1 := hide (fun w h => take_any (z := z) (o := o) 40 (by decide) w hs hE.2 h)
  have HT1A := hide (fun x a => takP_adv s 40 (by decide) (wdE s i) x a hE.2)
  have HRR : Hid (woP d (B s) s i = bnd (takP s 40 (wdE s i)) fun _ a => bnd (fiP s a) fun t b => bnd (takP s 41 b) fun _ c => .ok (mkP K t 0 ⟨#[]⟩ [], c)) := hide (by
    unfold woP
    rw [hK, if_neg h0, if_neg h20, if_neg (by rw [hh]; decide), if_pos hh])
  generalize woP d (B s) s i = RR at *
  have c1 := hR0.c1
  unfold zeroP at c1
  have e0 : ((K : Int) == 0) = false := bn
  have e20 : ((K : Int) == 20) = false := bn
  have hKb : (0 : Int) ≤ (K : Int) ∧ (K : Int) < 25 := by omega
  have HH := hide hh
  have hK1 : 1 ≤ K := by omega
  clear hR hR0 hS hb0 hl hK hh h0 h20
  generalize s.extract i (wdE s i) = word at *
  generalize wdE s i = E at *
  go_enter Tryz.func144, Tryz.ntmps144
  go_wp2_with fail
  refine (unhide HW).mono ?_
  rintro e w1 ⟨rfl, hb1, hR1⟩
  have HS1 := hide ((unhide HS0).but hb1 hzG)
  have HX1 := hide (but_z hb1 (unhide HX0) hne)
  have HB1 := hide ((unhide HB0).trans hb1)
  have H1 := hide hR1
  have hs1 : w.heap.size + 1 ≤ w1.heap.size := (Array.getElem?_eq_some_iff.1 (unhide HX1)).1
  clear hb1 hR1 c1
  go_wp2_with fail
  refine (unhide HKO _ (unhide HS1)).mono ?_
  rintro e w1 ⟨rfl, rfl⟩
  have hb2 : Below w1.heap.size w1 (w1.alloc (.cells (lfO K ⟨#[]⟩ 0) 45)) := ba _
  have HS2 := hide ((unhide HS1).later hb2)
  obtain ⟨-, s1, -, -⟩ := unhide HS2 K hK1 hK24
  rw [unhide HH] at s1
  have HX2 := hide (row_below (unhide HX1) hb2)
  have HB2 := hide ((unhide HB1).trans (But.of_below hb2))
  have H2 := hide ((unhide H1).below hb2)
  have HP2 : Hid ((w1.alloc (.cells (lfO K ⟨#[]⟩ 0) 45)).heap[w1.heap.size]? = some (.cells (lfO K ⟨#[]⟩ 0) 45 (0, 0))) := hide (at_new rfl)
  unfold lfO at s1
  clear hb2
  go_wp2_with fail
  refine (unhide HT1 _ (unhide H2)).mono ?_
  intro e w3 hP3
  have hgz : w1.heap.size ≠ z := by omega
  rcases hr3 : takP s 40 E with ⟨er, a1⟩ | ⟨⟨⟩, a1⟩
  · obtain ⟨hb3, rfl⟩ := of_err hP3 hr3
    have HB3 := hide ((unhide HB2).trans hb3)
    have HRE : Hid (RR = .error (er, a1)) := hide (by rw [unhide HRR, hr3, bnd_err])
    clear hP3 hb3 hr3 s1
    unfold thr
    go_wp2_with fail
    exact ⟨rfl, post_err (unhide HRE) (unhide HB3) rfl⟩
  · obtain ⟨hb3, hv3, hR3⟩ := of_ok hP3 hr3
    unfold unitV at hv3
    subst hv3
    have hadv := unhide HT1A _ a1 hr3
    have HP3 := hide (but_z hb3 (unhide HP2) hgz)
    have HX3 := hide (but_z hb3 (unhide HX2) hne)
    have HB3 := hide ((unhide HB2).trans hb3)
    have H3 := hide hR3
    have HNU := hide (fun w h => filled_any (z := z) (o := o) w hs hadv.2 h)
    have HNA := hide (fun n b => fiP_adv s a1 n b hadv.2)
    have HRR3 : Hid (RR = bnd (fiP s a1) fun n b => bnd (takP s 41 b) fun _ c => .ok (mkP K n 0 ⟨#[]⟩ [], c)) := hide (by rw [unhide HRR, hr3, bnd_ok])
    clear hP3 hb3 hr3 s1 hR3 HRR
    go_wp2_with fail
    refine (unhide HNU _ (unhide H3)).mono ?_
    intro e w4 hP4
    rcases hr4 : fiP s a1 with ⟨er, a2⟩ | ⟨n, a2⟩
    · obtain ⟨hb4, rfl⟩ := of_err hP4 hr4
      have HB4 := hide ((unhide HB3).trans hb4)
      have HRE : Hid (RR = .error (er, a2)) := hide (by rw [unhide HRR3, hr4, bnd_err])
      clear hP4 hb4 hr4
      unfold thr
      go_wp2_with fail
      exact ⟨rfl, post_err (unhide HRE) (unhide HB4) rfl⟩
    · obtain ⟨hb4, hv4, hR4⟩ := of_ok hP4 hr4
      unfold strV at hv4
      subst hv4
      have hadv4 := unhide HNA n a2 hr4
      have HLE := hide (fiP_leS hs hr4)
      have HP4 := hide (but_z hb4 (unhide HP3) hgz)
      have HX4 := hide (but_z hb4 (unhide HX3) hne)
      have HB4 := hide ((unhide HB3).trans hb4)
      have H4 := hide hR4
      obtain ⟨p0, p1, p2, p3, p4⟩ := pats5s (unhide HP4)
      have pf := frozen_of_row w4 w1.heap.size 1 _ _ (unhide HP4)
      have HP5 : Hid ((w4.setCell ⟨w1.heap.size, 1, none⟩ (.string n)).heap[w1.heap.size]? = some (.cells (lfO K n 0) 45 (0, 0))) := hide (heap_setCell_same w4 w1.heap.size 1 _ _ _ (unhide HP4))
      have HX5 : Hid ((w4.setCell ⟨w1.heap.size, 1, none⟩ (.string n)).heap[w.heap.size]? = some (.cells zeroP 45 (0, 0))) := hide ((heap_setCell_other w4 ⟨w1.heap.size, 1, none⟩ w.heap.size _ (by show w.heap.size ≠ w1.heap.size; omega)).trans (unhide HX4))
      have H5 : Hid (Rdr (w4.setCell ⟨w1.heap.size, 1, none⟩ (.string n)) z s a2 o) := hide ((heap_setCell_other w4 ⟨w1.heap.size, 1, none⟩ z _ (by show z ≠ w1.heap.size; omega)).trans (unhide H4))
      have HB5 : Hid (But z w (w4.setCell ⟨w1.heap.size, 1, none⟩ (.string n))) := hide (but_setNew (unhide HB4) (by omega) _ _)
      have HT2 := hide (fun w h => take_any (z := z) (o := o) 41 (by decide) w hs hadv4.2 h)
      have HRR4 : Hid (RR = bnd (takP s 41 a2) fun _ c => .ok (mkP K n 0 ⟨#[]⟩ [], c)) := hide (by rw [unhide HRR3, hr4, bnd_ok])
      clear hP4 hb4 hr4 hR4 HRR3
      go_wp2_with fail
      refine (unhide HT2 _ (unhide H5)).mono ?_
      intro e w6 hP6
      rcases hr6 : takP s 41 a2 with ⟨er, a3⟩ | ⟨⟨⟩, a3⟩
      · obtain ⟨hb6, rfl⟩ := of_err hP6 hr6
        have HB6 := hide ((unhide HB5).trans hb6)
        have HRE : Hid (RR = .error (er, a3)) := hide (by rw [unhide HRR4, hr6, bnd_err])
        clear hP6 hb6 hr6 p0 p1 p2 p3 p4 pf
        unfold thr
        go_wp2_with fail
        exact ⟨rfl, post_err (unhide HRE) (unhide HB6) rfl⟩
      · obtain ⟨hb6, hv6, hR6⟩ := of_ok hP6 hr6
        unfold unitV at hv6
        subst hv6
        clear p0 p1 p2 p3 p4 pf
        obtain ⟨p0, p1, p2, p3, p4⟩ := pats5s (but_z hb6 (unhide HP5) hgz)
        have HX6 := hide (but_z hb6 (unhide HX5) hne)
        have HB6 := hide ((unhide HB5).trans hb6)
        have H6 := hide hR6
        have HRE : Hid (RR = .ok (mkP K n 0 ⟨#[]⟩ [], a3)) := hide (by rw [unhide HRR4, hr6, bnd_ok])
        clear hP6 hb6 hr6 hR6
        go_wp2_with (first
          | (refine wpList_store_row rfl 45 _ _ rfl w.heap.size (lfO K n 0) rfl rfl 45 zeroP (unhide HX6) size_pat rfl (lfO_oneC _ _ _) ?_)
          | fail)
        (try simp only [Exit.inBlock, Exit.then])
        refine bodyPost_ret (results_cell_row rfl _ _ w.heap.size 45 (lfO K n 0) (0, 0) _ rfl (setRow_heap _ _ _ _ _ _ (unhide HX6)) Tryz.underlying45 rfl size_pat) rfl ?_
        exact post_ok (unhide HRE) (but_setRow (unhide HB6) (Nat.le_refl _) _) ⟨mkP K n 0 ⟨#[]⟩ [], rfl, leaf_can _ _ _ _, leaf_lies (by omega) (by omega) (unhide HLE) (by decide)⟩ ((unhide H6).setRow hne _)
end Go.Proofs.YtpkmamgleofimaaGreatDoor

namespace Go.Proofs.YtpkmamgleofimaaGreatDoor
open Go.RowKit

theorem row_one {w : World} {B g : Nat} {U : PT} (h : w.heap[g]? = some (.cells (patO U) 45 (0, 0))) (hB : B ≤ g) : Row w B 45 5 five (.slice (some ⟨g, 0, none⟩) 1 1) [U] :=
  ⟨rfl, .inr ⟨g, 1, patO U, rfl, hB, h, Nat.le_refl _, by unfold maxLen; decide, rfl, rfl⟩⟩
theorem Lies.newrow {B C : Nat} {w : World} {U : PT} (h : Lies C w U) (hc : B ≤ C) (o : Obj) : LiesX B (some w.heap.size) (w.alloc o) U := fun X hX => h X fun i h1 h2 => by
  refine (hX i (by omega) (by rw [World.size_alloc]; omega) (fun e => by injection e with e; omega)).trans ?_
  exact Below.heap_alloc _ _ _ h2
theorem rowN_lies {k' B g cap : Nat} {L l : List PT} {nm : ByteArray} {w : World} (hk : k' ≤ 100) (hn : nm.size ≤ 65536) (hK : KidsL B w (.slice (some ⟨g, 0, none⟩) L.length cap) L l) : Lies B w (rowN (k' : Int) nm g cap L) := by
  intro X hX
  have hlow := hK.row.low (k := g) rfl
  have hr : Row X B 45 5 five (.slice (some ⟨g, 0, none⟩) L.length cap) L := hK.row.same fun k hk => by
    have : k = g := by simpa [Value.ownBlock] using hk.symm
    subst this
    exact hX k hlow.1 hlow.2
  exact rowN_in hr (fun x hx => (hK.lies x hx).lies X hX) (k' : Int) rfl hk hn
theorem KidsL.step {B : Nat} {w w' : World} {v : Value} {L l : List PT} (h : KidsL B w v L l) (hs : w.heap.size ≤ w'.heap.size) (hb : ∀ i, B ≤ i → i < w.heap.size → w'.heap[i]? = w.heap[i]?) : KidsL B w' v L l :=
  ⟨h.row.same fun k hk => hb k (h.row.low hk).1 (h.row.low hk).2, h.can, fun x hx => (h.lies x hx).step hs fun i h1 h2 _ => hb i h1 h2⟩
theorem KidsL.but {B z : Nat} {w w' : World} {v : Value} {L l : List PT} (h : KidsL B w v L l) (hb : But z w w') (hz : z < B) : KidsL B w' v L l := h.step hb.size fun i h1 h2 => hb.block i h2 (by omega)
theorem KidsL.one {B C : Nat} {w : World} {U : PT} (h : Lies C w U) (hc : B ≤ C) (hw : B ≤ w.heap.size) : KidsL B (w.alloc (.cells (patO U) 45)) (.slice (some ⟨w.heap.size, 0, none⟩) 1 1) [U] [U.can] :=
  ⟨row_one (at_new rfl) hw, rfl, fun x hx => by
    rw [List.mem_singleton] at hx
    subst hx
    exact h.newrow hc _⟩
set_option maxRecDepth 100000 in
set_option maxHeartbeats 4000000 in
theorem worded_none {d : Nat} {B : ByteArray → Nat → Rd PT} {s : ByteArray} {i z : Nat} {o : Int} {w : World} (hs : s.size ≤ 65536) (hl : letterN (bat s i) = true) (hR : Rdr w z s i o) (hS : Shapes w) (hzG : z ≠ 4)
    {K : Nat} (hK : kindW (s.extract i (wdE s i)) = K) (h0 : K = 0) :
    Calls Tryz.prog 144 #[.pointer (some ⟨z, 0, none⟩)] w fun e w' => RdPost (patL w.heap.size) z s o w (woP d (B s) s i) e w' := by
  have hE := wdE_adv hl
  have hzl := hR.lt
  have hb0 : But z w (w.alloc (.cells zeroP 45)) := (But.refl z w).alloc _
  have hR0 := hR.below ((Below.refl _ _).alloc (Nat.le_refl _) (.cells zeroP 45))
  have hne : w.heap.size ≠ z := by omega
  have hK24 : K ≤ 24 := hK ▸ kindW_le _
  have HS0 := hide (hS.but hb0 hzG)
  have HB0 := hide hb0
  have HX0 : Hid ((w.alloc (.cells zeroP 45)).heap[w.heap.size]? = some (.cells zeroP 45 (0, 0))) := hide (zbox)
  have HW := hide (rdWord_any _ hs (by omega) hR0)
  have HKO := hide (fun w h => kindOf_any (s.extract i (wdE s i)) w h)
  rw [hK] at HKO
  have HRR : Hid (woP d (B s) s i = .error (7, i)) := hide (by
    unfold woP
    rw [hK, if_pos h0])
  have HTH := hide (fun w => throw_any 7 i w)
  generalize woP d (B s) s i = RR at *
  have c1 := hR0.c1
  unfold zeroP at c1
  have e0 : ((K : Int) == 0) = true := bt
  have hKb : (0 : Int) ≤ (K : Int) ∧ (K : Int) < 25 := by omega
  clear hR hR0 hS hb0 hl hK h0
  generalize s.extract i (wdE s i) = word at *
  generalize wdE s i = E at *
  go_enter Tryz.func144, Tryz.ntmps144
  go_wp2_with fail
  refine (unhide HW).mono ?_
  rintro e w1 ⟨rfl, hb1, hR1⟩
  have HS1 := hide ((unhide HS0).but hb1 hzG)
  have HX1 := hide (but_z hb1 (unhide HX0) hne)
  have HB1 := hide ((unhide HB0).trans hb1)
  have H1 := hide hR1
  have hs1 : w.heap.size + 1 ≤ w1.heap.size := (Array.getElem?_eq_some_iff.1 (unhide HX1)).1
  clear hb1 hR1 c1
  go_wp2_with fail
  refine (unhide HKO _ (unhide HS1)).mono ?_
  rintro e w1 ⟨rfl, rfl⟩
  have hb2 : Below w1.heap.size w1 (w1.alloc (.cells (lfO K ⟨#[]⟩ 0) 45)) := ba _
  have HB2 := hide ((unhide HB1).trans (But.of_below hb2))
  clear hb2
  unfold lfO at HB2
  go_wp2_with (refine (unhide HTH _).mono ?_; rintro e w ⟨rfl, rfl⟩; unfold thr)
  exact ⟨rfl, post_err (unhide HRR) (unhide HB2) rfl⟩
set_option maxRecDepth 100000 in
set_option maxHeartbeats 4000000 in
theorem worded_leaf {d : Nat} {B : ByteArray → Nat → Rd PT} {s : ByteArray} {i z : Nat} {o : Int} {w : World} (hs : s.size ≤ 65536) (hl : letterN (bat s i) = true) (hR : Rdr w z s i o) (hS : Shapes w) (hzG : z ≠ 4)
    {K : Nat} (hK : kindW (s.extract i (wdE s i)) = K) (h0 : K ≠ 0) (h20 : K ≠ 20) (h2 : hasK K ≠ 2) (h1 : hasK K ≠ 1) :
    Calls Tryz.prog 144 #[.pointer (some ⟨z, 0, none⟩)] w fun e w' => RdPost (patL w.heap.size) z s o w (woP d (B s) s i) e w' := by
  have hE := wdE_adv hl
  have hzl := hR.lt
  have hb0 : But z w (w.alloc (.cells zeroP 45)) := (But.refl z w).alloc _
  have hR0 := hR.below ((Below.refl _ _).alloc (Nat.le_refl _) (.cells zeroP 45))
  have hne : w.heap.size ≠ z := by omega
  have hK24 : K ≤ 24 := hK ▸ kindW_le _
  have HS0 := hide (hS.but hb0 hzG)
  have HB0 := hide hb0
  have HX0 : Hid ((w.alloc (.cells zeroP 45)).heap[w.heap.size]? = some (.cells zeroP 45 (0, 0))) := hide (zbox)
  have HW := hide (rdWord_any _ hs (by omega) hR0)
  have HKO := hide (fun w h => kindOf_any (s.extract i (wdE s i)) w h)
  rw [hK] at HKO
  have HRR : Hid (woP d (B s) s i = .ok (mkP K ⟨#[]⟩ 0 ⟨#[]⟩ [], wdE s i)) := hide (by
    unfold woP
    rw [hK, if_neg h0, if_neg h20, if_neg h2, if_neg h1])
  generalize woP d (B s) s i = RR at *
  have c1 := hR0.c1
  unfold zeroP at c1
  have e0 : ((K : Int) == 0) = false := bn
  have e20 : ((K : Int) == 20) = false := bn
  have hKb : (0 : Int) ≤ (K : Int) ∧ (K : Int) < 25 := by omega
  have f2 : (hasK (K : Int) == 2) = false := bn h2
  have f1 : (hasK (K : Int) == 1) = false := bn h1
  have hK1 : 1 ≤ K := by omega
  clear hR hR0 hS hb0 hl hK h2 h1 h0 h20
  generalize s.extract i (wdE s i) = word at *
  generalize wdE s i = E at *
  go_enter Tryz.func144, Tryz.ntmps144
  go_wp2_with fail
  refine (unhide HW).mono ?_
  rintro e w1 ⟨rfl, hb1, hR1⟩
  have HS1 := hide ((unhide HS0).but hb1 hzG)
  have HX1 := hide (but_z hb1 (unhide HX0) hne)
  have HB1 := hide ((unhide HB0).trans hb1)
  have H1 := hide hR1
  have hs1 : w.heap.size + 1 ≤ w1.heap.size := (Array.getElem?_eq_some_iff.1 (unhide HX1)).1
  clear hb1 hR1 c1
  go_wp2_with fail
  refine (unhide HKO _ (unhide HS1)).mono ?_
  rintro e w1 ⟨rfl, rfl⟩
  have hb2 : Below w1.heap.size w1 (w1.alloc (.cells (lfO K ⟨#[]⟩ 0) 45)) := ba _
  have HS2 := hide ((unhide HS1).later hb2)
  obtain ⟨-, s1, -, -⟩ := unhide HS2 K hK1 hK24
  have HX2 := hide (row_below (unhide HX1) hb2)
  have HB2 := hide ((unhide HB1).trans (But.of_below hb2))
  have H2 := hide ((unhide H1).below hb2)
  have HP2 : Hid ((w1.alloc (.cells (lfO K ⟨#[]⟩ 0) 45)).heap[w1.heap.size]? = some (.cells (lfO K ⟨#[]⟩ 0) 45 (0, 0))) := hide (at_new rfl)
  unfold lfO at s1
  clear hb2
  obtain ⟨p0, p1, p2, p3, p4⟩ := pats5s (unhide HP2)
  unfold lfO at p0 p1 p2 p3 p4 HX2 HB2 H2
  generalize hasK (K : Int) = hv at *
  go_wp2_with (first
    | (refine wpList_store_row rfl 45 _ _ rfl w.heap.size (lfO K ⟨#[]⟩ 0) rfl rfl 45 zeroP (unhide HX2) size_pat rfl (lfO_oneC _ _ _) ?_)
    | fail)
  (try simp only [Exit.inBlock, Exit.then])
  refine bodyPost_ret (results_cell_row rfl _ _ w.heap.size 45 (lfO K ⟨#[]⟩ 0) (0, 0) _ rfl (setRow_heap _ _ _ _ _ _ (unhide HX2)) Tryz.underlying45 rfl size_pat) rfl ?_
  exact post_ok (unhide HRR) (but_setRow (unhide HB2) (Nat.le_refl _) _) ⟨mkP K ⟨#[]⟩ 0 ⟨#[]⟩ [], rfl, leaf_can _ _ _ _, leaf_lies (by omega) (by omega) (by decide) (by decide)⟩ ((unhide H2).setRow hne _)
set_option maxRecDepth 100000 in
set_option maxHeartbeats 4000000 in
theorem worded_arb {d : Nat} {B : ByteArray → Nat → Rd PT} {s : ByteArray} {i z : Nat} {o : Int} {w : World} (hs : s.size ≤ 65536) (hl : letterN (bat s i) = true) (hR : Rdr w z s i o) (hS : Shapes w) (hzG : z ≠ 4)
    {K : Nat} (hK : kindW (s.extract i (wdE s i)) = K) (h20 : K = 20) (ho : o = ((200 - d : Nat) : Int)) (HBR : Says 143 d (fun s => parP d (B s) s)) :
    Calls Tryz.prog 144 #[.pointer (some ⟨z, 0, none⟩)] w fun e w' => RdPost (patL w.heap.size) z s o w (woP d (B s) s i) e w' := by
  have hE := wdE_adv hl
  have hzl := hR.lt
  have hb0 : But z w (w.alloc (.cells zeroP 45)) := (But.refl z w).alloc _
  have hR0 := hR.below ((Below.refl _ _).alloc (Nat.le_refl _) (.cells zeroP 45))
  have hne : w.heap.size ≠ z := by omega
  have hK24 : K ≤ 24 := hK ▸ kindW_le _
  have HS0 := hide (hS.but hb0 hzG)
  have HB0 := hide hb0
  have HX0 : Hid ((w.alloc (.cells zeroP 45)).heap[w.heap.size]? = some (.cells zeroP 45 (0, 0))) := hide (zbox)
  have HW := hide (rdWord_any _ hs (by omega) hR0)
  have HKO := hide (fun w h => kindOf_any (s.extract i (wdE s i)) w h)
  rw [hK] at HKO
  have HRR : Hid (woP d (B s) s i = bnd (parP d (B s) s (wdE s i)) fun p m => .ok (mkP 20 ⟨#[]⟩ 0 ⟨#[]⟩ [p], m)) := hide (by
    unfold woP
    rw [hK, if_neg (by omega), if_pos h20])
  have HBK : Hid (∀ w, Rdr w z s (wdE s i) o → Shapes w → Calls Tryz.prog 143 #[.pointer (some ⟨z, 0, none⟩)] w fun e w' => RdPost (patL w.heap.size) z s o w (parP d (B s) s (wdE s i)) e w') := hide (fun w h1 h2 => by rw [ho] at h1 ⊢; exact HBR s (wdE s i) z w hs hE.2 h1 h2 hzG)
  generalize parP d (B s) s (wdE s i) = RB at *
  generalize woP d (B s) s i = RR at *
  have c1 := hR0.c1
  unfold zeroP at c1
  have e0 : ((K : Int) == 0) = false := bn
  have e20 : ((K : Int) == 20) = true := bt
  have hKb : (0 : Int) ≤ (K : Int) ∧ (K : Int) < 25 := by omega
  have hK1 : 1 ≤ K := by omega
  have H20 := hide h20
  clear h20
  clear hR hR0 hS hb0 hl hK HBR ho
  generalize s.extract i (wdE s i) = word at *
  generalize wdE s i = E at *
  go_enter Tryz.func144, Tryz.ntmps144
  go_wp2_with fail
  refine (unhide HW).mono ?_
  rintro e w1 ⟨rfl, hb1, hR1⟩
  have HS1 := hide ((unhide HS0).but hb1 hzG)
  have HX1 := hide (but_z hb1 (unhide HX0) hne)
  have HB1 := hide ((unhide HB0).trans hb1)
  have H1 := hide hR1
  have hs1 : w.heap.size + 1 ≤ w1.heap.size := (Array.getElem?_eq_some_iff.1 (unhide HX1)).1
  clear hb1 hR1 c1
  go_wp2_with fail
  refine (unhide HKO _ (unhide HS1)).mono ?_
  rintro e w1 ⟨rfl, rfl⟩
  have hb2 : Below w1.heap.size w1 (w1.alloc (.cells (lfO K ⟨#[]⟩ 0) 45)) := ba _
  have HS2 := hide ((unhide HS1).later hb2)
  have HX2 := hide (row_below (unhide HX1) hb2)
  have HB2 := hide ((unhide HB1).trans (But.of_below hb2))
  have H2 := hide ((unhide H1).below hb2)
  have HP2 : Hid ((w1.alloc (.cells (lfO K ⟨#[]⟩ 0) 45)).heap[w1.heap.size]? = some (.cells (lfO K ⟨#[]⟩ 0) 45 (0, 0))) := hide (at_new rfl)
  clear hb2
  go_wp2_with fail
  refine (unhide HBK _ (unhide H2) (unhide HS2)).mono ?_
  intro e w3 hP3
  have hgz : w1.heap.size ≠ z := by omega
  rcases RB with ⟨er, a1⟩ | ⟨q, a1⟩
  · obtain ⟨hb3, rfl⟩ := of_err hP3 rfl
    have HB3 := hide ((unhide HB2).trans hb3)
    have HRE : Hid (RR = .error (er, a1)) := hide (by rw [unhide HRR, bnd_err])
    clear hP3 hb3
    unfold thr
    go_wp2_with fail
    exact ⟨rfl, post_err (unhide HRE) (unhide HB3) rfl⟩
  · obtain ⟨hb3, ⟨U, rfl, hU, hL⟩, hR3⟩ := of_ok hP3 rfl
    have HRE : Hid (RR = .ok (mkP 20 ⟨#[]⟩ 0 ⟨#[]⟩ [q], a1)) := hide (by rw [unhide HRR, bnd_ok])
    rw [World.size_alloc] at hL
    have hs3 : w1.heap.size + 1 ≤ w3.heap.size := by have := hb3.size; rw [World.size_alloc] at this; exact this
    have HP3 := hide (but_z hb3 (unhide HP2) hgz)
    have HX3 := hide (but_z hb3 (unhide HX2) hne)
    have HB3 := hide ((unhide HB2).trans hb3)
    have H3 := hide hR3
    have hk1 := KidsL.one (B := w1.heap.size + 1) hL (Nat.le_refl _) (by omega)
    have hb4 : Below w3.heap.size w3 (w3.alloc (.cells (patO U) 45)) := ba _
    have HP4 := hide (row_below (unhide HP3) hb4)
    have HX4 := hide (row_below (unhide HX3) hb4)
    have HB4 := hide ((unhide HB3).trans (But.of_below hb4))
    have H4 := hide ((unhide H3).below hb4)
    have HK4 := hide hk1
    have HU := hide hU
    obtain ⟨p0, p1, p2, p3, p4⟩ := pats5s (unhide HP4)
    have pf := frozen_of_row _ w1.heap.size 4 _ _ (unhide HP4)
    obtain ⟨V, hV⟩ : ∃ V : Value, V = .slice (some ⟨w3.heap.size, 0, none⟩) 1 1 := ⟨_, rfl⟩
    have HP5 : Hid (((w3.alloc (.cells (patO U) 45)).setCell ⟨w1.heap.size, 4, none⟩ (.slice (some ⟨w3.heap.size, 0, none⟩) 1 1)).heap[w1.heap.size]? = some (.cells (patO (rowN (K : Int) ⟨#[]⟩ w3.heap.size 1 [U])) 45 (0, 0))) := hide (heap_setCell_same _ w1.heap.size 4 _ _ _ (unhide HP4))
    have HX5 : Hid (((w3.alloc (.cells (patO U) 45)).setCell ⟨w1.heap.size, 4, none⟩ (.slice (some ⟨w3.heap.size, 0, none⟩) 1 1)).heap[w.heap.size]? = some (.cells zeroP 45 (0, 0))) := hide ((heap_setCell_other _ ⟨w1.heap.size, 4, none⟩ w.heap.size _ (by show w.heap.size ≠ w1.heap.size; omega)).trans (unhide HX4))
    have H5 : Hid (Rdr ((w3.alloc (.cells (patO U) 45)).setCell ⟨w1.heap.size, 4, none⟩ (.slice (some ⟨w3.heap.size, 0, none⟩) 1 1)) z s a1 o) := hide ((heap_setCell_other _ ⟨w1.heap.size, 4, none⟩ z _ (by show z ≠ w1.heap.size; omega)).trans (unhide H4))
    have HB5 : Hid (But z w ((w3.alloc (.cells (patO U) 45)).setCell ⟨w1.heap.size, 4, none⟩ (.slice (some ⟨w3.heap.size, 0, none⟩) 1 1))) := hide (but_setNew (unhide HB4) (by omega) _ _)
    have HK5 := hide ((unhide HK4).step (w' := ((w3.alloc (.cells (patO U) 45)).setCell ⟨w1.heap.size, 4, none⟩ (.slice (some ⟨w3.heap.size, 0, none⟩) 1 1))) (by simp) (fun i h1 _ => heap_setCell_other _ ⟨w1.heap.size, 4, none⟩ i _ (by show i ≠ w1.heap.size; omega)))
    obtain ⟨q0, q1, q2, q3, q4⟩ := pats5s (unhide HP5)
    clear hP3 hb3 hR3 hU hL hk1 hb4 hV
    unfold patO at p0 p1 p2 p3 p4 pf q0 q1 q2 q3 q4 HX5
    unfold pv
    go_wp2_with (first
      | (refine wpList_store_row rfl 45 _ _ rfl w.heap.size (patO (rowN (K : Int) ⟨#[]⟩ w3.heap.size 1 [U])) rfl rfl 45 zeroP (unhide HX5) size_pat rfl (patO_oneC _) ?_)
      | fail)
    (try simp only [Exit.inBlock, Exit.then])
    refine bodyPost_ret (results_cell_row rfl _ _ w.heap.size 45 (patO (rowN (K : Int) ⟨#[]⟩ w3.heap.size 1 [U])) (0, 0) _ rfl (setRow_heap _ _ _ _ _ _ (unhide HX5)) Tryz.underlying45 rfl size_pat) rfl ?_
    exact post_ok (unhide HRE) (but_setRow (unhide HB5) (Nat.le_refl _) _) ⟨rowN (K : Int) ⟨#[]⟩ w3.heap.size 1 [U], rfl, by rw [rowN_can, List.map_cons, List.map_nil, unhide HU, unhide H20]; rfl, ((rowN_lies (k' := K) (by omega) (by decide) (unhide HK5)).setRow (by omega) _).mono (by omega)⟩ ((unhide H5).setRow hne _)
end Go.Proofs.YtpkmamgleofimaaGreatDoor
