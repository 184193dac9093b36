/- What is wrong with a text, and where, is small. The reader of lines: a pattern. The reader of lines: an expression, if one may be open still. -/
import Derived.Test.YtpkmamgleofimaaGreatDoorRdNzM
import Derived.Test.YtpkmamgleofimaaGreatDoorSyDM
namespace Go.Proofs.YtpkmamgleofimaaGreatDoor
open Go.RowKit

def Eb {α : Type} (s : ByteArray) (P : Nat → Rd α) : Prop := ∀ i er a, i ≤ s.size → P i = .error (er, a) → 0 ≤ er ∧ er ≤ 8 ∧ a ≤ s.size + 1
theorem takP_eb (s : ByteArray) (c : Nat) : Eb s (takP s c) := fun i er a hi h => by
  unfold takP at h
  split at h
  · cases h
  · injection h with h; injection h with hA hB; (first | omega | (have q9 := sk_le s i hi; omega))
theorem nmP_eb (s : ByteArray) : Eb s (nmP s) := fun i er a hi h => by
  unfold nmP at h
  split at h
  · split at h
    · injection h with h; injection h with hA hB; (first | omega | (have q9 := sk_le s i hi; omega))
    · cases h
  · injection h with h; injection h with hA hB; (first | omega | (have q9 := sk_le s i hi; omega))
theorem nuP_eb (s : ByteArray) : Eb s (nuP s) := fun i er a hi h => by
  unfold nuP at h
  split at h
  · split at h
    · injection h with h; injection h with hA hB; (first | omega | (have q9 := sk_le s i hi; omega))
    · split at h
      · injection h with h; injection h with hA hB; (first | omega | (have q9 := sk_le s i hi; omega))
      · cases h
  · injection h with h; injection h with hA hB; (first | omega | (have q9 := sk_le s i hi; omega))
theorem qtP_eb (s : ByteArray) : Eb s (fun i => qtP s i) := fun i er a hi h => by
  have h' : qtP s i = .error (er, a) := h
  unfold qtP at h'
  split at h'
  · cases h'
  · injection h' with h'; injection h' with hA hB; (first | omega | (have q9 := sk_le s i hi; omega))
theorem fiP_eb (s : ByteArray) : Eb s (fiP s) := fun i er a hi h => by
  unfold fiP at h
  split at h
  · rcases bnd_bad h with h | ⟨t, j, h1, h⟩
    · exact qtP_eb s _ _ _ (sk_le s i hi).2 h
    · split at h
      · injection h with h; injection h with hA hB; (first | omega | (have q9 := sk_le s i hi; omega))
      · cases h
  · injection h with h; injection h with hA hB; (first | omega | (have q9 := sk_le s i hi; omega))
theorem parP_eb {d : Nat} {B : Nat → Rd PT} {s : ByteArray} (hB : Adv s B) (hN : 0 < d → Eb s B) : Eb s (parP d B s) := fun i er a hi h => by
  unfold parP at h
  rcases bnd_bad h with h | ⟨u, j, h1, h⟩
  · exact takP_eb s 40 i er a hi h
  · have k1 := takP_adv s 40 (by decide) i u j hi h1
    split at h
    · injection h with h; injection h with hA hB; (first | omega | (have q9 := sk_le s i hi; omega))
    · rcases bnd_bad h with h | ⟨p, k, h2, h⟩
      · exact hN (by omega) j er a k1.2 h
      · have k2 := hB j p k k1.2 h2
        rcases bnd_bad h with h | ⟨u, m, h3, h⟩
        · exact takP_eb s 41 k er a k2.2 h
        · cases h
theorem woP_eb {d : Nat} {B : Nat → Rd PT} {s : ByteArray} (hB : Adv s B) (hN : 0 < d → Eb s B) {i : Nat} {er : Int} {a : Nat} (hl : letterN (bat s i) = true) (h : woP d B s i = .error (er, a)) : 0 ≤ er ∧ er ≤ 8 ∧ a ≤ s.size + 1 := by
  have h0 := wdE_adv hl
  unfold woP at h
  split at h
  · injection h with h; injection h with hA hB; (first | omega | (have q9 := sk_le s i hi; omega))
  · split at h
    · rcases bnd_bad h with h | ⟨u, j, h1, h⟩
      · exact parP_eb hB hN _ _ _ h0.2 h
      · cases h
    · split at h
      · rcases bnd_bad h with h | ⟨u, j, h1, h⟩
        · exact takP_eb s 40 _ _ _ h0.2 h
        · have k1 := takP_adv s 40 (by decide) _ u j h0.2 h1
          rcases bnd_bad h with h | ⟨n, k, h2, h⟩
          · exact nuP_eb s _ _ _ k1.2 h
          · have k2 := nuP_adv s j n k k1.2 h2
            rcases bnd_bad h with h | ⟨u, m, h3, h⟩
            · exact takP_eb s 41 _ _ _ k2.2 h
            · cases h
      · split at h
        · rcases bnd_bad h with h | ⟨u, j, h1, h⟩
          · exact takP_eb s 40 _ _ _ h0.2 h
          · have k1 := takP_adv s 40 (by decide) _ u j h0.2 h1
            rcases bnd_bad h with h | ⟨n, k, h2, h⟩
            · exact fiP_eb s _ _ _ k1.2 h
            · have k2 := fiP_adv s j n k k1.2 h2
              rcases bnd_bad h with h | ⟨u, m, h3, h⟩
              · exact takP_eb s 41 _ _ _ k2.2 h
              · cases h
        · cases h
theorem baP_eb {d : Nat} {B : Nat → Rd PT} {s : ByteArray} (hB : Adv s B) (hN : 0 < d → Eb s B) : Eb s (baP d B s) := fun i er a hi h => by
  have h0 := sk_le s i hi
  unfold baP at h
  split at h
  · rcases bnd_bad h with h | ⟨u, j, h1, h⟩
    · exact qtP_eb s _ _ _ h0.2 h
    · cases h
  · split at h
    · exact parP_eb hB hN _ _ _ h0.2 h
    · have key : ∀ k, nx s i ≠ 0 → (bnd (nmP s (sk s i + 1)) fun t e => (.ok (mkP k ⟨#[]⟩ 0 t [], e) : Rd PT)) = .error (er, a) → 0 ≤ er ∧ er ≤ 8 ∧ a ≤ s.size + 1 := fun k hn h => by
        have h3 := nx_in hn
        rcases bnd_bad h with h | ⟨u, j, h1, h⟩
        · exact nmP_eb s _ _ _ (by omega) h
        · cases h
      split at h
      · exact key 23 (by omega) h
      · split at h
        · exact key 24 (by omega) h
        · split at h
          · rename_i hl
            exact woP_eb hB hN hl h
          · injection h with h; injection h with hA hB; (first | omega | (have q9 := sk_le s i hi; omega))
theorem gvF_eb (s : ByteArray) : ∀ f p i er a, i ≤ s.size → s.size < i + f → gvF s f p i = .error (er, a) → 0 ≤ er ∧ er ≤ 8 ∧ a ≤ s.size + 1
  | 0, p, i, er, a, hi, hf, h => by omega
  | f + 1, p, i, er, a, hi, hf, h => by
    have h0 := sk_le s i hi
    rw [gvF] at h
    by_cases q : gvK (nx s i) = 0
    · rw [if_pos q] at h; cases h
    · rw [if_neg q] at h
      have hn : nx s i ≠ 0 := fun z => q (by rw [z]; rfl)
      have h3 := nx_in hn
      rcases bnd_bad h with h | ⟨t, e, h1, h⟩
      · exact nmP_eb s _ _ _ (by omega) h
      · have h4 := nmP_adv s (sk s i + 1) t e (by omega) h1
        exact gvF_eb s f _ e er a h4.2 (by omega) h
theorem piP_eb {d : Nat} {B : Nat → Rd PT} {s : ByteArray} (hB : Adv s B) (hN : 0 < d → Eb s B) : Eb s (piP d B s) := fun i er a hi h => by
  unfold piP at h
  rcases bnd_bad h with h | ⟨p, j, h1, h⟩
  · exact baP_eb hB hN _ _ _ hi h
  · have k1 := baP_adv hB i p j hi h1
    exact gvF_eb s _ _ _ _ _ k1.2 (by omega) h
theorem pcF_eb {d : Nat} {B : Nat → Rd PT} {s : ByteArray} (hB : Adv s B) (hN : 0 < d → Eb s B) : ∀ f l i er a, i ≤ s.size → s.size < i + f → pcF d B s f l i = .error (er, a) → 0 ≤ er ∧ er ≤ 8 ∧ a ≤ s.size + 1
  | 0, l, i, er, a, hi, hf, h => by omega
  | f + 1, l, i, er, a, hi, hf, h => by
    have h0 := sk_le s i hi
    rw [pcF] at h
    by_cases q : begN (nx s i) = true
    · rw [if_pos q] at h
      rcases bnd_bad h with h | ⟨t, e, h1, h⟩
      · exact piP_eb hB hN _ _ _ h0.2 h
      · have h3 := piP_adv hB _ t e h0.2 h1
        exact pcF_eb hB hN f _ e er a h3.2 (by omega) h
    · rw [if_neg q] at h; cases h
theorem pcP_eb {d : Nat} {B : Nat → Rd PT} {s : ByteArray} (hB : Adv s B) (hN : 0 < d → Eb s B) : Eb s (pcP d B s) := fun i er a hi h => by
  unfold pcP at h
  rcases bnd_bad h with h | ⟨p, j, h1, h⟩
  · exact piP_eb hB hN _ _ _ hi h
  · have k1 := piP_adv hB i p j hi h1
    rcases bnd_bad h with h | ⟨l, e, h2, h⟩
    · exact pcF_eb hB hN _ _ _ _ _ k1.2 (by omega) h
    · cases h
theorem alF_eb {d : Nat} {B : Nat → Rd PT} {s : ByteArray} (hB : Adv s B) (hN : 0 < d → Eb s B) : ∀ f l i er a, i ≤ s.size → s.size < i + f → alF d B s f l i = .error (er, a) → 0 ≤ er ∧ er ≤ 8 ∧ a ≤ s.size + 1
  | 0, l, i, er, a, hi, hf, h => by omega
  | f + 1, l, i, er, a, hi, hf, h => by
    have h0 := sk_le s i hi
    rw [alF] at h
    by_cases q : nx s i = 124
    · rw [if_pos q] at h
      have hn := nx_in (s := s) (i := i) (by omega)
      rcases bnd_bad h with h | ⟨t, e, h1, h⟩
      · exact pcP_eb hB hN _ _ _ (by omega) h
      · have h3 := pcP_adv hB _ t e (by omega) h1
        exact alF_eb hB hN f _ e er a h3.2 (by omega) h
    · rw [if_neg q] at h; cases h
theorem alP_eb {d : Nat} {B : Nat → Rd PT} {s : ByteArray} (hB : Adv s B) (hN : 0 < d → Eb s B) : Eb s (alP d B s) := fun i er a hi h => by
  unfold alP at h
  rcases bnd_bad h with h | ⟨p, j, h1, h⟩
  · exact pcP_eb hB hN _ _ _ hi h
  · have k1 := pcP_adv hB i p j hi h1
    rcases bnd_bad h with h | ⟨l, e, h2, h⟩
    · exact alF_eb hB hN _ _ _ _ _ k1.2 (by omega) h
    · cases h
theorem alD_eb (s : ByteArray) : ∀ d, Eb s (alD s d)
  | 0 => fun i er a hi h => alP_eb (d := 0) (B := fun j => .error (0, j)) (fun i x j _ h => by cases h) (fun h => absurd h (by decide)) i er a hi (by rw [alD] at h; exact h)
  | d + 1 => fun i er a hi h => alP_eb (alD_adv s d) (fun _ => alD_eb s d) i er a hi (by rw [alD] at h; exact h)
theorem rdA_eb {s : ByteArray} {er : Int} {a : Nat} (h : rdA s = .error (er, a)) : 0 ≤ er ∧ er ≤ 8 ∧ a ≤ s.size + 1 := by
  unfold rdA at h
  rcases bnd_bad h with h | ⟨p, j, h1, h⟩
  · exact alD_eb s _ _ _ _ (Nat.zero_le _) h
  · split at h
    · injection h with h; injection h with hA hB; (first | omega | (have q9 := sk_le s i hi; omega))
    · cases h
end Go.Proofs.YtpkmamgleofimaaGreatDoor

namespace Go.Proofs.YtpkmamgleofimaaGreatDoor
open Go.RowKit

theorem ptS_no {E : Nat} {l : List Tk} (h : (ahd E 0 l).k ≠ 4) : ptS E l = .error (2, (ahd E 0 l).a) := if_neg h
theorem ptS_err {E : Nat} {l : List Tk} {er : Int} {i : Nat} (h : (ahd E 0 l).k = 4) (hr : rdP (ahd E 0 l).t = .error (er, i)) : ptS E l = .error (er, (ahd E 0 l).a + 1 + i) := by unfold ptS; rw [if_pos h, hr]
theorem ptS_ok {E : Nat} {l : List Tk} {p : PT} {j : Nat} (h : (ahd E 0 l).k = 4) (hr : rdP (ahd E 0 l).t = .ok (p, j)) : ptS E l = .ok (p, l.tail) := by unfold ptS; rw [if_pos h, hr]
theorem rdP_eb {s : ByteArray} {er : Int} {a : Nat} (h : rdP s = .error (er, a)) : er ≠ 0 ∧ 0 ≤ er ∧ er ≤ 8 ∧ a ≤ s.size + 1 := by
  unfold rdP at h
  split at h
  · injection h with h; injection h with h1 h2; subst h1 h2; exact ⟨by decide, by decide, by decide, Nat.zero_le _⟩
  · rcases bnd_bad h with q | ⟨p, j, -, q⟩
    · exact ⟨rdA_nz q, rdA_eb q⟩
    · split at q
      · cases q
      · injection q with q; injection q with h1 h2; subst h1 h2; exact ⟨by decide, by decide, by decide, Nat.zero_le _⟩
theorem Syr.setRow {C : SyC} {w : World} {l : List Tk} {o g : Nat} (h : Syr C w l o) (h1 : g ≠ C.z) (h2 : g ≠ C.g) (h3 : g ≠ C.bb) (cs : Array Value) : Syr C (w.setRow g cs) l o := h.same (setRow_other w g _ cs (fun e => h1 e.symm)) (setRow_other w g _ cs (fun e => h2 e.symm)) (setRow_other w g _ cs (fun e => h3 e.symm))
theorem pat_box {w : World} : (w.alloc (.cells zeroP 45)).heap[w.heap.size]? = some (.cells zeroP 45 (0, 0)) := at_new rfl
set_option maxRecDepth 100000 in
set_option maxHeartbeats 4000000 in
theorem spattern_any {C : SyC} {l : List Tk} {o : Nat} (w : World) (hR : Syr C w l o) (hE : SyEnv C w) : Calls Tryz.prog 72 #[.pointer (some ⟨C.z, 0, none⟩)] w fun e w' => SyPost (patL w.heap.size) C o w (ptS C.E l) e w' := by
  have hb0 : Below w.heap.size w (w.alloc (.cells zeroP 45)) := ba _
  have HA := hide (stoken_any _ (hR.below hb0))
  have HR := hide hR
  have HE := hide hE
  have hsm := ahd_sm hR 0
  have HS := hide (fun w h => sstop_any (C := C) (l := l) (o := o) w h)
  have HP := hide (fun (q : (ahd C.E 0 l).k = 4) w h => spass_any (l := l) (o := o) (C := C) w h (ahd_ne (E := C.E) (by rw [q]; decide)))
  have HRD := hide (fun w h => read_any (ahd C.E 0 l).t w h)
  obtain ⟨RR, hRR⟩ : ∃ RR, RR = ptS C.E l := ⟨_, rfl⟩
  rw [← hRR]
  have H1 := hide (fun h => hRR.trans (ptS_no (E := C.E) (l := l) h))
  have H2 := hide (fun er i h q => hRR.trans (ptS_err (E := C.E) (l := l) (er := er) (i := i) h q))
  have H3 := hide (fun p j h q => hRR.trans (ptS_ok (E := C.E) (l := l) (p := p) (j := j) h q))
  have HB0 := hide hb0
  have HBX := hide (pat_box (w := w))
  have hzl := hR.lt
  clear hR hE hRR hb0
  generalize ahd C.E 0 l = t at *
  unfold tokV at HA
  have hsz := hsm.2.1
  have hta := hsm.2.2.1
  clear hsm
  have hAl := fun (W : World) => (Below.refl W.heap.size W).alloc (Nat.le_refl _) (.cells #[.int .i64 (t.k : Int), .string t.t, .int .i64 (t.a : Int)] 78)
  by_cases h4 : t.k = 4
  · have q4 : ((t.k : Int) != 4) = false := by rw [bne, Bool.not_eq_false', beq_iff_eq]; omega
    have HP4 := hide (unhide HP h4)
    have H2 := hide (fun er i => unhide H2 er i h4)
    have H3 := hide (fun p j => unhide H3 p j h4)
    clear H1 HP h4 HS
    go_enter Tryz.func72, Tryz.ntmps72
    go_wp2_with fail
    refine (unhide HA).mono ?_
    rintro e w2 ⟨rfl, hb2⟩
    have hb02 := bnext (unhide HB0) hb2
    have HB2 := hide (bnext hb02 (hAl w2))
    have HX2 : Hid ((w2.alloc (.cells #[.int .i64 (t.k : Int), .string t.t, .int .i64 (t.a : Int)] 78)).heap[w2.heap.size]? = some (.cells #[.int .i64 (t.k : Int), .string t.t, .int .i64 (t.a : Int)] 78 (0, 0))) := hide (at_new rfl)
    have HY2 := hide (row_below (unhide HBX) (bnext hb2 (hAl w2)))
    have HRD2 := hide (unhide HRD _ ((unhide HE).below (unhide HB2)).sh)
    have hw2 : w.heap.size < w2.heap.size := (Array.getElem?_eq_some_iff.1 (row_below (unhide HBX) hb2)).1
    clear hb2 hb02 HRD HA
    go_wp2_with fail
    refine (unhide HRD2).mono ?_
    rintro e w3 ⟨hb3, hok, her⟩
    cases hq : rdP t.t with
    | error x =>
      obtain ⟨er, i⟩ := x
      have hee := her er i hq
      subst hee
      have HQ := hide (unhide H2 er i hq)
      have hx3 := row_below (unhide HX2) hb3
      have HB3 := hide (bnext (unhide HB2) hb3)
      obtain ⟨hnz, he0, he8, hil⟩ := rdP_eb hq
      have d2 : w3.cell? ⟨w2.heap.size, 2, none⟩ = some (.int .i64 (t.a : Int)) := cr hx3
      have hxl : w2.heap.size < w3.heap.size := World.block_lt_of_cell? _ _ d2
      have hil2 : i ≤ 2001 := by omega
      have qe : (er != 0) = true := by rw [bne, Bool.not_eq_true', beq_eq_false_iff_ne]; exact hnz
      have HT := hide (fun w => sthrow_any er (t.a + 1 + i) w)
      rw [show ((t.a + 1 + i : Nat) : Int) = (t.a : Int) + 1 + (i : Int) by omega] at HT
      have HAL3 : Hid (Below w3.heap.size w3 ((w3.alloc (.cells zeroP 45)).alloc (.cells #[.int .i64 er, .int .i64 (i : Int)] 30))) := hide ((ba _).alloc (by rw [World.size_alloc]; omega) _)
      clear hb3 hok her hq hx3 hnz hil HP4 H2 H3 HRD2
      unfold fauV zeroP
      unfold zeroP at HAL3
      go_wp2_with fail
      refine (unhide HT _).mono ?_
      rintro e w4 ⟨rfl, rfl⟩
      unfold thr
      go_wp2_with fail
      exact ⟨rfl, spost_err (unhide HQ) (But.of_below (bnext (unhide HB3) (unhide HAL3))) rfl⟩
    | ok x =>
      obtain ⟨p, j⟩ := x
      obtain ⟨U, hee, hcan, hlie⟩ := hok p j hq
      subst hee
      have HQ := hide (unhide H3 p j hq)
      have hy3 := row_below (unhide HY2) hb3
      have hal3 : Below w3.heap.size w3 ((w3.alloc (.cells (patO U) 45)).alloc (.cells #[.int .i64 0, .int .i64 0] 30)) := (ba _).alloc (by rw [World.size_alloc]; omega) _
      have HB3 := hide (bnext (bnext (unhide HB2) hb3) hal3)
      have HY3 := hide (row_below hy3 hal3)
      have HV3 : Hid (((w3.alloc (.cells (patO U) 45)).alloc (.cells #[.int .i64 0, .int .i64 0] 30)).heap[w3.heap.size]? = some (.cells (patO U) 45 (0, 0))) := hide (at_old (by rw [World.size_alloc]; omega) (at_new rfl))
      have HL3 : Hid (U.can = p ∧ Lies (w.heap.size + 1) ((w3.alloc (.cells (patO U) 45)).alloc (.cells #[.int .i64 0, .int .i64 0] 30)) U) := hide (⟨hcan, ((hlie.mono (by rw [World.size_alloc]; omega)).below hal3)⟩)
      have hwl3 : w.heap.size < w3.heap.size := (Array.getElem?_eq_some_iff.1 hy3).1
      clear hb3 hok her hq hcan hlie hy3 hal3 H2 H3 HRD2
      unfold fauV pv
      unfold patO at HB3 HY3 HV3 HL3
      go_wp2_with fail
      refine (unhide HP4 _ ((unhide HR).below (unhide HB3))).mono ?_
      rintro e w6 ⟨rfl, hb6, hR6⟩
      have hy6 := hb6.row (show w.heap.size ≠ C.z by omega) (unhide HY3)
      have hv6 := hb6.row (show w3.heap.size ≠ C.z by omega) (unhide HV3)
      obtain ⟨v0, v1, v2, v3, v4⟩ := pats5s hv6
      have HY6 := hide hy6
      have HZ : Hid (But C.z w w6 ∧ Syr C w6 l.tail o ∧ U.can = p ∧ Lies (w.heap.size + 1) w6 U) := hide (⟨(But.of_below (unhide HB3)).trans hb6, hR6, (unhide HL3).1, (unhide HL3).2.but hb6 (by omega)⟩)
      clear hb6 hR6 hy6 hv6 HV3 HY3 HL3
      go_wp2_with (first
        | (refine wpList_store_row rfl 45 _ _ rfl w.heap.size (patO U) rfl rfl 45 zeroP (unhide HY6) size_pat rfl (patO_oneC U) ?_)
        | fail)
      (try simp only [Exit.inBlock, Exit.then])
      refine bodyPost_ret (results_cell_row rfl _ _ w.heap.size 45 (patO U) (0, 0) _ rfl (setRow_heap _ _ _ _ _ _ (unhide HY6)) Tryz.underlying45 rfl size_pat) rfl ?_
      exact spost_ok (unhide HQ) (but_setRow (unhide HZ).1 (Nat.le_refl _) _) ⟨U, rfl, (unhide HZ).2.2.1, ((unhide HZ).2.2.2.setRow (by omega) _).mono (by omega)⟩ ((unhide HZ).2.1.setRow (by omega) (by have := (unhide HR).gl; omega) (by have := (unhide HR).map.lt; omega) _)
  · have q4 : ((t.k : Int) != 4) = true := by rw [bne, Bool.not_eq_true', beq_eq_false_iff_ne]; omega
    have HQ := hide (unhide H1 h4)
    clear H1 H2 H3 HP HRD h4
    go_enter Tryz.func72, Tryz.ntmps72
    go_wp2_with fail
    refine (unhide HA).mono ?_
    rintro e w2 ⟨rfl, hb2⟩
    have HB2 := hide (bnext (bnext (unhide HB0) hb2) (hAl w2))
    clear hb2
    go_wp2_with fail
    refine (unhide HS _ ((unhide HR).below (unhide HB2))).mono ?_
    rintro e w3 ⟨rfl, hb3⟩
    have HB3 := hide (bnext (unhide HB2) hb3)
    clear hb3
    unfold thr
    go_wp2_with fail
    exact ⟨rfl, spost_err (unhide HQ) (But.of_below (unhide HB3)) rfl⟩
end Go.Proofs.YtpkmamgleofimaaGreatDoor

namespace Go.Proofs.YtpkmamgleofimaaGreatDoor
open Go.RowKit

theorem cells5 {w : World} {z : Nat} {ty : TypeId} {v0 v1 v2 v3 v4 : Value} (h : w.heap[z]? = some (.cells #[v0, v1, v2, v3, v4] ty (0, 0))) :
    w.cell? ⟨z, 0, none⟩ = some v0 ∧ w.cell? ⟨z, 1, none⟩ = some v1 ∧ w.cell? ⟨z, 2, none⟩ = some v2 ∧ w.cell? ⟨z, 3, none⟩ = some v3 ∧ w.cell? ⟨z, 4, none⟩ = some v4 := by
  refine ⟨?_, ?_, ?_, ?_, ?_⟩ <;> (rw [cell_of_row _ _ _ _ _ _ h]; rfl)
theorem size_ex : (Tryz.prog.info? 42).map (·.size) = some 5 := by kernel_rfl
theorem ex_box {w : World} : (w.alloc (.cells zeroP 42)).heap[w.heap.size]? = some (.cells zeroP 42 (0, 0)) := at_new rfl
def XSays (f : FuncId) (d : Nat) (P : Nat → List Tk → Sy PT) : Prop := ∀ (C : SyC) (l : List Tk) (w : World), Syr C w l (400 - d) → SyEnv C w →
  Calls Tryz.prog f #[.pointer (some ⟨C.z, 0, none⟩)] w fun e w' => SyPost (patL w.heap.size) C (400 - d) w (P C.E l) e w'
def RSays (d lv : Nat) : Prop := ∀ (C : SyC) (l : List Tk) (w : World), Syr C w l (400 - d) → SyEnv C w →
  Calls Tryz.prog 112 #[.pointer (some ⟨C.z, 0, none⟩), .int .i64 (lv : Int)] w fun e w' => SyPost (patL w.heap.size) C (400 - d) w (rowS C.E (lvO C.E d) lv l) e w'
theorem Syr.row {C : SyC} {w v : World} {l l0 : List Tk} {o o0 g : Nat} (h : Syr C w l o) (h0 : Syr C v l0 o0) (hg : v.heap.size ≤ g) (cs : Array Value) : Syr C (w.setRow g cs) l o :=
  h.setRow (by have := h0.lt; omega) (by have := h0.gl; omega) (by have := h0.map.lt; omega) cs
set_option maxRecDepth 100000 in
set_option maxHeartbeats 4000000 in
theorem sexpr_any {d : Nat} (hd : d ≤ 400) (HRow : ∀ d', d = d' + 1 → RSays d' 1) : XSays 95 d (fun E => xpO E (lvO E d)) := by
  intro C l w hR hE
  have hb0 : Below w.heap.size w (w.alloc (.cells zeroP 42)) := ba _
  have HR := hide hR
  have HR0 := hide (hR.below hb0)
  have HE := hide hE
  have HB0 := hide hb0
  have hzl := hR.lt
  show Calls _ _ _ _ fun e w' => SyPost (patL w.heap.size) C (400 - d) w (xpO C.E (lvO C.E d) l) e w'
  obtain ⟨RR, hRR⟩ : ∃ RR, RR = xpO C.E (lvO C.E d) l := ⟨_, rfl⟩
  rw [← hRR]
  cases d with
  | zero =>
    have HQ : Hid (RR = .error (4, (ahd C.E 0 l).a)) := hide (hRR)
    have HEN := hide (senter_no _ (unhide HR0) rfl)
    clear hRR hR hE hb0 HRow
    generalize (ahd C.E 0 l).a = a at *
    go_enter Tryz.func95, Tryz.ntmps95
    go_wp2_with fail
    refine (unhide HEN).mono ?_
    rintro e w2 ⟨rfl, hb2⟩
    have HB2 := hide ((But.of_below (unhide HB0)).trans hb2)
    clear hb2
    unfold thr
    go_wp2_with fail
    exact ⟨rfl, spost_err (unhide HQ) (unhide HB2) rfl⟩
  | succ d =>
    have HQ : Hid (RR = rowS C.E (lvO C.E d) 1 l) := hide (hRR)
    have HEN := hide (senter_ok _ (unhide HR0) (by omega))
    rw [show 400 - (d + 1) + 1 = 400 - d by omega] at HEN
    have HRW := hide (fun w h k => HRow d rfl C l w h k)
    have HLV := hide (fun w l h => sleave_any (C := C) (l := l) (o := 400 - (d + 1)) w h (by omega))
    rw [show 400 - (d + 1) + 1 = 400 - d by omega] at HLV
    clear hRR hR hE hb0 HRow hd
    generalize 400 - (d + 1) = o at *
    generalize 400 - d = o1 at *
    generalize rowS C.E (lvO C.E d) 1 l = R1 at *
    go_enter Tryz.func95, Tryz.ntmps95
    go_wp2_with fail
    refine (unhide HEN).mono ?_
    rintro e w2 ⟨rfl, hb2, hR2⟩
    have HB2 := hide ((But.of_below (unhide HB0)).trans hb2)
    have HX2 := hide (hb2.row (show w.heap.size ≠ C.z by omega) (ex_box (w := w)))
    have HRW2 := hide (unhide HRW w2 hR2 ((unhide HE).but (unhide HB2)))
    clear hb2 hR2 HEN HRW
    go_wp2_with fail
    refine (unhide HRW2).mono ?_
    intro e w3 hp
    cases hq : R1 with
    | error x =>
      obtain ⟨er, i⟩ := x
      obtain ⟨hb3, rfl⟩ := sof_err hp hq
      have HB3 := hide ((unhide HB2).trans hb3)
      have HQ2 : Hid (RR = .error (er, i)) := hide (by rw [unhide HQ, hq])
      clear hp hb3 hq
      unfold thr
      go_wp2_with fail
      exact ⟨rfl, spost_err (unhide HQ2) (unhide HB3) rfl⟩
    | ok x =>
      obtain ⟨p, r⟩ := x
      obtain ⟨hb3, ⟨U, rfl, hcan, hlie⟩, hR3⟩ := sof_ok hp hq
      have hwl : w.heap.size < w2.heap.size := (Array.getElem?_eq_some_iff.1 (unhide HX2)).1
      have hwl3 : w2.heap.size ≤ w3.heap.size := hb3.size
      have hal : Below w3.heap.size w3 (w3.alloc (.cells (patO U) 42)) := ba _
      have HB3 := hide (((unhide HB2).trans hb3).trans (But.of_below hal))
      have HQ2 : Hid (RR = .ok (p, r)) := hide (by rw [unhide HQ, hq])
      have HX3 := hide (row_below (hb3.row (show w.heap.size ≠ C.z by omega) (unhide HX2)) hal)
      have HV3 : Hid ((w3.alloc (.cells (patO U) 42)).heap[w3.heap.size]? = some (.cells (patO U) 42 (0, 0))) := hide (at_new rfl)
      have HL3 : Hid (U.can = p ∧ Lies (w.heap.size + 1) (w3.alloc (.cells (patO U) 42)) U) := hide (⟨hcan, (hlie.mono (by omega)).below hal⟩)
      have HLV3 := hide (unhide HLV _ r (hR3.below hal))
      clear hp hb3 hq hcan hlie hR3 hal HLV HRW2
      unfold pv
      unfold patO at HB3 HX3 HV3 HL3 HLV3
      go_wp2_with fail
      refine (unhide HLV3).mono ?_
      rintro e w4 ⟨rfl, hb4, hR4⟩
      have hx4 := hb4.row (show w.heap.size ≠ C.z by omega) (unhide HX3)
      have hv4 := hb4.row (show w3.heap.size ≠ C.z by omega) (unhide HV3)
      obtain ⟨v0, v1, v2, v3, v4⟩ := cells5 hv4
      have HX4 := hide hx4
      have HZ : Hid (But C.z w w4 ∧ Syr C w4 r o ∧ U.can = p ∧ Lies (w.heap.size + 1) w4 U) := hide (⟨(unhide HB3).trans hb4, hR4, (unhide HL3).1, (unhide HL3).2.but hb4 (by omega)⟩)
      clear hb4 hR4 hx4 hv4 HV3 HX3 HL3 HLV3
      go_wp2_with (first
        | (refine wpList_store_row rfl 42 _ _ rfl w.heap.size (patO U) rfl rfl 42 zeroP (unhide HX4) size_ex rfl (patO_oneC U) ?_)
        | fail)
      (try simp only [Exit.inBlock, Exit.then])
      refine bodyPost_ret (results_cell_row rfl _ _ w.heap.size 42 (patO U) (0, 0) _ rfl (setRow_heap _ _ _ _ _ _ (unhide HX4)) Tryz.underlying42 rfl size_ex) rfl ?_
      exact spost_ok (unhide HQ2) (but_setRow (unhide HZ).1 (Nat.le_refl _) _) ⟨U, rfl, (unhide HZ).2.2.1, ((unhide HZ).2.2.2.setRow (by omega) _).mono (by omega)⟩ ((unhide HZ).2.1.row (unhide HR) (Nat.le_refl _) _)
end Go.Proofs.YtpkmamgleofimaaGreatDoor
