/- The reader of lines: a piece that begins with a name. The reader of lines: a piece. -/
import Derived.Test.YtpkmamgleofimaaGreatDoorSyGM
namespace Go.Proofs.YtpkmamgleofimaaGreatDoor
open Go.RowKit

theorem KidsX.step {B : Nat} {w w' : World} {v : Value} {L l : List PT} (h : KidsX B w v L l) (hs : w.heap.size ≤ w'.heap.size) (hb : ∀ i, B ≤ i → i < w.heap.size → w'.heap[i]? = w.heap[i]?) : KidsX B w' v L l :=
  ⟨h.row.same fun k hk => hb k (h.row.low hk).1 (h.row.low hk).2, h.can, fun x hx => (h.lies x hx).step hs fun i h1 h2 _ => hb i h1 h2⟩
theorem KidsX.cell {B g k : Nat} {w : World} {v u : Value} {L l : List PT} (h : KidsX B w v L l) (hg : g < B) : KidsX B (w.setCell ⟨g, k, none⟩ u) v L l := h.step (by rw [World.size_setCell]; exact Nat.le_refl _) fun i h1 _ => heap_setCell_other w ⟨g, k, none⟩ i u (by show i ≠ g; omega)
theorem row_oneX {w : World} {B g : Nat} {U : PT} (h : w.heap[g]? = some (.cells (patO U) 42 (0, 0))) (hB : B ≤ g) : Row w B 42 5 five (.slice (some ⟨g, 0, none⟩) 1 1) [U] :=
  ⟨rfl, .inr ⟨g, 1, patO U, rfl, hB, h, Nat.le_refl _, by unfold maxLen; decide, rfl, rfl⟩⟩
theorem KidsX.one {B C : Nat} {w : World} {U : PT} (h : Lies C w U) (hc : B ≤ C) (hw : B ≤ w.heap.size) : KidsX B (w.alloc (.cells (patO U) 42)) (.slice (some ⟨w.heap.size, 0, none⟩) 1 1) [U] [U.can] :=
  ⟨row_oneX (at_new rfl) hw, rfl, fun x hx => by
    rw [List.mem_singleton] at hx
    subst hx
    exact h.newrow hc _⟩
theorem Syr.cell {C : SyC} {w v : World} {l l0 : List Tk} {o o0 g k : Nat} {u : Value} (h : Syr C w l o) (h0 : Syr C v l0 o0) (hg : v.heap.size ≤ g) : Syr C (w.setCell ⟨g, k, none⟩ u) l o :=
  h.same (heap_setCell_other w ⟨g, k, none⟩ _ u (by have := h0.lt; show C.z ≠ g; omega)) (heap_setCell_other w ⟨g, k, none⟩ _ u (by have := h0.gl; show C.g ≠ g; omega)) (heap_setCell_other w ⟨g, k, none⟩ _ u (by have := h0.map.lt; show C.bb ≠ g; omega))
section
variable {E : Nat} {p : Option Lv} {l r : List Tk} {t : ByteArray}
theorem npS_err {e : Int × Nat} (h : nmS E l = .error e) : npS E p l = .error e := by unfold npS; rw [h]; rfl
theorem npS_item (h : nmS E l = .ok (t, r)) (h1 : isS (ahd E 0 r) (sgn 60) = true) : npS E p l = sbd (xpO E p r.tail) fun x q => sbd (ndS E (sgn 62) q) fun _ m => .ok (mkP 4 ByteArray.empty 0 t [x], m) := by unfold npS; rw [h, sbd_ok, if_pos h1]
theorem npS_call (h : nmS E l = .ok (t, r)) (h1 : isS (ahd E 0 r) (sgn 60) = false) (h2 : isS (ahd E 0 r) (sgn 40) = true) : npS E p l = sbd (agS E p r.tail) fun o q => .ok (mkP 6 ByteArray.empty 0 t o, q) := by unfold npS; rw [h, sbd_ok, if_neg (by rw [h1]; decide), if_pos h2]
theorem npS_name (h : nmS E l = .ok (t, r)) (h1 : isS (ahd E 0 r) (sgn 60) = false) (h2 : isS (ahd E 0 r) (sgn 40) = false) : npS E p l = .ok (mkP 3 ByteArray.empty 0 t [], r) := by unfold npS; rw [h, sbd_ok, if_neg (by rw [h1]; decide), if_neg (by rw [h2]; decide)]
end
structure XBox (C : SyC) (o : Nat) (w W : World) (b : Nat) (r : List Tk) (A : Array Value) : Prop where
  but : But C.z w W
  rdr : Syr C W r o
  res : W.heap[w.heap.size]? = some (.cells zeroP 42 (0, 0))
  box : W.heap[b]? = some (.cells A 42 (0, 0))
  low : w.heap.size < b
theorem XBox.next {C : SyC} {o b : Nat} {w W W' : World} {r r' : List Tk} {A : Array Value} (h : XBox C o w W b r A) (hz : C.z < w.heap.size) (hb : But C.z W W') (hR : Syr C W' r' o) : XBox C o w W' b r' A :=
  ⟨h.but.trans hb, hR, hb.row (by omega) h.res, hb.row (by have := h.low; omega) h.box, h.low⟩
theorem XBox.below {C : SyC} {o b : Nat} {w W W' : World} {r : List Tk} {A : Array Value} (h : XBox C o w W b r A) (hb : Below W.heap.size W W') : XBox C o w W' b r A :=
  ⟨h.but.trans (But.of_below hb), h.rdr.below hb, row_below h.res hb, row_below h.box hb, h.low⟩
theorem XBox.set {C : SyC} {o b k : Nat} {w W : World} {r l0 : List Tk} {o0 : Nat} {A : Array Value} {u : Value} (h : XBox C o w W b r A) (h0 : Syr C w l0 o0) : XBox C o w (W.setCell ⟨b, k, none⟩ u) b r (A.setIfInBounds k u) :=
  ⟨but_setNew h.but (by have := h.low; omega) _ _, h.rdr.cell h0 (by have := h.low; omega), (heap_setCell_other W ⟨b, k, none⟩ w.heap.size u (by have := h.low; show w.heap.size ≠ b; omega)).trans h.res, heap_setCell_same W b k _ _ u h.box, h.low⟩
set_option maxRecDepth 100000 in
set_option maxHeartbeats 8000000 in
theorem snamed_any {d : Nat} (HX : XSays 95 d (fun E => xpO E (lvO E d))) : XSays 135 d (fun E => npS E (lvO E d)) := by
  intro C l w hR hE
  have hb0 : Below w.heap.size w (w.alloc (.cells zeroP 42)) := ba _
  have HR := hide hR
  have HE := hide hE
  have HB0 := hide hb0
  have hzl := hR.lt
  have HN0 := hide (sname_any _ (hR.below hb0))
  have HSM := hide (fun t r h => nmS_sm (t := t) (r := r) hR h)
  have HXC : Hid (∀ l w, Syr C w l (400 - d) → SyEnv C w → Calls Tryz.prog 95 #[.pointer (some ⟨C.z, 0, none⟩)] w fun e w' => SyPost (patL w.heap.size) C (400 - d) w (xpO C.E (lvO C.E d) l) e w') := hide (fun l w h k => HX C l w h k)
  have HAC := hide (fun l w h k => sargs_any HX C l w h k)
  show Calls _ _ _ _ fun e w' => SyPost (patL w.heap.size) C (400 - d) w (npS C.E (lvO C.E d) l) e w'
  obtain ⟨RR, hRR⟩ : ∃ RR, RR = npS C.E (lvO C.E d) l := ⟨_, rfl⟩
  rw [← hRR]
  have HQ := hide hRR
  clear hR hE hb0 HX hRR
  generalize lvO C.E d = p at *
  generalize 400 - d = o at *
  go_enter Tryz.func135, Tryz.ntmps135
  go_wp2_with fail
  refine (unhide HN0).mono ?_
  intro e w2 hp
  cases hq : nmS C.E l with
  | error x =>
    obtain ⟨er, i⟩ := x
    obtain ⟨hb2, rfl⟩ := sof_err hp hq
    have HB2 := hide ((But.of_below (unhide HB0)).trans hb2)
    have HQ2 : Hid (RR = .error (er, i)) := hide (by rw [unhide HQ, npS_err hq])
    clear hp hb2 hq
    unfold thr
    go_wp2_with fail
    exact ⟨rfl, spost_err (unhide HQ2) (unhide HB2) rfl⟩
  | ok x =>
    obtain ⟨t, r⟩ := x
    obtain ⟨hb2, rfl, hR2⟩ := sof_ok hp hq
    have hts := unhide HSM t r hq
    have HQN := hide hq
    have hx2 := hb2.row (show w.heap.size ≠ C.z by omega) (ex_box (w := w))
    have hwl2 : w.heap.size < w2.heap.size := (Array.getElem?_eq_some_iff.1 hx2).1
    have hal : Below w2.heap.size w2 (w2.alloc (.cells #[.int .i64 3, .string ⟨#[]⟩, .int .i64 0, .string t, .slice none 0 0] 42)) := ba _
    have HX3 := hide (show XBox C o w (w2.alloc (.cells #[.int .i64 3, .string ⟨#[]⟩, .int .i64 0, .string t, .slice none 0 0] 42)) w2.heap.size r #[.int .i64 3, .string ⟨#[]⟩, .int .i64 0, .string t, .slice none 0 0] from
      ⟨((But.of_below (unhide HB0)).trans hb2).trans (But.of_below hal), hR2.below hal, row_below hx2 hal, at_new rfl, hwl2⟩)
    have hsz3 : (w2.alloc (.cells #[.int .i64 3, .string ⟨#[]⟩, .int .i64 0, .string t, .slice none 0 0] 42)).heap.size = w2.heap.size + 1 := World.size_alloc _ _
    have HSZ3 := hide hsz3
    have HT1 := hide (fun w h hs => stake_yes (C := C) (l := r) (o := o) (sgn 60) w h hs)
    have HT0 := hide (fun w h hs => stake_no (C := C) (l := r) (o := o) (sgn 60) w h hs)
    have HU1 := hide (fun w h hs => stake_yes (C := C) (l := r) (o := o) (sgn 40) w h hs)
    have HU0 := hide (fun w h hs => stake_no (C := C) (l := r) (o := o) (sgn 40) w h hs)
    clear hp hb2 hq hR2 hx2 hal HSM HN0 hsz3
    unfold sgn at HT1 HT0 HU1 HU0
    go_wp2_with fail
    cases h1 : isS (ahd C.E 0 r) ⟨#[60]⟩
    · cases h2 : isS (ahd C.E 0 r) ⟨#[40]⟩
      · have HQ2 : Hid (RR = .ok (mkP 3 ByteArray.empty 0 t [], r)) := hide (by rw [unhide HQ]; exact npS_name (unhide HQN) h1 h2)
        refine (unhide HT0 _ (unhide HX3).rdr h1).mono ?_
        rintro e w4 ⟨rfl, hb4⟩
        have HX4 := hide ((unhide HX3).below hb4)
        clear hb4 h1
        go_wp2_with fail
        refine (unhide HU0 _ (unhide HX4).rdr h2).mono ?_
        rintro e w5 ⟨rfl, hb5⟩
        have HX5 := hide ((unhide HX4).below hb5)
        have HL5 : Hid ((mkP 3 ⟨#[]⟩ 0 t []).can = mkP 3 ByteArray.empty 0 t [] ∧ Lies (w.heap.size + 1) w5 (mkP 3 ⟨#[]⟩ 0 t [])) := hide (⟨leaf_can _ _ _ _, leaf_lies ⟨by decide, by decide⟩ ⟨by decide, by decide⟩ (by decide) (by omega)⟩)
        have HPO : Hid (patO (mkP 3 ⟨#[]⟩ 0 t []) = #[.int .i64 3, .string ⟨#[]⟩, .int .i64 0, .string t, .slice none 0 0] ∧ pv (mkP 3 ⟨#[]⟩ 0 t []) = .agg #[.int .i64 3, .string ⟨#[]⟩, .int .i64 0, .string t, .slice none 0 0]) := hide (⟨rfl, rfl⟩)
        clear hb5 h2
        generalize mkP 3 ⟨#[]⟩ 0 t [] = U at *
        obtain ⟨s0, s1, s2, s3, s4⟩ := cells5 (show w5.heap[w2.heap.size]? = some (.cells #[.int .i64 3, .string ⟨#[]⟩, .int .i64 0, .string t, .slice none 0 0] 42 (0, 0)) from (unhide HX5).box)
        go_wp2_with (first
          | (refine wpList_store_row rfl 42 _ _ rfl w.heap.size #[.int .i64 3, .string ⟨#[]⟩, .int .i64 0, .string t, .slice none 0 0] rfl rfl 42 zeroP (unhide HX5).res size_ex rfl (by simp [Value.oneCell']) ?_)
          | fail)
        (try simp only [Exit.inBlock, Exit.then])
        refine bodyPost_ret (results_cell_row rfl _ _ w.heap.size 42 #[.int .i64 3, .string ⟨#[]⟩, .int .i64 0, .string t, .slice none 0 0] (0, 0) _ rfl (setRow_heap _ _ _ _ _ _ (unhide HX5).res) Tryz.underlying42 rfl size_ex) rfl ?_
        exact spost_ok (unhide HQ2) (but_setRow (unhide HX5).but (Nat.le_refl _) _) ⟨U, by rw [(unhide HPO).2], (unhide HL5).1, ((unhide HL5).2.setRow (by omega) _).mono (by omega)⟩ ((unhide HX5).rdr.row (unhide HR) (Nat.le_refl _) _)
      · have HQ2 : Hid (RR = sbd (agS C.E p r.tail) fun o q => .ok (mkP 6 ByteArray.empty 0 t o, q)) := hide (by rw [unhide HQ]; exact npS_call (unhide HQN) h1 h2)
        refine (unhide HT0 _ (unhide HX3).rdr h1).mono ?_
        rintro e w4 ⟨rfl, hb4⟩
        have HX4 := hide ((unhide HX3).below hb4)
        have HSZ4 : Hid (w2.heap.size + 1 ≤ w4.heap.size) := hide (by rw [← unhide HSZ3]; exact hb4.size)
        clear hb4 h1
        go_wp2_with fail
        refine (unhide HU1 _ (unhide HX4).rdr h2).mono ?_
        rintro e w5 ⟨rfl, hb5, hR5⟩
        have hx5 := (unhide HX4).next hzl hb5 hR5
        obtain ⟨v0, v1, v2, v3, v4⟩ := cells5 hx5.box
        have vf0 := frozen_of_row w5 w2.heap.size 0 _ _ hx5.box
        have HX6 := hide (hx5.set (k := 0) (u := .int .i64 6) (unhide HR))
        have HSZ5 : Hid (w2.heap.size + 1 ≤ w5.heap.size) := hide (by have := hb5.size; have := unhide HSZ4; omega)
        clear hb5 hR5 hx5 h2
        have HA6 := hide (unhide HAC r.tail _ (unhide HX6).rdr ((unhide HE).but (unhide HX6).but))
        have hs6 : (w5.setCell ⟨w2.heap.size, 0, none⟩ (.int .i64 6)).heap.size = w5.heap.size := World.size_setCell _ _ _
        go_wp2_with fail
        refine (unhide HA6).mono ?_
        intro e w7 hp
        cases hq : agS C.E p r.tail with
        | error x =>
          obtain ⟨er, i⟩ := x
          obtain ⟨hb7, rfl⟩ := sof_err hp hq
          have HB7 := hide ((unhide HX6).but.trans hb7)
          have HQ3 : Hid (RR = .error (er, i)) := hide (by rw [unhide HQ2, hq, sbd_err])
          clear hp hb7 hq
          unfold thr
          go_wp2_with fail
          exact ⟨rfl, spost_err (unhide HQ3) (unhide HB7) rfl⟩
        | ok x =>
          obtain ⟨os, q⟩ := x
          obtain ⟨hb7, ⟨kv, L, hev, hK⟩, hR7⟩ := sof_ok hp hq
          rw [hs6] at hK
          obtain ⟨ka, kc, hkv, -, -⟩ := hK.row.len
          generalize L.length = kn at *
          subst hkv
          subst hev
          have hx7 := (unhide HX6).next hzl hb7 hR7
          have vf4 := frozen_of_row w7 w2.heap.size 4 _ _ hx7.box
          obtain ⟨u0, u1, u2, u3, u4⟩ := cells5 hx7.box
          have HX8 := hide (hx7.set (k := 4) (u := .slice ka kn kc) (unhide HR))
          obtain ⟨U, ⟨hpv, hpo⟩, hcan, hlie⟩ := kids_node (k := 6) (nm := t) (hK.cell (g := w2.heap.size) (k := 4) (u := .slice ka kn kc) (by have := unhide HSZ5; omega)) ⟨by decide, by decide⟩ (by omega)
          have HQ3 : Hid (RR = .ok (mkP 6 ByteArray.empty 0 t os, q)) := hide (by rw [unhide HQ2, hq, sbd_ok])
          have HL8 : Hid (U.can = mkP 6 ByteArray.empty 0 t os ∧ Lies (w.heap.size + 1) (w7.setCell ⟨w2.heap.size, 4, none⟩ (.slice ka kn kc)) U) := hide (⟨hcan, hlie.mono (by have := unhide HSZ5; omega)⟩)
          have HPO := hide (And.intro hpo hpv)
          clear hp hb7 hq hR7 hK hx7 hcan hlie hpv hpo v0 v1 v2 v3 v4 vf0 hs6 HA6
          go_wp2_with (first
            | (refine wpList_store_row rfl 42 _ _ rfl w.heap.size #[.int .i64 6, .string ⟨#[]⟩, .int .i64 0, .string t, .slice ka kn kc] rfl rfl 42 zeroP (unhide HX8).res size_ex rfl (by simp [Value.oneCell']) ?_)
            | fail)
          (try simp only [Exit.inBlock, Exit.then])
          refine bodyPost_ret (results_cell_row rfl _ _ w.heap.size 42 #[.int .i64 6, .string ⟨#[]⟩, .int .i64 0, .string t, .slice ka kn kc] (0, 0) _ rfl (setRow_heap _ _ _ _ _ _ (unhide HX8).res) Tryz.underlying42 rfl size_ex) rfl ?_
          exact spost_ok (unhide HQ3) (but_setRow (unhide HX8).but (Nat.le_refl _) _) ⟨U, by rw [(unhide HPO).2], (unhide HL8).1, ((unhide HL8).2.setRow (by omega) _).mono (by omega)⟩ ((unhide HX8).rdr.row (unhide HR) (Nat.le_refl _) _)
    · have HQ2 : Hid (RR = sbd (xpO C.E p r.tail) fun x q => sbd (ndS C.E (sgn 62) q) fun _ m => .ok (mkP 4 ByteArray.empty 0 t [x], m)) := hide (by rw [unhide HQ]; exact npS_item (unhide HQN) h1)
      refine (unhide HT1 _ (unhide HX3).rdr h1).mono ?_
      rintro e w5 ⟨rfl, hb5, hR5⟩
      have hx5 := (unhide HX3).next hzl hb5 hR5
      obtain ⟨v0, v1, v2, v3, v4⟩ := cells5 hx5.box
      have vf0 := frozen_of_row w5 w2.heap.size 0 _ _ hx5.box
      have HX6 := hide (hx5.set (k := 0) (u := .int .i64 4) (unhide HR))
      have HSZ5 : Hid (w2.heap.size + 1 ≤ w5.heap.size) := hide (by have := hb5.size; have := unhide HSZ3; omega)
      clear hb5 hR5 hx5 h1
      have HA6 := hide (unhide HXC r.tail _ (unhide HX6).rdr ((unhide HE).but (unhide HX6).but))
      have hs6 : (w5.setCell ⟨w2.heap.size, 0, none⟩ (.int .i64 4)).heap.size = w5.heap.size := World.size_setCell _ _ _
      go_wp2_with fail
      refine (unhide HA6).mono ?_
      intro e w7 hp
      cases hq : xpO C.E p r.tail with
      | error x =>
        obtain ⟨er, i⟩ := x
        obtain ⟨hb7, rfl⟩ := sof_err hp hq
        have HB7 := hide ((unhide HX6).but.trans hb7)
        have HQ3 : Hid (RR = .error (er, i)) := hide (by rw [unhide HQ2, hq, sbd_err])
        clear hp hb7 hq
        unfold thr
        go_wp2_with fail
        exact ⟨rfl, spost_err (unhide HQ3) (unhide HB7) rfl⟩
      | ok x =>
        obtain ⟨xx, q⟩ := x
        obtain ⟨hb7, ⟨U0, rfl, hcan0, hlie0⟩, hR7⟩ := sof_ok hp hq
        rw [hs6] at hlie0
        have hs7 : w5.heap.size ≤ w7.heap.size := by have := hb7.size; rw [hs6] at this; exact this
        have hal8 : Below w7.heap.size w7 (w7.alloc (.cells (patO U0) 42)) := ba _
        have hx8 := ((unhide HX6).next hzl hb7 hR7).below hal8
        have vf4 := frozen_of_row _ w2.heap.size 4 _ _ hx8.box
        obtain ⟨u0, u1, u2, u3, u4⟩ := cells5 hx8.box
        have HX8 := hide (hx8.set (k := 4) (u := .slice (some ⟨w7.heap.size, 0, none⟩) 1 1) (unhide HR))
        have HK8 := hide ((KidsX.one (B := w2.heap.size + 1) hlie0 (by have := unhide HSZ5; omega) (by have := unhide HSZ5; omega)).cell (g := w2.heap.size) (k := 4) (u := .slice (some ⟨w7.heap.size, 0, none⟩) 1 1) (by omega))
        rw [hcan0] at HK8
        have HQ3 : Hid (RR = sbd (ndS C.E (sgn 62) q) fun _ m => .ok (mkP 4 ByteArray.empty 0 t [xx], m)) := hide (by rw [unhide HQ2, hq, sbd_ok])
        have HN8 := hide (sneed_any (sgn 62) _ (unhide HX8).rdr)
        clear hp hb7 hq hR7 hx8 hcan0 hlie0 v0 v1 v2 v3 v4 vf0 hs6 HA6 hal8
        unfold pv
        unfold patO at HX8 HK8 HN8 u0 u1 u2 u3 u4 vf4
        unfold sgn at HN8 HQ3
        go_wp2_with fail
        refine (unhide HN8).mono ?_
        intro e w8 hp
        cases hq : ndS C.E ⟨#[62]⟩ q with
        | error x =>
          obtain ⟨er, i⟩ := x
          obtain ⟨hb9, rfl⟩ := sof_err hp hq
          have HB9 := hide ((unhide HX8).but.trans hb9)
          have HQ4 : Hid (RR = .error (er, i)) := hide (by rw [unhide HQ3, hq, sbd_err])
          clear hp hb9 hq
          unfold thr
          go_wp2_with fail
          exact ⟨rfl, spost_err (unhide HQ4) (unhide HB9) rfl⟩
        | ok x =>
          obtain ⟨xu, m⟩ := x
          obtain ⟨hb9, rfl, hR9⟩ := sof_ok hp hq
          have hx9 := (unhide HX8).next hzl hb9 hR9
          obtain ⟨U, ⟨hpv, hpo⟩, hcan, hlie⟩ := kids_node (k := 4) (nm := t) ((unhide HK8).but hb9 (by omega)) ⟨by decide, by decide⟩ (by omega)
          have HX9 := hide hx9
          have HQ4 : Hid (RR = .ok (mkP 4 ByteArray.empty 0 t [xx], m)) := hide (by rw [unhide HQ3, hq, sbd_ok])
          have HL8 : Hid (U.can = mkP 4 ByteArray.empty 0 t [xx] ∧ Lies (w.heap.size + 1) w8 U) := hide (⟨hcan, hlie.mono (by omega)⟩)
          have HPO := hide (And.intro hpo hpv)
          clear hp hb9 hq hR9 hx9 hcan hlie hpv hpo HX8 HK8 HN8 u0 u1 u2 u3 u4 vf4
          obtain ⟨s0, s1, s2, s3, s4⟩ := cells5 (show w8.heap[w2.heap.size]? = some (.cells #[.int .i64 4, .string ⟨#[]⟩, .int .i64 0, .string t, .slice (some ⟨w7.heap.size, 0, none⟩) 1 1] 42 (0, 0)) from (unhide HX9).box)
          go_wp2_with (first
            | (refine wpList_store_row rfl 42 _ _ rfl w.heap.size #[.int .i64 4, .string ⟨#[]⟩, .int .i64 0, .string t, .slice (some ⟨w7.heap.size, 0, none⟩) 1 1] rfl rfl 42 zeroP (unhide HX9).res size_ex rfl (by simp [Value.oneCell']) ?_)
            | fail)
          (try simp only [Exit.inBlock, Exit.then])
          refine bodyPost_ret (results_cell_row rfl _ _ w.heap.size 42 #[.int .i64 4, .string ⟨#[]⟩, .int .i64 0, .string t, .slice (some ⟨w7.heap.size, 0, none⟩) 1 1] (0, 0) _ rfl (setRow_heap _ _ _ _ _ _ (unhide HX9).res) Tryz.underlying42 rfl size_ex) rfl ?_
          exact spost_ok (unhide HQ4) (but_setRow (unhide HX9).but (Nat.le_refl _) _) ⟨U, by rw [(unhide HPO).2], (unhide HL8).1, ((unhide HL8).2.setRow (by omega) _).mono (by omega)⟩ ((unhide HX9).rdr.row (unhide HR) (Nat.le_refl _) _)
end Go.Proofs.YtpkmamgleofimaaGreatDoor

namespace Go.Proofs.YtpkmamgleofimaaGreatDoor
open Go.RowKit

theorem leaf_liesN {B : Nat} {w : World} {k n : Int} {t nm : ByteArray} (hk : 0 ≤ k ∧ k ≤ 100) (hn : 0 ≤ n ∧ n ≤ 9223372036854775807) (ht : t.size ≤ 65536) (hm : nm.size ≤ 65536) : Lies B w (mkP k t n nm []) := fun X _ =>
  ⟨by constructor <;> omega, by unfold maxLen; omega, by constructor <;> omega, by unfold maxLen; omega, by unfold maxLen; decide, Nat.le_refl _, fun h => absurd h (Nat.lt_irrefl _), fun i => i.elim0⟩
theorem nuS_sm {E : Nat} {l r : List Tk} {n : Int} (h : nuS E l = .ok (n, r)) : 0 ≤ n ∧ n ≤ 9223372036854775807 := by
  unfold nuS at h
  split at h
  · cases h
  · split at h
    · cases h
    · injection h with h; injection h with h _; omega
structure XRes (C : SyC) (o : Nat) (w W : World) (r : List Tk) : Prop where
  but : But C.z w W
  rdr : Syr C W r o
  res : W.heap[w.heap.size]? = some (.cells zeroP 42 (0, 0))
theorem XRes.next {C : SyC} {o o' : Nat} {w W W' : World} {r r' : List Tk} (h : XRes C o w W r) (hz : C.z < w.heap.size) (hb : But C.z W W') (hR : Syr C W' r' o') : XRes C o' w W' r' := ⟨h.but.trans hb, hR, hb.row (by omega) h.res⟩
theorem XRes.below {C : SyC} {o : Nat} {w W W' : World} {r : List Tk} (h : XRes C o w W r) (hb : Below W.heap.size W W') : XRes C o w W' r := ⟨h.but.trans (But.of_below hb), h.rdr.below hb, row_below h.res hb⟩
theorem XRes.size {C : SyC} {o : Nat} {w W : World} {r : List Tk} (h : XRes C o w W r) : w.heap.size + 1 ≤ W.heap.size := (Array.getElem?_eq_some_iff.1 h.res).1
theorem XRes.start {C : SyC} {o : Nat} {w : World} {r : List Tk} (h : Syr C w r o) : XRes C o w (w.alloc (.cells zeroP 42)) r := ⟨(But.refl _ _).alloc _, h.below (ba _), ex_box⟩
theorem XRes.done {C : SyC} {o o0 : Nat} {w W : World} {r r0 : List Tk} {RR : Sy PT} {U p : PT} (h : XRes C o w W r) (h0 : Syr C w r0 o0) (hq : RR = .ok (p, r)) (hc : U.can = p) (hl : Lies (w.heap.size + 1) W U) (A : Array Value) : SyPost (patL w.heap.size) C o w RR (.returned (pv U)) (W.setRow w.heap.size A) :=
  spost_ok hq (but_setRow h.but (Nat.le_refl _) _) ⟨U, rfl, hc, (hl.setRow (by omega) _).mono (by omega)⟩ (h.rdr.row h0 (Nat.le_refl _) _)
section
variable {E : Nat} {p : Option Lv} {l r : List Tk}
theorem piS_word (h : (ahd E 0 l).k = 1) : piS E p l = npS E p l := by unfold piS; rw [if_pos h]
theorem piS_num (h1 : (ahd E 0 l).k ≠ 1) (h : (ahd E 0 l).k = 2) : piS E p l = sbd (nuS E l) fun n r => .ok (mkP 2 ByteArray.empty n ByteArray.empty [], r) := by unfold piS; rw [if_neg h1, if_pos h]
theorem piS_text (h1 : (ahd E 0 l).k ≠ 1) (h2 : (ahd E 0 l).k ≠ 2) (h : (ahd E 0 l).k = 3) : piS E p l = .ok (mkP 1 (ahd E 0 l).t 0 ByteArray.empty [], l.tail) := by unfold piS; rw [if_neg h1, if_neg h2, if_pos h]
theorem piS_dol (h1 : (ahd E 0 l).k ≠ 1) (h2 : (ahd E 0 l).k ≠ 2) (h3 : (ahd E 0 l).k ≠ 3) (h : isS (ahd E 0 l) (sgn 36) = true) : piS E p l = sbd (piO E p l.tail) fun x r => .ok (exE 5 [x], r) := by unfold piS; rw [if_neg h1, if_neg h2, if_neg h3, if_pos h]
theorem piS_par (h1 : (ahd E 0 l).k ≠ 1) (h2 : (ahd E 0 l).k ≠ 2) (h3 : (ahd E 0 l).k ≠ 3) (h : isS (ahd E 0 l) (sgn 36) = false) : piS E p l = sbd (ndS E (sgn 40) l) fun _ r => sbd (xpO E p r) fun x q => sbd (ndS E (sgn 41) q) fun _ m => .ok (x, m) := by unfold piS; rw [if_neg h1, if_neg h2, if_neg h3, if_neg (by rw [h]; decide)]
end
set_option maxRecDepth 100000 in
set_option maxHeartbeats 8000000 in
theorem spiece_any {d : Nat} (hd : d ≤ 400) (HX : XSays 95 d (fun E => xpO E (lvO E d))) (HPP : ∀ d', d = d' + 1 → XSays 131 d' (fun E => piS E (lvO E d'))) : XSays 131 d (fun E => piS E (lvO E d)) := by
  intro C l w hR hE
  have HR := hide hR
  have HE := hide hE
  have hzl := hR.lt
  have HXR0 := hide (XRes.start hR)
  have HTK := hide (stoken_any _ (unhide HXR0).rdr)
  have hsm := ahd_sm hR 0
  have HNP : Hid (∀ l w, Syr C w l (400 - d) → SyEnv C w → Calls Tryz.prog 135 #[.pointer (some ⟨C.z, 0, none⟩)] w fun e w' => SyPost (patL w.heap.size) C (400 - d) w (npS C.E (lvO C.E d) l) e w') := hide (fun l w h k => snamed_any HX C l w h k)
  have HXC : Hid (∀ l w, Syr C w l (400 - d) → SyEnv C w → Calls Tryz.prog 95 #[.pointer (some ⟨C.z, 0, none⟩)] w fun e w' => SyPost (patL w.heap.size) C (400 - d) w (xpO C.E (lvO C.E d) l) e w') := hide (fun l w h k => HX C l w h k)
  show Calls _ _ _ _ fun e w' => SyPost (patL w.heap.size) C (400 - d) w (piS C.E (lvO C.E d) l) e w'
  obtain ⟨RR, hRR⟩ : ∃ RR, RR = piS C.E (lvO C.E d) l := ⟨_, rfl⟩
  rw [← hRR]
  have HQ := hide hRR
  obtain ⟨t, ht⟩ : ∃ t, t = ahd C.E 0 l := ⟨_, rfl⟩
  rw [← ht] at HTK hsm
  have HTE := hide ht
  have hsz := hsm.2.1
  clear hE HX hRR ht hsm
  generalize ho : 400 - d = o at *
  have HO := hide ho
  clear hR ho
  unfold tokV at HTK
  have hAl := fun (W : World) => (Below.refl W.heap.size W).alloc (Nat.le_refl _) (.cells #[.int .i64 (t.k : Int), .string t.t, .int .i64 (t.a : Int)] 78)
  go_enter Tryz.func131, Tryz.ntmps131
  go_wp2_with fail
  refine (unhide HTK).mono ?_
  rintro e w2 ⟨rfl, hb2⟩
  have HX3 := hide (((unhide HXR0).below hb2).below (hAl w2))
  have HBX : Hid ((w2.alloc (.cells #[.int .i64 (t.k : Int), .string t.t, .int .i64 (t.a : Int)] 78)).heap[w2.heap.size]? = some (.cells #[.int .i64 (t.k : Int), .string t.t, .int .i64 (t.a : Int)] 78 (0, 0))) := hide (at_new rfl)
  have hw2 : w.heap.size + 1 ≤ w2.heap.size := ((unhide HXR0).below hb2).size
  have HSZ3 : Hid ((w2.alloc (.cells #[.int .i64 (t.k : Int), .string t.t, .int .i64 (t.a : Int)] 78)).heap.size = w2.heap.size + 1) := hide (World.size_alloc _ _)
  clear hb2 HTK HXR0
  by_cases h1 : t.k = 1
  · have q1 : ((t.k : Int) == 1) = true := bt
    have HQ1 : Hid (RR = npS C.E (lvO C.E d) l) := hide (by rw [unhide HQ]; exact piS_word (by rw [← unhide HTE]; exact h1))
    have HC := hide (unhide HNP l _ (unhide HX3).rdr ((unhide HE).but (unhide HX3).but))
    clear h1 HQ HNP HXC HPP
    generalize npS C.E (lvO C.E d) l = R1 at *
    go_wp2_with fail
    refine (unhide HC).mono ?_
    intro e w4 hp
    cases hq : R1 with
    | error x =>
      obtain ⟨er, i⟩ := x
      obtain ⟨hb4, rfl⟩ := sof_err hp hq
      have HB4 := hide ((unhide HX3).but.trans hb4)
      have HQ2 : Hid (RR = .error (er, i)) := hide (by rw [unhide HQ1, hq])
      clear hp hb4 hq
      unfold thr
      go_wp2_with fail
      exact ⟨rfl, spost_err (unhide HQ2) (unhide HB4) rfl⟩
    | ok x =>
      obtain ⟨x, r⟩ := x
      obtain ⟨hb4, ⟨U, rfl, hcan, hlie⟩, hR4⟩ := sof_ok hp hq
      have HX4 := hide ((unhide HX3).next hzl hb4 hR4)
      have HL4 : Hid (U.can = x ∧ Lies (w.heap.size + 1) w4 U) := hide (⟨hcan, hlie.mono (by rw [unhide HSZ3]; omega)⟩)
      have HQ2 : Hid (RR = .ok (x, r)) := hide (by rw [unhide HQ1, hq])
      clear hp hb4 hq hcan hlie hR4 HC
      unfold pv
      go_wp2_with (first
        | (refine wpList_store_row rfl 42 _ _ rfl w.heap.size #[.int .i64 U.k, .string U.t, .int .i64 U.n, .string U.nm, .slice U.xa U.len U.cap] rfl rfl 42 zeroP (unhide HX4).res size_ex rfl (by simp [Value.oneCell']) ?_)
        | fail)
      (try simp only [Exit.inBlock, Exit.then])
      refine bodyPost_ret (results_cell_row rfl _ _ w.heap.size 42 #[.int .i64 U.k, .string U.t, .int .i64 U.n, .string U.nm, .slice U.xa U.len U.cap] (0, 0) _ rfl (setRow_heap _ _ _ _ _ _ (unhide HX4).res) Tryz.underlying42 rfl size_ex) rfl ?_
      exact (unhide HX4).done (U := U) (unhide HR) (unhide HQ2) (unhide HL4).1 (unhide HL4).2 _
  · have q1 : ((t.k : Int) == 1) = false := bn
    by_cases h2 : t.k = 2
    · have q2 : ((t.k : Int) == 2) = true := bt
      have HQ1 : Hid (RR = sbd (nuS C.E l) fun n r => .ok (mkP 2 ByteArray.empty n ByteArray.empty [], r)) := hide (by rw [unhide HQ]; exact piS_num (by rw [← unhide HTE]; exact h1) (by rw [← unhide HTE]; exact h2))
      have HC := hide (snumber_any _ (unhide HX3).rdr ((unhide HE).but (unhide HX3).but) (by rw [← unhide HTE]; exact h2))
      have HNS := hide (fun n r h => nuS_sm (E := C.E) (l := l) (r := r) (n := n) h)
      clear h1 h2 HQ HNP HXC HPP
      generalize nuS C.E l = R1 at *
      go_wp2_with fail
      refine (unhide HC).mono ?_
      intro e w4 hp
      cases hq : R1 with
      | error x =>
        obtain ⟨er, i⟩ := x
        obtain ⟨hb4, rfl⟩ := sof_err hp hq
        have HB4 := hide ((unhide HX3).but.trans hb4)
        have HQ2 : Hid (RR = .error (er, i)) := hide (by rw [unhide HQ1, hq, sbd_err])
        clear hp hb4 hq
        unfold thr
        go_wp2_with fail
        exact ⟨rfl, spost_err (unhide HQ2) (unhide HB4) rfl⟩
      | ok x =>
        obtain ⟨n, r⟩ := x
        obtain ⟨hb4, rfl, hR4⟩ := sof_ok hp hq
        have hn := unhide HNS n r hq
        have HX4 := hide ((unhide HX3).next hzl hb4 hR4)
        have HL4 : Hid ((mkP 2 ⟨#[]⟩ n ⟨#[]⟩ []).can = mkP 2 ByteArray.empty n ByteArray.empty [] ∧ Lies (w.heap.size + 1) w4 (mkP 2 ⟨#[]⟩ n ⟨#[]⟩ [])) := hide (⟨leaf_can _ _ _ _, leaf_liesN ⟨by decide, by decide⟩ hn (by decide) (by decide)⟩)
        have HQ2 : Hid (RR = .ok (mkP 2 ByteArray.empty n ByteArray.empty [], r)) := hide (by rw [unhide HQ1, hq, sbd_ok])
        clear hp hb4 hq hR4 HC hn HNS
        go_wp2_with (first
          | (refine wpList_store_row rfl 42 _ _ rfl w.heap.size #[.int .i64 2, .string ⟨#[]⟩, .int .i64 n, .string ⟨#[]⟩, .slice none 0 0] rfl rfl 42 zeroP (unhide HX4).res size_ex rfl (by simp [Value.oneCell']) ?_)
          | fail)
        (try simp only [Exit.inBlock, Exit.then])
        refine bodyPost_ret (results_cell_row rfl _ _ w.heap.size 42 #[.int .i64 2, .string ⟨#[]⟩, .int .i64 n, .string ⟨#[]⟩, .slice none 0 0] (0, 0) _ rfl (setRow_heap _ _ _ _ _ _ (unhide HX4).res) Tryz.underlying42 rfl size_ex) rfl ?_
        exact (unhide HX4).done (U := mkP 2 ⟨#[]⟩ n ⟨#[]⟩ []) (unhide HR) (unhide HQ2) (unhide HL4).1 (unhide HL4).2 _
    · have q2 : ((t.k : Int) == 2) = false := bn
      by_cases h3 : t.k = 3
      · have q3 : ((t.k : Int) == 3) = true := bt
        have HQ2 : Hid (RR = .ok (mkP 1 t.t 0 ByteArray.empty [], l.tail)) := hide (by rw [unhide HQ, unhide HTE]; exact piS_text (by rw [← unhide HTE]; exact h1) (by rw [← unhide HTE]; exact h2) (by rw [← unhide HTE]; exact h3))
        have HC := hide (spass_any _ (unhide HX3).rdr (ahd_ne (E := C.E) (by rw [← unhide HTE, h3]; decide)))
        clear h1 h2 h3 HQ HNP HXC HPP
        go_wp2_with fail
        refine (unhide HC).mono ?_
        rintro e w4 ⟨rfl, hb4, hR4⟩
        have hx4 := hb4.row (show w2.heap.size ≠ C.z by omega) (unhide HBX)
        have d1 : w4.cell? ⟨w2.heap.size, 1, none⟩ = some (.string t.t) := cr hx4
        have HX4 := hide ((unhide HX3).next hzl hb4 hR4)
        have HL4 : Hid ((mkP 1 t.t 0 ⟨#[]⟩ []).can = mkP 1 t.t 0 ByteArray.empty [] ∧ Lies (w.heap.size + 1) w4 (mkP 1 t.t 0 ⟨#[]⟩ [])) := hide (⟨leaf_can _ _ _ _, leaf_liesN ⟨by decide, by decide⟩ ⟨by decide, by decide⟩ (by omega) (by decide)⟩)
        clear hb4 hR4 hx4 HC
        go_wp2_with (first
          | (refine wpList_store_row rfl 42 _ _ rfl w.heap.size #[.int .i64 1, .string t.t, .int .i64 0, .string ⟨#[]⟩, .slice none 0 0] rfl rfl 42 zeroP (unhide HX4).res size_ex rfl (by simp [Value.oneCell']) ?_)
          | fail)
        (try simp only [Exit.inBlock, Exit.then])
        refine bodyPost_ret (results_cell_row rfl _ _ w.heap.size 42 #[.int .i64 1, .string t.t, .int .i64 0, .string ⟨#[]⟩, .slice none 0 0] (0, 0) _ rfl (setRow_heap _ _ _ _ _ _ (unhide HX4).res) Tryz.underlying42 rfl size_ex) rfl ?_
        exact (unhide HX4).done (U := mkP 1 t.t 0 ⟨#[]⟩ []) (unhide HR) (unhide HQ2) (unhide HL4).1 (unhide HL4).2 _
      · have q3 : ((t.k : Int) == 3) = false := bn
        cases h4 : isS (ahd C.E 0 l) (sgn 36)
        · have HQ1 : Hid (RR = _) := hide ((unhide HQ).trans (piS_par (by rw [← unhide HTE]; exact h1) (by rw [← unhide HTE]; exact h2) (by rw [← unhide HTE]; exact h3) h4))
          have HC := hide (stake_no (sgn 36) _ (unhide HX3).rdr h4)
          have HND := hide (fun w l h => sneed_any (C := C) (l := l) (o := o) (sgn 40) w h)
          have HNE := hide (fun w l h => sneed_any (C := C) (l := l) (o := o) (sgn 41) w h)
          clear h1 h2 h3 h4 HQ HNP HPP
          unfold sgn at HC HND HNE HQ1
          generalize lvO C.E d = p at *
          go_wp2_with fail
          refine (unhide HC).mono ?_
          rintro e w4 ⟨rfl, hb4⟩
          have HX4 := hide ((unhide HX3).below hb4)
          have HN4 := hide (unhide HND w4 l (unhide HX4).rdr)
          have HS4 : Hid (w.heap.size + 1 ≤ w4.heap.size) := hide ((unhide HX4).size)
          clear hb4 HC HND
          go_wp2_with fail
          refine (unhide HN4).mono ?_
          intro e w5 hp
          cases hq : ndS C.E ⟨#[40]⟩ l with
          | error x =>
            obtain ⟨er, i⟩ := x
            obtain ⟨hb5, rfl⟩ := sof_err hp hq
            have HB5 := hide ((unhide HX4).but.trans hb5)
            have HQ2 : Hid (RR = .error (er, i)) := hide (by rw [unhide HQ1, hq, sbd_err])
            clear hp hb5 hq
            unfold thr
            go_wp2_with fail
            exact ⟨rfl, spost_err (unhide HQ2) (unhide HB5) rfl⟩
          | ok x =>
            obtain ⟨xu, r⟩ := x
            obtain ⟨hb5, rfl, hR5⟩ := sof_ok hp hq
            have HX5 := hide ((unhide HX4).next hzl hb5 hR5)
            have HQ2 : Hid (RR = sbd (xpO C.E p r) fun x q => sbd (ndS C.E ⟨#[41]⟩ q) fun _ m => .ok (x, m)) := hide (by rw [unhide HQ1, hq, sbd_ok])
            have HE5 := hide (unhide HXC r w5 (unhide HX5).rdr ((unhide HE).but (unhide HX5).but))
            clear hp hb5 hq hR5 HN4 HXC
            go_wp2_with fail
            refine (unhide HE5).mono ?_
            intro e w6 hp
            cases hq : xpO C.E p r with
            | error x =>
              obtain ⟨er, i⟩ := x
              obtain ⟨hb6, rfl⟩ := sof_err hp hq
              have HB6 := hide ((unhide HX5).but.trans hb6)
              have HQ3 : Hid (RR = .error (er, i)) := hide (by rw [unhide HQ2, hq, sbd_err])
              clear hp hb6 hq
              unfold thr
              go_wp2_with fail
              exact ⟨rfl, spost_err (unhide HQ3) (unhide HB6) rfl⟩
            | ok x =>
              obtain ⟨x, q⟩ := x
              obtain ⟨hb6, ⟨U, rfl, hcan, hlie⟩, hR6⟩ := sof_ok hp hq
              have hal6 : Below w6.heap.size w6 (w6.alloc (.cells (patO U) 42)) := ba _
              have hx6 := ((unhide HX5).next hzl hb6 hR6).below hal6
              have HX6 := hide hx6
              have HV6 : Hid ((w6.alloc (.cells (patO U) 42)).heap[w6.heap.size]? = some (.cells (patO U) 42 (0, 0))) := hide (at_new rfl)
              have HL6 : Hid (U.can = x ∧ Lies (w.heap.size + 1) (w6.alloc (.cells (patO U) 42)) U) := hide (⟨hcan, (hlie.mono (unhide HX5).size).below hal6⟩)
              have HQ3 : Hid (RR = sbd (ndS C.E ⟨#[41]⟩ q) fun _ m => .ok (x, m)) := hide (by rw [unhide HQ2, hq, sbd_ok])
              have HN6 := hide (unhide HNE _ q hx6.rdr)
              have hw6 : w.heap.size + 1 ≤ w6.heap.size := ((unhide HX5).next hzl hb6 hR6).size
              clear hp hb6 hq hcan hlie hR6 hal6 hx6 HE5 HNE
              unfold pv
              unfold patO at HX6 HV6 HL6 HN6
              go_wp2_with fail
              refine (unhide HN6).mono ?_
              intro e w7 hp
              cases hq : ndS C.E ⟨#[41]⟩ q with
              | error x =>
                obtain ⟨er, i⟩ := x
                obtain ⟨hb7, rfl⟩ := sof_err hp hq
                have HB7 := hide ((unhide HX6).but.trans hb7)
                have HQ4 : Hid (RR = .error (er, i)) := hide (by rw [unhide HQ3, hq, sbd_err])
                clear hp hb7 hq
                unfold thr
                go_wp2_with fail
                exact ⟨rfl, spost_err (unhide HQ4) (unhide HB7) rfl⟩
              | ok y =>
                obtain ⟨xu2, m⟩ := y
                obtain ⟨hb7, rfl, hR7⟩ := sof_ok hp hq
                have HX4 := hide ((unhide HX6).next hzl hb7 hR7)
                have hv7 := hb7.row (show w6.heap.size ≠ C.z by omega) (unhide HV6)
                obtain ⟨s0, s1, s2, s3, s4⟩ := cells5 hv7
                have HL4 : Hid (U.can = x ∧ Lies (w.heap.size + 1) w7 U) := hide (⟨(unhide HL6).1, (unhide HL6).2.but hb7 (by omega)⟩)
                have HQ2 : Hid (RR = .ok (x, m)) := hide (by rw [unhide HQ3, hq, sbd_ok])
                clear hp hb7 hq hR7 hv7 HN6 HX6 HV6 HL6
                go_wp2_with (first
                  | (refine wpList_store_row rfl 42 _ _ rfl w.heap.size #[.int .i64 U.k, .string U.t, .int .i64 U.n, .string U.nm, .slice U.xa U.len U.cap] rfl rfl 42 zeroP (unhide HX4).res size_ex rfl (by simp [Value.oneCell']) ?_)
                  | fail)
                (try simp only [Exit.inBlock, Exit.then])
                refine bodyPost_ret (results_cell_row rfl _ _ w.heap.size 42 #[.int .i64 U.k, .string U.t, .int .i64 U.n, .string U.nm, .slice U.xa U.len U.cap] (0, 0) _ rfl (setRow_heap _ _ _ _ _ _ (unhide HX4).res) Tryz.underlying42 rfl size_ex) rfl ?_
                exact (unhide HX4).done (U := U) (unhide HR) (unhide HQ2) (unhide HL4).1 (unhide HL4).2 _
        · have HQ1 : Hid (RR = _) := hide ((unhide HQ).trans (piS_dol (by rw [← unhide HTE]; exact h1) (by rw [← unhide HTE]; exact h2) (by rw [← unhide HTE]; exact h3) h4))
          have HC := hide (stake_yes (sgn 36) _ (unhide HX3).rdr h4)
          clear h1 h2 h3 h4 HQ HNP HXC
          unfold sgn at HC
          cases d with
          | zero =>
            have HQ2 : Hid (RR = .error (4, (ahd C.E 0 l.tail).a)) := hide (by rw [unhide HQ1]; rfl)
            have HEN := hide (fun w h => senter_no (C := C) (l := l.tail) (o := o) w h (unhide HO).symm)
            clear HQ1 HPP
            generalize (ahd C.E 0 l.tail).a = ae at *
            go_wp2_with fail
            refine (unhide HC).mono ?_
            rintro e w4 ⟨rfl, hb4, hR4⟩
            have HB4 := hide ((unhide HX3).but.trans hb4)
            have HE4 := hide (unhide HEN _ hR4)
            clear hb4 hR4 HC HEN
            go_wp2_with fail
            refine (unhide HE4).mono ?_
            rintro e w5 ⟨rfl, hb5⟩
            have HB5 := hide ((unhide HB4).trans hb5)
            clear hb5
            unfold thr
            go_wp2_with fail
            exact ⟨rfl, spost_err (unhide HQ2) (unhide HB5) rfl⟩
          | succ d =>
            have HQ2 : Hid (RR = sbd (piS C.E (lvO C.E d) l.tail) fun x r => .ok (exE 5 [x], r)) := hide (by rw [unhide HQ1]; rfl)
            have hO := unhide HO
            have HEN := hide (fun w h => senter_ok (C := C) (l := l.tail) (o := o) w h (by omega))
            rw [show o + 1 = 400 - d by omega] at HEN
            have HPC : Hid (∀ l w, Syr C w l (400 - d) → SyEnv C w → Calls Tryz.prog 131 #[.pointer (some ⟨C.z, 0, none⟩)] w fun e w' => SyPost (patL w.heap.size) C (400 - d) w (piS C.E (lvO C.E d) l) e w') := hide (fun l w h k => HPP d rfl C l w h k)
            have HLV := hide (fun w l h => sleave_any (C := C) (l := l) (o := o) w h (by omega))
            rw [show o + 1 = 400 - d by omega] at HLV
            clear HQ1 HPP hd hO HO
            generalize 400 - d = o1 at *
            generalize lvO C.E d = p at *
            go_wp2_with fail
            refine (unhide HC).mono ?_
            rintro e w4 ⟨rfl, hb4, hR4⟩
            have HX4 := hide ((unhide HX3).next hzl hb4 hR4)
            have HE4 := hide (unhide HEN _ hR4)
            clear hb4 hR4 HC HEN
            go_wp2_with fail
            refine (unhide HE4).mono ?_
            rintro e w5 ⟨rfl, hb5, hR5⟩
            have HX5 := hide ((unhide HX4).next hzl hb5 hR5)
            have HE5 := hide (unhide HPC l.tail w5 (unhide HX5).rdr ((unhide HE).but (unhide HX5).but))
            clear hb5 hR5 HE4 HPC
            go_wp2_with fail
            refine (unhide HE5).mono ?_
            intro e w6 hp
            cases hq : piS C.E p l.tail with
            | error x =>
              obtain ⟨er, i⟩ := x
              obtain ⟨hb6, rfl⟩ := sof_err hp hq
              have HB6 := hide ((unhide HX5).but.trans hb6)
              have HQ3 : Hid (RR = .error (er, i)) := hide (by rw [unhide HQ2, hq, sbd_err])
              clear hp hb6 hq
              unfold thr
              go_wp2_with fail
              exact ⟨rfl, spost_err (unhide HQ3) (unhide HB6) rfl⟩
            | ok x =>
              obtain ⟨x, q⟩ := x
              obtain ⟨hb6, ⟨U0, rfl, hcan, hlie⟩, hR6⟩ := sof_ok hp hq
              have hal6 : Below w6.heap.size w6 (w6.alloc (.cells (patO U0) 42)) := ba _
              have hx6 := ((unhide HX5).next hzl hb6 hR6).below hal6
              have HX6 := hide hx6
              have HV6 : Hid ((w6.alloc (.cells (patO U0) 42)).heap[w6.heap.size]? = some (.cells (patO U0) 42 (0, 0))) := hide (at_new rfl)
              have HL6 : Hid (U0.can = x ∧ Lies (w.heap.size + 1) (w6.alloc (.cells (patO U0) 42)) U0) := hide (⟨hcan, (hlie.mono (unhide HX5).size).below hal6⟩)
              have HQ3 : Hid (RR = .ok (exE 5 [x], q)) := hide (by rw [unhide HQ2, hq, sbd_ok])
              have HN6 := hide (unhide HLV _ q hx6.rdr)
              have hw6 : w.heap.size + 1 ≤ w6.heap.size := ((unhide HX5).next hzl hb6 hR6).size
              clear hp hb6 hq hcan hlie hR6 hal6 hx6 HE5 HLV
              unfold pv
              unfold patO at HX6 HV6 HL6 HN6
              go_wp2_with fail
              refine (unhide HN6).mono ?_
              rintro e w7 ⟨rfl, hb7, hR7⟩
              have hx7 := (unhide HX6).next hzl hb7 hR7
              have hv7 := hb7.row (show w6.heap.size ≠ C.z by omega) (unhide HV6)
              obtain ⟨s0, s1, s2, s3, s4⟩ := cells5 hv7
              have hl7 : Lies (w.heap.size + 1) w7 U0 := (unhide HL6).2.but hb7 (by omega)
              obtain ⟨U, ⟨hpv, hpo⟩, hcn, hli⟩ := kids_node (k := 5) (nm := ⟨#[]⟩) (KidsX.one (B := w.heap.size + 1) hl7 (Nat.le_refl _) hx7.size) ⟨by decide, by decide⟩ (by decide)
              have hal8 : Below w7.heap.size w7 (w7.alloc (.cells (patO U0) 42)) := ba _
              have HX4 := hide (hx7.below hal8)
              have HL4 : Hid (U.can = exE 5 [x] ∧ Lies (w.heap.size + 1) (w7.alloc (.cells (patO U0) 42)) U) := hide (⟨by rw [hcn, (unhide HL6).1]; rfl, hli⟩)
              have HPO := hide (And.intro hpo hpv)
              clear hb7 hR7 hv7 hx7 HN6 HX6 HV6 HL6 hpv hpo hcn hli hl7 hal8
              unfold patO at HX4 HL4
              go_wp2_with (first
                | (refine wpList_store_row rfl 42 _ _ rfl w.heap.size #[.int .i64 5, .string ⟨#[]⟩, .int .i64 0, .string ⟨#[]⟩, .slice (some ⟨w7.heap.size, 0, none⟩) 1 1] rfl rfl 42 zeroP (unhide HX4).res size_ex rfl (by simp [Value.oneCell']) ?_)
                | fail)
              (try simp only [Exit.inBlock, Exit.then])
              refine bodyPost_ret (results_cell_row rfl _ _ w.heap.size 42 #[.int .i64 5, .string ⟨#[]⟩, .int .i64 0, .string ⟨#[]⟩, .slice (some ⟨w7.heap.size, 0, none⟩) 1 1] (0, 0) _ rfl (setRow_heap _ _ _ _ _ _ (unhide HX4).res) Tryz.underlying42 rfl size_ex) rfl ?_
              rw [← (unhide HPO).2]
              exact (unhide HX4).done (U := U) (unhide HR) (unhide HQ3) (unhide HL4).1 (unhide HL4).2 _
end Go.Proofs.YtpkmamgleofimaaGreatDoor
