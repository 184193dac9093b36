/- The reader of lines: a function's definition. The reader of lines: what begins with an expression. -/
import Derived.Test.YtpkmamgleofimaaGreatDoorSyMM
namespace Go.Proofs.YtpkmamgleofimaaGreatDoor
open Go.RowKit

theorem NLies.mono {B C : Nat} {w : World} {N : NL} (h : NLies C w N) (hc : B ≤ C) : NLies B w N := fun X hX => h X fun i h1 h2 => hX i (by omega) h2
theorem StIn.putN {B sb : Nat} {w : World} {S P S' P' : SV} {k : Nat} {v : Value} (h : StIn B sb w S P) (hsb : sb < B) (hc : S.cells.setIfInBounds k v = S'.cells) (hcan : S'.can = P') (ht : S'.lab.size ≤ 2000 ∧ S'.nm.size ≤ 2000 ∧ S'.en.size ≤ 2000 ∧ S'.al.size ≤ 2000 ∧ S'.ye.size ≤ 2000 ∧ S'.no.size ≤ 2000)
    (h1 : S'.tg = S.tg) (h2 : S'.va = S.va) (h3 : S'.pa = S.pa) (h4 : NLies B w S'.ps) (h5 : NLies B w S'.ls) : StIn B sb (w.setCell ⟨sb, k, none⟩ v) S' P' := by
  have hs : w.heap.size ≤ (w.setCell ⟨sb, k, none⟩ v).heap.size := by rw [World.size_setCell]; exact Nat.le_refl _
  have hb : ∀ i, B ≤ i → i < w.heap.size → (w.setCell ⟨sb, k, none⟩ v).heap[i]? = w.heap[i]? := fun i h1 _ => heap_setCell_other w ⟨sb, k, none⟩ i v (by show i ≠ sb; omega)
  refine ⟨?_, hcan, ht, by rw [h1]; exact h.tg.step hs hb, by rw [h2]; exact h.va.step hs hb, by rw [h3]; exact h.pa.step hs hb, h4.step hs hb, h5.step hs hb⟩
  rw [← hc]
  exact heap_setCell_same w sb k _ _ v h.box
section
variable {C : SyC} {o B sb : Nat} {w W W' : World} {l l' : List Tk} {S P : SV}
theorem StR.kd (h : StR C o B sb w W l S P) (hS : SyS C B sb) (k : Int) : StR C o B sb w (W.setCell ⟨sb, 1, none⟩ (.int .i64 k)) l { S with k := k } { P with k := k } :=
  ⟨h.but.set _ _, h.rdr.stm hS, h.stm.put hS.s rfl (by rw [← h.stm.can]; rfl) h.stm.txt rfl rfl rfl rfl rfl⟩
theorem StR.nm (h : StR C o B sb w W l S P) (hS : SyS C B sb) {t : ByteArray} (ht : t.size ≤ 2000) : StR C o B sb w (W.setCell ⟨sb, 17, none⟩ (.string t)) l { S with nm := t } { P with nm := t } :=
  ⟨h.but.set _ _, h.rdr.stm hS, h.stm.put hS.s rfl (by rw [← h.stm.can]; rfl) ⟨h.stm.txt.1, ht, h.stm.txt.2.2⟩ rfl rfl rfl rfl rfl⟩
theorem StR.en (h : StR C o B sb w W l S P) (hS : SyS C B sb) {t : ByteArray} (ht : t.size ≤ 2000) : StR C o B sb w (W.setCell ⟨sb, 18, none⟩ (.string t)) l { S with en := t } { P with en := t } :=
  ⟨h.but.set _ _, h.rdr.stm hS, h.stm.put hS.s rfl (by rw [← h.stm.can]; rfl) ⟨h.stm.txt.1, h.stm.txt.2.1, ht, h.stm.txt.2.2.2⟩ rfl rfl rfl rfl rfl⟩
theorem StR.ps (h : StR C o B sb w W l S P) (hS : SyS C B sb) {N : NL} {p : List ByteArray} (hp : N.l = p) (hN : NLies B W N) : StR C o B sb w (W.setCell ⟨sb, 19, none⟩ N.v) l { S with ps := N } { P with ps := nlO p } :=
  ⟨h.but.set _ _, h.rdr.stm hS, h.stm.putN hS.s rfl (by rw [← h.stm.can, ← hp]; rfl) h.stm.txt rfl rfl rfl hN h.stm.ls⟩
theorem StR.ls (h : StR C o B sb w W l S P) (hS : SyS C B sb) {N : NL} {p : List ByteArray} (hp : N.l = p) (hN : NLies B W N) : StR C o B sb w (W.setCell ⟨sb, 20, none⟩ N.v) l { S with ls := N } { P with ls := nlO p } :=
  ⟨h.but.set _ _, h.rdr.stm hS, h.stm.putN hS.s rfl (by rw [← h.stm.can, ← hp]; rfl) h.stm.txt rfl rfl rfl h.stm.ps hN⟩
end
def dfA (E : Nat) (P : SV) (l : List Tk) : Sy SV := sbd (nmS E l) fun nm r => sbd (ndS E (sgn 40) r) fun _ r1 => sbd (dpS E r1) fun ps r2 => sbd (dlS E r2) fun ls r3 => sbd (nmS E r3) fun en r4 => .ok ({ P with k := 7, nm := nm, ps := nlO ps, ls := nlO ls, en := en }, r4)
theorem dfA_eq (E : Nat) (P : SV) (l : List Tk) : (sbd (dfS E l) fun x r => .ok ({ P with k := 7, nm := x.1, ps := nlO x.2.1, ls := nlO x.2.2.1, en := x.2.2.2 }, r)) = dfA E P l := by
  unfold dfS dfA
  cases nmS E l with
  | error e => rfl
  | ok a =>
    obtain ⟨a1, a2⟩ := a
    simp only [sbd_ok]
    cases ndS E (sgn 40) a2 with
    | error e => rfl
    | ok b =>
      obtain ⟨b1, b2⟩ := b
      simp only [sbd_ok]
      cases dpS E b2 with
      | error e => rfl
      | ok c =>
        obtain ⟨c1, c2⟩ := c
        simp only [sbd_ok]
        cases dlS E c2 with
        | error e => rfl
        | ok d =>
          obtain ⟨d1, d2⟩ := d
          simp only [sbd_ok]
          cases nmS E d2 with
          | error e => rfl
          | ok f => obtain ⟨f1, f2⟩ := f; rfl
set_option maxRecDepth 100000 in
set_option maxHeartbeats 16000000 in
theorem sdefine_any {C : SyC} {l : List Tk} {o B sb : Nat} {S P : SV} (w : World) (hS : SyS C B sb) (hR : Syr C w l o) (hI : StIn B sb w S P) (hBw : B ≤ w.heap.size) (hl : l ≠ []) (hps : P.ps = nlO []) (hls : P.ls = nlO []) : Calls Tryz.prog 70 #[.pointer (some ⟨C.z, 0, none⟩), .pointer (some ⟨sb, 0, none⟩)] w fun e w' => StPost C o B sb w (dfA C.E P l.tail) e w' := by
  obtain ⟨pl, pk, ptg, pva, ppa, pnm, pen, pps, pls, pal, pye, pno⟩ := P
  have hps : pps = nlO [] := hps
  have hls : pls = nlO [] := hls
  subst hps hls
  have H0 : Hid (StR C o B sb w w l S _) := hide (⟨But2.refl _ _ _, hR, hI⟩)
  have HS := hide hS
  have hbl : B ≤ w.heap.size := hBw
  have HP0 := hide (spass_any w hR hl)
  have HNM := hide (fun w l h => sname_any (C := C) (l := l) (o := o) w h)
  have HNS := hide (fun w l h => snames_any (C := C) (l := l) (od := o) w h)
  have HN1 := hide (fun w l h => sneed_any (C := C) (l := l) (o := o) (sgn 40) w h)
  have HN2 := hide (fun w l h => sneed_any (C := C) (l := l) (o := o) (sgn 41) w h)
  have HTY := hide (fun w l h q => stake_yes (C := C) (l := l) (o := o) (sgn 41) w h q)
  have HTN := hide (fun w l h q => stake_no (C := C) (l := l) (o := o) (sgn 41) w h q)
  have HAH := hide (fun w l h => sahead_any (C := C) (l := l) (o := o) 1 w h (by decide))
  obtain ⟨RR, hRR⟩ : ∃ RR, RR = dfA C.E ⟨pl, pk, ptg, pva, ppa, pnm, pen, nlO [], nlO [], pal, pye, pno⟩ l.tail := ⟨_, rfl⟩
  rw [← hRR]
  unfold dfA at hRR
  have HQ := hide hRR
  clear hR hI hS hRR hBw hl
  unfold sgn at HN1 HN2 HTY HTN HQ
  generalize l.tail = l1 at *
  go_enter Tryz.func70, Tryz.ntmps70
  go_wp2_with fail
  refine (unhide HP0).mono ?_
  rintro e w1 ⟨rfl, hb1, hR1⟩
  have hx1 := (unhide H0).next (unhide HS) hb1 hR1
  have c1 := hx1.stm.cell (k := 1) rfl
  have f1 := hx1.stm.fz 1
  have H2 := hide (hx1.kd (unhide HS) 7)
  have HNM2 := hide (unhide HNM _ l1 (unhide H2).rdr)
  have HSM := hide (fun t r h => nmS_sm (t := t) (r := r) (unhide H2).rdr h)
  clear hb1 hR1 hx1 HP0
  go_wp2_with fail
  refine (unhide HNM2).mono ?_
  intro e w3 hp
  cases hq : nmS C.E l1 with
  | error x =>
    obtain ⟨er, i⟩ := x
    obtain ⟨hbx, rfl⟩ := sof_err hp hq
    have HBX := hide ((unhide H2).but.trans (But2.of hbx))
    have hQ := unhide HQ
    rw [hq] at hQ
    simp only [sbd_err] at hQ
    have HQE := hide hQ
    clear hp hbx hq hQ HQ
    unfold thr
    go_wp2_with fail
    exact ⟨rfl, tpost_err (unhide HQE) (unhide HBX) rfl⟩
  | ok x =>
    obtain ⟨t3, r3⟩ := x
    obtain ⟨hbx, rfl, hRx⟩ := sof_ok hp hq
    have htz := unhide HSM _ _ hq
    have hQ := unhide HQ
    rw [hq] at hQ
    simp only [sbd_ok] at hQ
    have HQ := hide hQ
    have hx := (unhide H2).next (unhide HS) hbx hRx
    have cx := hx.stm.cell (k := 17) rfl
    have fx := hx.stm.fz 17
    have H3 := hide (hx.nm (unhide HS) htz)
    clear hp hbx hq hQ hRx hx HSM
    have HN4 := hide (unhide HN1 _ r3 (unhide H3).rdr)
    clear c1 f1
    go_wp2_with fail
    clear cx fx
    refine (unhide HN4).mono ?_
    intro e w4 hp
    cases hq : ndS C.E ⟨#[40]⟩ r3 with
    | error x =>
      obtain ⟨er, i⟩ := x
      obtain ⟨hbx, rfl⟩ := sof_err hp hq
      have HBX := hide ((unhide H3).but.trans (But2.of hbx))
      have hQ := unhide HQ
      rw [hq] at hQ
      simp only [sbd_err] at hQ
      have HQE := hide hQ
      clear hp hbx hq hQ HQ
      unfold thr
      go_wp2_with fail
      exact ⟨rfl, tpost_err (unhide HQE) (unhide HBX) rfl⟩
    | ok x =>
      obtain ⟨xu, r4⟩ := x
      obtain ⟨hbx, rfl, hRx⟩ := sof_ok hp hq
      have hQ := unhide HQ
      rw [hq] at hQ
      simp only [sbd_ok] at hQ
      have HQ := hide hQ
      have hx := (unhide H3).next (unhide HS) hbx hRx
      have H4 := hide hx
      clear hp hbx hq hQ hRx hx HN4
      unfold dpS at HQ
      unfold sgn at HQ
      go_wp2_with fail
      cases h5 : isS (ahd C.E 0 r4) ⟨#[41]⟩
      · have hQ := unhide HQ
        rw [if_neg (by rw [h5]; decide)] at hQ
        have HT5 := hide (unhide HTN _ r4 (unhide H4).rdr h5)
        have HQ := hide hQ
        clear hQ h5
        refine (unhide HT5).mono ?_
        rintro e w5 ⟨rfl, hb5⟩
        have H5 := hide ((unhide H4).below hb5)
        have HNS5 := hide (unhide HNS _ r4 (unhide H5).rdr)
        clear hb5 HT5
        go_wp2_with fail
        refine (unhide HNS5).mono ?_
        intro e w6 hp
        cases hq : nsS C.E r4 with
        | error x =>
          obtain ⟨er, i⟩ := x
          obtain ⟨hbx, rfl⟩ := sof_err hp hq
          have HBX := hide ((unhide H5).but.trans (But2.of hbx))
          have hQ := unhide HQ
          rw [hq] at hQ
          simp only [sbd_err] at hQ
          have HQE := hide hQ
          clear hp hbx hq hQ HQ
          unfold thr
          go_wp2_with fail
          exact ⟨rfl, tpost_err (unhide HQE) (unhide HBX) rfl⟩
        | ok x =>
          obtain ⟨p6, r6⟩ := x
          obtain ⟨hbx, ⟨NN, hNe, hNl, hNi⟩, hRx⟩ := sof_ok hp hq
          have hQ := unhide HQ
          rw [hq] at hQ
          simp only [sbd_ok] at hQ
          have HQ := hide hQ
          have hx := (unhide H5).next (unhide HS) hbx hRx
          have hsz := (unhide H5).but.size
          have cx := hx.stm.cell (k := 19) rfl
          have fx := hx.stm.fz 19
          have H6 := hide (hx.ps (unhide HS) hNl (hNi.mono (by omega)))
          clear hp hbx hq hQ hRx hx hsz hNl hNi
          subst hNe
          unfold NL.v
          have HN7 := hide (unhide HN2 _ r6 (unhide H6).rdr)
          go_wp2_with fail
          clear cx fx
          refine (unhide HN7).mono ?_
          intro e w6b hp
          cases hq : ndS C.E ⟨#[41]⟩ r6 with
          | error x =>
            obtain ⟨er, i⟩ := x
            obtain ⟨hbx, rfl⟩ := sof_err hp hq
            have HBX := hide ((unhide H6).but.trans (But2.of hbx))
            have hQ := unhide HQ
            rw [hq] at hQ
            simp only [sbd_err] at hQ
            have HQE := hide hQ
            clear hp hbx hq hQ HQ
            unfold thr
            go_wp2_with fail
            exact ⟨rfl, tpost_err (unhide HQE) (unhide HBX) rfl⟩
          | ok x =>
            obtain ⟨xu6, r6b⟩ := x
            obtain ⟨hbx, rfl, hRx⟩ := sof_ok hp hq
            have hQ := unhide HQ
            rw [hq] at hQ
            simp only [sbd_ok] at hQ
            have HQ := hide hQ
            have hx := (unhide H6).next (unhide HS) hbx hRx
            have H6b := hide hx
            clear hp hbx hq hQ hRx hx HN7
            unfold dlS at HQ
            unfold sgn at HQ
            have HA7 := hide (unhide HAH _ r6b (unhide H6b).rdr)
            have HIS := hide (fun w => isSign_any (ahd C.E 1 r6b) ⟨#[44]⟩ w)
            generalize ht7 : ahd C.E 1 r6b = t7 at *
            have HT7 := hide ht7
            clear ht7
            unfold tokV at HA7 HIS
            go_wp2_with fail
            refine (unhide HA7).mono ?_
            rintro e w7 ⟨rfl, hb7⟩
            have hal7 := (Below.refl w7.heap.size w7).alloc (Nat.le_refl _) (.cells #[.int .i64 (t7.k : Int), .string t7.t, .int .i64 (t7.a : Int)] 78)
            have H7 := hide (((unhide H6b).below hb7).below hal7)
            clear hb7 hal7 HA7
            by_cases hk7 : t7.k = 1
            · have q7 : ((t7.k : Int) == 1) = true := bt
              have hQ := unhide HQ
              rw [if_pos (.inl hk7)] at hQ
              have HQ := hide hQ
              clear hQ hk7 HIS
              have HNS8 := hide (unhide HNS _ r6b (unhide H7).rdr)
              have hB8 : B ≤ w.heap.size := hbl
              go_wp2_with fail
              refine (unhide HNS8).mono ?_
              intro e w8b hp
              cases hq : nsS C.E r6b with
              | error x =>
                obtain ⟨er, i⟩ := x
                obtain ⟨hbx, rfl⟩ := sof_err hp hq
                have HBX := hide ((unhide H7).but.trans (But2.of hbx))
                have hQ := unhide HQ
                rw [hq] at hQ
                simp only [sbd_err] at hQ
                have HQE := hide hQ
                clear hp hbx hq hQ HQ
                unfold thr
                go_wp2_with fail
                exact ⟨rfl, tpost_err (unhide HQE) (unhide HBX) rfl⟩
              | ok x =>
                obtain ⟨p8, r8⟩ := x
                obtain ⟨hbx, ⟨NN, hNe, hNl, hNi⟩, hRx⟩ := sof_ok hp hq
                have hQ := unhide HQ
                rw [hq] at hQ
                simp only [sbd_ok] at hQ
                have HQ := hide hQ
                have hx := (unhide H7).next (unhide HS) hbx hRx
                have hsz := (unhide H7).but.size
                have cx := hx.stm.cell (k := 20) rfl
                have fx := hx.stm.fz 20
                have H9 := hide (hx.ls (unhide HS) hNl (hNi.mono (by omega)))
                clear hp hbx hq hQ hRx hx hsz hNl hNi
                subst hNe
                unfold NL.v
                have HNM9 := hide (unhide HNM _ r8 (unhide H9).rdr)
                have HSM := hide (fun t r h => nmS_sm (t := t) (r := r) (unhide H9).rdr h)
                go_wp2_with fail
                clear cx fx
                refine (unhide HNM9).mono ?_
                intro e w9 hp
                cases hq : nmS C.E r8 with
                | error x =>
                  obtain ⟨er, i⟩ := x
                  obtain ⟨hbx, rfl⟩ := sof_err hp hq
                  have HBX := hide ((unhide H9).but.trans (But2.of hbx))
                  have hQ := unhide HQ
                  rw [hq] at hQ
                  simp only [sbd_err] at hQ
                  have HQE := hide hQ
                  clear hp hbx hq hQ HQ
                  unfold thr
                  go_wp2_with fail
                  exact ⟨rfl, tpost_err (unhide HQE) (unhide HBX) rfl⟩
                | ok x =>
                  obtain ⟨t9, r9⟩ := x
                  obtain ⟨hbx, rfl, hRx⟩ := sof_ok hp hq
                  have htz := unhide HSM _ _ hq
                  have hQ := unhide HQ
                  rw [hq] at hQ
                  simp only [sbd_ok] at hQ
                  have HQ := hide hQ
                  have hx := (unhide H9).next (unhide HS) hbx hRx
                  have cx := hx.stm.cell (k := 18) rfl
                  have fx := hx.stm.fz 18
                  have H10 := hide (hx.en (unhide HS) htz)
                  clear hp hbx hq hQ hRx hx HSM
                  go_wp2_with fail
                  go_end0
                  exact (unhide H10).done (unhide HQ)
            · have q7 : ((t7.k : Int) == 1) = false := bn
              cases h44 : isS t7 ⟨#[44]⟩
              · rw [h44] at HIS
                have hQ := unhide HQ
                rw [if_neg (by intro h; rcases h with h | h; exact hk7 h; rw [h44] at h; cases h)] at hQ
                simp only [sbd_ok] at hQ
                have HQ := hide hQ
                clear hQ hk7 h44
                go_wp2_with fail
                refine (unhide HIS _).mono ?_
                rintro e w8 ⟨rfl, hb8⟩
                have H8 := hide ((unhide H7).below hb8)
                clear hb8 HIS
                have HNM9 := hide (unhide HNM _ r6b (unhide H8).rdr)
                have HSM := hide (fun t r h => nmS_sm (t := t) (r := r) (unhide H8).rdr h)
                go_wp2_with fail
                refine (unhide HNM9).mono ?_
                intro e w9 hp
                cases hq : nmS C.E r6b with
                | error x =>
                  obtain ⟨er, i⟩ := x
                  obtain ⟨hbx, rfl⟩ := sof_err hp hq
                  have HBX := hide ((unhide H8).but.trans (But2.of hbx))
                  have hQ := unhide HQ
                  rw [hq] at hQ
                  simp only [sbd_err] at hQ
                  have HQE := hide hQ
                  clear hp hbx hq hQ HQ
                  unfold thr
                  go_wp2_with fail
                  exact ⟨rfl, tpost_err (unhide HQE) (unhide HBX) rfl⟩
                | ok x =>
                  obtain ⟨t9, r9⟩ := x
                  obtain ⟨hbx, rfl, hRx⟩ := sof_ok hp hq
                  have htz := unhide HSM _ _ hq
                  have hQ := unhide HQ
                  rw [hq] at hQ
                  simp only [sbd_ok] at hQ
                  have HQ := hide hQ
                  have hx := (unhide H8).next (unhide HS) hbx hRx
                  have cx := hx.stm.cell (k := 18) rfl
                  have fx := hx.stm.fz 18
                  have H10 := hide (hx.en (unhide HS) htz)
                  clear hp hbx hq hQ hRx hx HSM
                  go_wp2_with fail
                  go_end0
                  exact (unhide H10).done (unhide HQ)
              · rw [h44] at HIS
                have hQ := unhide HQ
                rw [if_pos (.inr h44)] at hQ
                have HQ := hide hQ
                clear hQ hk7 h44
                go_wp2_with fail
                refine (unhide HIS _).mono ?_
                rintro e w8 ⟨rfl, hb8⟩
                have H8 := hide ((unhide H7).below hb8)
                clear hb8 HIS
                have HNS8 := hide (unhide HNS _ r6b (unhide H8).rdr)
                have hB8 : B ≤ w.heap.size := hbl
                go_wp2_with fail
                refine (unhide HNS8).mono ?_
                intro e w8b hp
                cases hq : nsS C.E r6b with
                | error x =>
                  obtain ⟨er, i⟩ := x
                  obtain ⟨hbx, rfl⟩ := sof_err hp hq
                  have HBX := hide ((unhide H8).but.trans (But2.of hbx))
                  have hQ := unhide HQ
                  rw [hq] at hQ
                  simp only [sbd_err] at hQ
                  have HQE := hide hQ
                  clear hp hbx hq hQ HQ
                  unfold thr
                  go_wp2_with fail
                  exact ⟨rfl, tpost_err (unhide HQE) (unhide HBX) rfl⟩
                | ok x =>
                  obtain ⟨p8, r8⟩ := x
                  obtain ⟨hbx, ⟨NN, hNe, hNl, hNi⟩, hRx⟩ := sof_ok hp hq
                  have hQ := unhide HQ
                  rw [hq] at hQ
                  simp only [sbd_ok] at hQ
                  have HQ := hide hQ
                  have hx := (unhide H8).next (unhide HS) hbx hRx
                  have hsz := (unhide H8).but.size
                  have cx := hx.stm.cell (k := 20) rfl
                  have fx := hx.stm.fz 20
                  have H9 := hide (hx.ls (unhide HS) hNl (hNi.mono (by omega)))
                  clear hp hbx hq hQ hRx hx hsz hNl hNi
                  subst hNe
                  unfold NL.v
                  have HNM9 := hide (unhide HNM _ r8 (unhide H9).rdr)
                  have HSM := hide (fun t r h => nmS_sm (t := t) (r := r) (unhide H9).rdr h)
                  go_wp2_with fail
                  clear cx fx
                  refine (unhide HNM9).mono ?_
                  intro e w9 hp
                  cases hq : nmS C.E r8 with
                  | error x =>
                    obtain ⟨er, i⟩ := x
                    obtain ⟨hbx, rfl⟩ := sof_err hp hq
                    have HBX := hide ((unhide H9).but.trans (But2.of hbx))
                    have hQ := unhide HQ
                    rw [hq] at hQ
                    simp only [sbd_err] at hQ
                    have HQE := hide hQ
                    clear hp hbx hq hQ HQ
                    unfold thr
                    go_wp2_with fail
                    exact ⟨rfl, tpost_err (unhide HQE) (unhide HBX) rfl⟩
                  | ok x =>
                    obtain ⟨t9, r9⟩ := x
                    obtain ⟨hbx, rfl, hRx⟩ := sof_ok hp hq
                    have htz := unhide HSM _ _ hq
                    have hQ := unhide HQ
                    rw [hq] at hQ
                    simp only [sbd_ok] at hQ
                    have HQ := hide hQ
                    have hx := (unhide H9).next (unhide HS) hbx hRx
                    have cx := hx.stm.cell (k := 18) rfl
                    have fx := hx.stm.fz 18
                    have H10 := hide (hx.en (unhide HS) htz)
                    clear hp hbx hq hQ hRx hx HSM
                    go_wp2_with fail
                    go_end0
                    exact (unhide H10).done (unhide HQ)
      · have hQ := unhide HQ
        rw [if_pos h5] at hQ
        simp only [sbd_ok] at hQ
        have HT5 := hide (unhide HTY _ r4 (unhide H4).rdr h5)
        unfold dlS at hQ
        unfold sgn at hQ
        have HQ := hide hQ
        clear hQ h5
        refine (unhide HT5).mono ?_
        rintro e w5 ⟨rfl, hb5, hR5⟩
        have H5 := hide ((unhide H4).next (unhide HS) hb5 hR5)
        clear hb5 hR5 HT5
        generalize r4.tail = r5 at *
        have HA7 := hide (unhide HAH _ r5 (unhide H5).rdr)
        have HIS := hide (fun w => isSign_any (ahd C.E 1 r5) ⟨#[44]⟩ w)
        generalize ht7 : ahd C.E 1 r5 = t7 at *
        have HT7 := hide ht7
        clear ht7
        unfold tokV at HA7 HIS
        go_wp2_with fail
        refine (unhide HA7).mono ?_
        rintro e w7 ⟨rfl, hb7⟩
        have hal7 := (Below.refl w7.heap.size w7).alloc (Nat.le_refl _) (.cells #[.int .i64 (t7.k : Int), .string t7.t, .int .i64 (t7.a : Int)] 78)
        have H7 := hide (((unhide H5).below hb7).below hal7)
        clear hb7 hal7 HA7
        by_cases hk7 : t7.k = 1
        · have q7 : ((t7.k : Int) == 1) = true := bt
          have hQ := unhide HQ
          rw [if_pos (.inl hk7)] at hQ
          have HQ := hide hQ
          clear hQ hk7 HIS
          have HNS8 := hide (unhide HNS _ r5 (unhide H7).rdr)
          have hB8 : B ≤ w.heap.size := hbl
          go_wp2_with fail
          refine (unhide HNS8).mono ?_
          intro e w8b hp
          cases hq : nsS C.E r5 with
          | error x =>
            obtain ⟨er, i⟩ := x
            obtain ⟨hbx, rfl⟩ := sof_err hp hq
            have HBX := hide ((unhide H7).but.trans (But2.of hbx))
            have hQ := unhide HQ
            rw [hq] at hQ
            simp only [sbd_err] at hQ
            have HQE := hide hQ
            clear hp hbx hq hQ HQ
            unfold thr
            go_wp2_with fail
            exact ⟨rfl, tpost_err (unhide HQE) (unhide HBX) rfl⟩
          | ok x =>
            obtain ⟨p8, r8⟩ := x
            obtain ⟨hbx, ⟨NN, hNe, hNl, hNi⟩, hRx⟩ := sof_ok hp hq
            have hQ := unhide HQ
            rw [hq] at hQ
            simp only [sbd_ok] at hQ
            have HQ := hide hQ
            have hx := (unhide H7).next (unhide HS) hbx hRx
            have hsz := (unhide H7).but.size
            have cx := hx.stm.cell (k := 20) rfl
            have fx := hx.stm.fz 20
            have H9 := hide (hx.ls (unhide HS) hNl (hNi.mono (by omega)))
            clear hp hbx hq hQ hRx hx hsz hNl hNi
            subst hNe
            unfold NL.v
            have HNM9 := hide (unhide HNM _ r8 (unhide H9).rdr)
            have HSM := hide (fun t r h => nmS_sm (t := t) (r := r) (unhide H9).rdr h)
            go_wp2_with fail
            clear cx fx
            refine (unhide HNM9).mono ?_
            intro e w9 hp
            cases hq : nmS C.E r8 with
            | error x =>
              obtain ⟨er, i⟩ := x
              obtain ⟨hbx, rfl⟩ := sof_err hp hq
              have HBX := hide ((unhide H9).but.trans (But2.of hbx))
              have hQ := unhide HQ
              rw [hq] at hQ
              simp only [sbd_err] at hQ
              have HQE := hide hQ
              clear hp hbx hq hQ HQ
              unfold thr
              go_wp2_with fail
              exact ⟨rfl, tpost_err (unhide HQE) (unhide HBX) rfl⟩
            | ok x =>
              obtain ⟨t9, r9⟩ := x
              obtain ⟨hbx, rfl, hRx⟩ := sof_ok hp hq
              have htz := unhide HSM _ _ hq
              have hQ := unhide HQ
              rw [hq] at hQ
              simp only [sbd_ok] at hQ
              have HQ := hide hQ
              have hx := (unhide H9).next (unhide HS) hbx hRx
              have cx := hx.stm.cell (k := 18) rfl
              have fx := hx.stm.fz 18
              have H10 := hide (hx.en (unhide HS) htz)
              clear hp hbx hq hQ hRx hx HSM
              go_wp2_with fail
              go_end0
              exact (unhide H10).done (unhide HQ)
        · have q7 : ((t7.k : Int) == 1) = false := bn
          cases h44 : isS t7 ⟨#[44]⟩
          · rw [h44] at HIS
            have hQ := unhide HQ
            rw [if_neg (by intro h; rcases h with h | h; exact hk7 h; rw [h44] at h; cases h)] at hQ
            simp only [sbd_ok] at hQ
            have HQ := hide hQ
            clear hQ hk7 h44
            go_wp2_with fail
            refine (unhide HIS _).mono ?_
            rintro e w8 ⟨rfl, hb8⟩
            have H8 := hide ((unhide H7).below hb8)
            clear hb8 HIS
            have HNM9 := hide (unhide HNM _ r5 (unhide H8).rdr)
            have HSM := hide (fun t r h => nmS_sm (t := t) (r := r) (unhide H8).rdr h)
            go_wp2_with fail
            refine (unhide HNM9).mono ?_
            intro e w9 hp
            cases hq : nmS C.E r5 with
            | error x =>
              obtain ⟨er, i⟩ := x
              obtain ⟨hbx, rfl⟩ := sof_err hp hq
              have HBX := hide ((unhide H8).but.trans (But2.of hbx))
              have hQ := unhide HQ
              rw [hq] at hQ
              simp only [sbd_err] at hQ
              have HQE := hide hQ
              clear hp hbx hq hQ HQ
              unfold thr
              go_wp2_with fail
              exact ⟨rfl, tpost_err (unhide HQE) (unhide HBX) rfl⟩
            | ok x =>
              obtain ⟨t9, r9⟩ := x
              obtain ⟨hbx, rfl, hRx⟩ := sof_ok hp hq
              have htz := unhide HSM _ _ hq
              have hQ := unhide HQ
              rw [hq] at hQ
              simp only [sbd_ok] at hQ
              have HQ := hide hQ
              have hx := (unhide H8).next (unhide HS) hbx hRx
              have cx := hx.stm.cell (k := 18) rfl
              have fx := hx.stm.fz 18
              have H10 := hide (hx.en (unhide HS) htz)
              clear hp hbx hq hQ hRx hx HSM
              go_wp2_with fail
              go_end0
              exact (unhide H10).done (unhide HQ)
          · rw [h44] at HIS
            have hQ := unhide HQ
            rw [if_pos (.inr h44)] at hQ
            have HQ := hide hQ
            clear hQ hk7 h44
            go_wp2_with fail
            refine (unhide HIS _).mono ?_
            rintro e w8 ⟨rfl, hb8⟩
            have H8 := hide ((unhide H7).below hb8)
            clear hb8 HIS
            have HNS8 := hide (unhide HNS _ r5 (unhide H8).rdr)
            have hB8 : B ≤ w.heap.size := hbl
            go_wp2_with fail
            refine (unhide HNS8).mono ?_
            intro e w8b hp
            cases hq : nsS C.E r5 with
            | error x =>
              obtain ⟨er, i⟩ := x
              obtain ⟨hbx, rfl⟩ := sof_err hp hq
              have HBX := hide ((unhide H8).but.trans (But2.of hbx))
              have hQ := unhide HQ
              rw [hq] at hQ
              simp only [sbd_err] at hQ
              have HQE := hide hQ
              clear hp hbx hq hQ HQ
              unfold thr
              go_wp2_with fail
              exact ⟨rfl, tpost_err (unhide HQE) (unhide HBX) rfl⟩
            | ok x =>
              obtain ⟨p8, r8⟩ := x
              obtain ⟨hbx, ⟨NN, hNe, hNl, hNi⟩, hRx⟩ := sof_ok hp hq
              have hQ := unhide HQ
              rw [hq] at hQ
              simp only [sbd_ok] at hQ
              have HQ := hide hQ
              have hx := (unhide H8).next (unhide HS) hbx hRx
              have hsz := (unhide H8).but.size
              have cx := hx.stm.cell (k := 20) rfl
              have fx := hx.stm.fz 20
              have H9 := hide (hx.ls (unhide HS) hNl (hNi.mono (by omega)))
              clear hp hbx hq hQ hRx hx hsz hNl hNi
              subst hNe
              unfold NL.v
              have HNM9 := hide (unhide HNM _ r8 (unhide H9).rdr)
              have HSM := hide (fun t r h => nmS_sm (t := t) (r := r) (unhide H9).rdr h)
              go_wp2_with fail
              clear cx fx
              refine (unhide HNM9).mono ?_
              intro e w9 hp
              cases hq : nmS C.E r8 with
              | error x =>
                obtain ⟨er, i⟩ := x
                obtain ⟨hbx, rfl⟩ := sof_err hp hq
                have HBX := hide ((unhide H9).but.trans (But2.of hbx))
                have hQ := unhide HQ
                rw [hq] at hQ
                simp only [sbd_err] at hQ
                have HQE := hide hQ
                clear hp hbx hq hQ HQ
                unfold thr
                go_wp2_with fail
                exact ⟨rfl, tpost_err (unhide HQE) (unhide HBX) rfl⟩
              | ok x =>
                obtain ⟨t9, r9⟩ := x
                obtain ⟨hbx, rfl, hRx⟩ := sof_ok hp hq
                have htz := unhide HSM _ _ hq
                have hQ := unhide HQ
                rw [hq] at hQ
                simp only [sbd_ok] at hQ
                have HQ := hide hQ
                have hx := (unhide H9).next (unhide HS) hbx hRx
                have cx := hx.stm.cell (k := 18) rfl
                have fx := hx.stm.fz 18
                have H10 := hide (hx.en (unhide HS) htz)
                clear hp hbx hq hQ hRx hx HSM
                go_wp2_with fail
                go_end0
                exact (unhide H10).done (unhide HQ)
end Go.Proofs.YtpkmamgleofimaaGreatDoor

namespace Go.Proofs.YtpkmamgleofimaaGreatDoor
open Go.RowKit

set_option maxHeartbeats 800000 in
theorem evKind_any (m g : Bool) (w : World) : Calls Tryz.prog 97 #[.bool m, .bool g] w fun e w' => e = .returned (.int .i64 (evK m g)) ∧ w' = w := by
  cases m <;> cases g <;> (go_enter Tryz.func97, Tryz.ntmps97; go_wp2_with fail; go_ret; exact ⟨rfl, rfl⟩)
def set5 (w : World) (sb k : Nat) (U : PT) : World := ((((w.setCell ⟨sb, k, none⟩ (.int .i64 U.k)).setCell ⟨sb, k + 1, none⟩ (.string U.t)).setCell ⟨sb, k + 2, none⟩ (.int .i64 U.n)).setCell ⟨sb, k + 3, none⟩ (.string U.nm)).setCell ⟨sb, k + 4, none⟩ (.slice U.xa U.len U.cap)
theorem set5_size (w : World) (sb k : Nat) (U : PT) : (set5 w sb k U).heap.size = w.heap.size := by unfold set5; simp only [World.size_setCell]
theorem set5_other (w : World) (sb k i : Nat) (U : PT) (h : i ≠ sb) : (set5 w sb k U).heap[i]? = w.heap[i]? := by
  unfold set5
  rw [heap_setCell_other _ ⟨sb, k + 4, none⟩ i _ h, heap_setCell_other _ ⟨sb, k + 3, none⟩ i _ h, heap_setCell_other _ ⟨sb, k + 2, none⟩ i _ h, heap_setCell_other _ ⟨sb, k + 1, none⟩ i _ h, heap_setCell_other _ ⟨sb, k, none⟩ i _ h]
theorem set5_same (w : World) (sb k : Nat) (U : PT) {A : Array Value} {t : TypeId} (h : w.heap[sb]? = some (.cells A t (0, 0))) : (set5 w sb k U).heap[sb]? = some (.cells (((((A.setIfInBounds k (.int .i64 U.k)).setIfInBounds (k + 1) (.string U.t)).setIfInBounds (k + 2) (.int .i64 U.n)).setIfInBounds (k + 3) (.string U.nm)).setIfInBounds (k + 4) (.slice U.xa U.len U.cap)) t (0, 0)) := by
  unfold set5
  exact heap_setCell_same _ sb (k + 4) _ _ _ (heap_setCell_same _ sb (k + 3) _ _ _ (heap_setCell_same _ sb (k + 2) _ _ _ (heap_setCell_same _ sb (k + 1) _ _ _ (heap_setCell_same _ sb k _ _ _ h))))
section
variable {C : SyC} {o B sb : Nat} {w W W' : World} {l l' : List Tk} {S P : SV}
theorem But2.set5 {z s : Nat} {a b : World} (h : But2 z s a b) (k : Nat) (U : PT) : But2 z s a (set5 b s k U) := ((((h.set _ _).set _ _).set _ _).set _ _).set _ _
theorem Syr.stm5 {k : Nat} {U : PT} (h : Syr C W l o) (hS : SyS C B sb) : Syr C (set5 W sb k U) l o := ((((h.stm hS).stm hS).stm hS).stm hS).stm hS
theorem StIn.put5 {S' P' : SV} {k : Nat} {U : PT} (h : StIn B sb w S P) (hsb : sb < B) (hc : ((((S.cells.setIfInBounds k (.int .i64 U.k)).setIfInBounds (k + 1) (.string U.t)).setIfInBounds (k + 2) (.int .i64 U.n)).setIfInBounds (k + 3) (.string U.nm)).setIfInBounds (k + 4) (.slice U.xa U.len U.cap) = S'.cells) (hcan : S'.can = P')
    (ht : S'.lab.size ≤ 2000 ∧ S'.nm.size ≤ 2000 ∧ S'.en.size ≤ 2000 ∧ S'.al.size ≤ 2000 ∧ S'.ye.size ≤ 2000 ∧ S'.no.size ≤ 2000) (h1 : Lies B w S'.tg) (h2 : Lies B w S'.va) (h3 : Lies B w S'.pa) (h4 : S'.ps = S.ps) (h5 : S'.ls = S.ls) : StIn B sb (set5 w sb k U) S' P' := by
  have hs : w.heap.size ≤ (Go.Proofs.YtpkmamgleofimaaGreatDoor.set5 w sb k U).heap.size := by rw [set5_size]; exact Nat.le_refl _
  have hb : ∀ i, B ≤ i → i < w.heap.size → (Go.Proofs.YtpkmamgleofimaaGreatDoor.set5 w sb k U).heap[i]? = w.heap[i]? := fun i q _ => set5_other w sb k i U (by omega)
  refine ⟨?_, hcan, ht, h1.step hs hb, h2.step hs hb, h3.step hs hb, by rw [h4]; exact h.ps.step hs hb, by rw [h5]; exact h.ls.step hs hb⟩
  rw [← hc]
  exact set5_same w sb k U h.box
theorem StR.va (h : StR C o B sb w W l S P) (hS : SyS C B sb) {U p : PT} (hc : U.can = p) (hl : Lies B W U) : StR C o B sb w (set5 W sb 7 U) l { S with va := U } { P with va := p } :=
  ⟨h.but.set5 _ _, h.rdr.stm5 hS, h.stm.put5 hS.s rfl (by rw [← h.stm.can, ← hc]; rfl) h.stm.txt h.stm.tg hl h.stm.pa rfl rfl⟩
theorem StR.tg (h : StR C o B sb w W l S P) (hS : SyS C B sb) {U p : PT} (hc : U.can = p) (hl : Lies B W U) : StR C o B sb w (set5 W sb 2 U) l { S with tg := U } { P with tg := p } :=
  ⟨h.but.set5 _ _, h.rdr.stm5 hS, h.stm.put5 hS.s rfl (by rw [← h.stm.can, ← hc]; rfl) h.stm.txt hl h.stm.va h.stm.pa rfl rfl⟩
theorem StR.pa (h : StR C o B sb w W l S P) (hS : SyS C B sb) {U p : PT} (hc : U.can = p) (hl : Lies B W U) : StR C o B sb w (set5 W sb 12 U) l { S with pa := U } { P with pa := p } :=
  ⟨h.but.set5 _ _, h.rdr.stm5 hS, h.stm.put5 hS.s rfl (by rw [← h.stm.can, ← hc]; rfl) h.stm.txt h.stm.tg h.stm.va hl rfl rfl⟩
end
end Go.Proofs.YtpkmamgleofimaaGreatDoor
