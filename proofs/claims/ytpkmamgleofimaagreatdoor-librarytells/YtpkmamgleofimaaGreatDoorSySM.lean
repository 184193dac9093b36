/- The reader of lines: what begins with an expression, the walk. The reader of lines: what a line does. -/
import Derived.Test.YtpkmamgleofimaaGreatDoorSyQM
namespace Go.Proofs.YtpkmamgleofimaaGreatDoor
open Go.RowKit

structure SyT (sb : Nat) : Prop where
  g1 : sb ≠ 4
  g2 : sb ≠ 0
  g3 : sb ≠ 6
theorem cell_but2 {z s g o : Nat} {w w' : World} {v : Value} (hb : But2 z s w w') (h : w.cell? ⟨g, o, none⟩ = some v) (hz : z ≠ g) (hs : s ≠ g) : w'.cell? ⟨g, o, none⟩ = some v := by
  have hg := hb.block g (World.block_lt_of_cell? _ _ h) (fun e => hz e.symm) (fun e => hs e.symm)
  rw [← h]; unfold World.cell?; rw [hg]
theorem SyEnv.but2 {C : SyC} {sb : Nat} {w w' : World} (h : SyEnv C w) (hb : But2 C.z sb w w') (hT : SyT sb) : SyEnv C w' := by
  refine ⟨fun K h1 h2 => ?_, fun K h1 h2 => ?_, cell_but2 hb h.sh0 h.z2 hT.g2, ?_, h.z1, h.z2, h.z3⟩
  · obtain ⟨a, b, c, d⟩ := h.sh K h1 h2
    exact ⟨cell_but2 hb a h.z1 hT.g1, cell_but2 hb b h.z1 hT.g1, cell_but2 hb c h.z1 hT.g1, cell_but2 hb d h.z1 hT.g1⟩
  · obtain ⟨a, b, c, d, e⟩ := h.shx K h1 h2
    exact ⟨cell_but2 hb a h.z2 hT.g2, cell_but2 hb b h.z2 hT.g2, cell_but2 hb c h.z2 hT.g2, cell_but2 hb d h.z2 hT.g2, cell_but2 hb e h.z2 hT.g2⟩
  · obtain ⟨te, pe, q⟩ := h.er
    exact ⟨te, pe, cell_but2 hb q h.z3 hT.g3⟩
structure StX (C : SyC) (B sb : Nat) (w W : World) (l : List Tk) (S P : SV) (xb : Nat) (U x : PT) : Prop where
  st : StR C 0 B sb w W l S P
  box : W.heap[xb]? = some (.cells (patO U) 42 (0, 0))
  can : U.can = x
  lie : Lies B W U
  low : B ≤ xb
section
variable {C : SyC} {B sb xb : Nat} {w W W' : World} {l l' : List Tk} {S P S' P' : SV} {U x : PT}
theorem StX.next (h : StX C B sb w W l S P xb U x) (hS : SyS C B sb) (hb : But C.z W W') (hR : Syr C W' l' 0) : StX C B sb w W' l' S P xb U x :=
  ⟨h.st.next hS hb hR, hb.row (by have := hS.z; have := h.low; omega) h.box, h.can, h.lie.but hb hS.z, h.low⟩
theorem StX.below (h : StX C B sb w W l S P xb U x) (hb : Below W.heap.size W W') : StX C B sb w W' l S P xb U x := ⟨h.st.below hb, row_below h.box hb, h.can, h.lie.below hb, h.low⟩
theorem StX.put (h : StX C B sb w W l S P xb U x) (hS : SyS C B sb) (h1 : StR C 0 B sb w W' l' S' P') (hs : W.heap.size ≤ W'.heap.size) (ho : ∀ i, i ≠ sb → W'.heap[i]? = W.heap[i]?) : StX C B sb w W' l' S' P' xb U x :=
  ⟨h1, (ho xb (by have := hS.s; have := h.low; omega)).trans h.box, h.can, h.lie.step hs fun i q _ => ho i (by have := hS.s; omega), h.low⟩
end
set_option maxRecDepth 100000 in
set_option maxHeartbeats 16000000 in
theorem seval_any {C : SyC} {l : List Tk} {B sb : Nat} {S P : SV} (w : World) (hS : SyS C B sb) (hT : SyT sb) (hR : Syr C w l 0) (hE : SyEnv C w) (hI : StIn B sb w S P) (hBw : B ≤ w.heap.size) (htg : P.tg = PT.nul) (hpa : P.pa = PT.nul) : Calls Tryz.prog 73 #[.pointer (some ⟨C.z, 0, none⟩), .pointer (some ⟨sb, 0, none⟩)] w fun e w' => StPost C 0 B sb w (evS C.E 400 P l) e w' := by
  obtain ⟨pl, pk, ptg, pva, ppa, pnm, pen, pps, pls, pal, pye, pno⟩ := P
  have htg : ptg = PT.nul := htg
  have hpa : ppa = PT.nul := hpa
  subst htg hpa
  have H0 : Hid (StR C 0 B sb w w l S _) := hide (⟨But2.refl _ _ _, hR, hI⟩)
  have HS := hide hS
  have HTT := hide hT
  have HE := hide hE
  have HAT := hide (sat_any w hR)
  have HXP : Hid (∀ l w, Syr C w l 0 → SyEnv C w → Calls Tryz.prog 95 #[.pointer (some ⟨C.z, 0, none⟩)] w fun e w' => SyPost (patL w.heap.size) C 0 w (exS C.E 400 l) e w') := hide (fun l w h k => (sall_any 400 (Nat.le_refl _)).2.2.2 C l w h k)
  have HPT := hide (fun w l h k => spattern_any (C := C) (l := l) (o := 0) w h k)
  have HTH := hide (fun w => sthrow_any 8 (ahd C.E 0 l).a w)
  have HQY := hide (fun w l h q => stake_yes (C := C) (l := l) (o := 0) (sgn 63) w h q)
  have HQN := hide (fun w l h q => stake_no (C := C) (l := l) (o := 0) (sgn 63) w h q)
  have HGY := hide (fun w l h q => stake_yes (C := C) (l := l) (o := 0) (sgn 61) w h q)
  have HGN := hide (fun w l h q => stake_no (C := C) (l := l) (o := 0) (sgn 61) w h q)
  obtain ⟨RR, hRR⟩ : ∃ RR, RR = evS C.E 400 ⟨pl, pk, PT.nul, pva, PT.nul, pnm, pen, pps, pls, pal, pye, pno⟩ l := ⟨_, rfl⟩
  rw [← hRR]
  unfold evS at hRR
  have HQ := hide hRR
  have hBz : C.z < B := hS.z
  have hBs : sb < B := hS.s
  clear hR hE hI hS hT hRR
  unfold sgn at HQY HQN HGY HGN
  generalize (ahd C.E 0 l).a = a0 at *
  generalize hXF : exS C.E 400 = XF at *
  have HXF := hide hXF
  clear hXF
  go_enter Tryz.func73, Tryz.ntmps73
  go_wp2_with fail
  refine (unhide HAT).mono ?_
  rintro e w1 ⟨rfl, hb1⟩
  have H1 := hide ((unhide H0).below hb1)
  have HX1 := hide (unhide HXP l w1 (unhide H1).rdr ((unhide HE).but2 (unhide H1).but (unhide HTT)))
  clear hb1 HAT
  go_wp2_with fail
  refine (unhide HX1).mono ?_
  intro e w2 hp
  cases hq : XF l with
  | error y =>
    obtain ⟨er, i⟩ := y
    obtain ⟨hbx, rfl⟩ := sof_err hp hq
    have HBX := hide ((unhide H1).but.trans (But2.of hbx))
    have hQ := unhide HQ
    rw [hq] at hQ
    simp only [sbd_err] at hQ
    have HQE := hide hQ
    clear hp hbx hq hQ HQ
    unfold thr
    go_wp2_with fail
    exact ⟨rfl, tpost_err (unhide HQE) (unhide HBX) rfl⟩
  | ok y =>
    obtain ⟨x, r1⟩ := y
    obtain ⟨hbx, ⟨U, rfl, hcan, hlie⟩, hRx⟩ := sof_ok hp hq
    have hQ := unhide HQ
    rw [hq] at hQ
    simp only [sbd_ok] at hQ
    unfold evP at hQ
    unfold sgn at hQ
    have HQ := hide hQ
    have hx2 := (unhide H1).next (unhide HS) hbx hRx
    have hal : Below w2.heap.size w2 (w2.alloc (.cells (patO U) 42)) := ba _
    have hs2 : B ≤ w1.heap.size := Nat.le_trans hBw (unhide H1).but.size
    have H3 : Hid (StX C B sb w (w2.alloc (.cells (patO U) 42)) r1 S _ w2.heap.size U x) := hide (⟨hx2.below hal, at_new rfl, hcan, (hlie.mono hs2).below hal, by have := hbx.size; omega⟩)
    clear hp hbx hq hQ hcan hlie hRx hx2 hal HX1 H1
    unfold pv
    unfold patO at H3
    generalize hxb : w2.heap.size = xb at *
    go_wp2_with fail
    clear hxb
    cases hm : isS (ahd C.E 0 r1) ⟨#[63]⟩
    · have hQ := unhide HQ
      rw [if_neg (by rw [hm]; decide)] at hQ
      simp only [sbd_ok] at hQ
      unfold evG at hQ
      unfold sgn at hQ
      rw [unhide HXF] at hQ
      have HQ := hide hQ
      have HT4 := hide (unhide HQN _ r1 (unhide H3).st.rdr hm)
      clear hQ hm
      refine (unhide HT4).mono ?_
      rintro e w4 ⟨rfl, hb4⟩
      have H4 := hide ((unhide H3).below hb4)
      clear hb4 HT4 H3
      go_wp2_with fail
      have HKF := hide (fun w => evKind_any false false w)
      have HKT := hide (fun w => evKind_any false true w)
      cases hg : isS (ahd C.E 0 r1) ⟨#[61]⟩
      · have hQ := unhide HQ
        rw [if_neg (by rw [hg]; decide)] at hQ
        simp only [sbd_ok] at hQ
        have HQ := hide hQ
        have HT6 := hide (unhide HGN _ r1 (unhide H4).st.rdr hg)
        clear hQ hg HKT
        refine (unhide HT6).mono ?_
        rintro e w6 ⟨rfl, hb6⟩
        have H6 := hide ((unhide H4).below hb6)
        clear hb6 HT6 H4
        go_wp2_with fail
        refine (unhide HKF _).mono ?_
        rintro e w7 ⟨rfl, rfl⟩
        have h6 := unhide H6
        have c1 := h6.st.stm.cell (k := 1) rfl
        have f1 := h6.st.stm.fz 1
        have h7 := h6.put (unhide HS) (h6.st.kd (unhide HS) (evK false false)) (by rw [World.size_setCell]; exact Nat.le_refl _) (fun i hi => heap_setCell_other _ ⟨sb, 1, none⟩ i _ hi)
        obtain ⟨xa0, xa1, xa2, xa3, xa4⟩ := cells5 h7.box
        have c7 := h7.st.stm.cell (k := 7) rfl
        have c8 := h7.st.stm.cell (k := 8) rfl
        have c9 := h7.st.stm.cell (k := 9) rfl
        have c10 := h7.st.stm.cell (k := 10) rfl
        have c11 := h7.st.stm.cell (k := 11) rfl
        have f7 := h7.st.stm.fz 7
        have f8 := h7.st.stm.fz 8
        have f9 := h7.st.stm.fz 9
        have f10 := h7.st.stm.fz 10
        have f11 := h7.st.stm.fz 11
        have H8 := hide (h7.put (unhide HS) (h7.st.va (unhide HS) h7.can h7.lie) (by rw [set5_size]; exact Nat.le_refl _) (fun i hi => set5_other _ _ _ _ _ hi))
        clear h6 h7
        unfold set5 at H8
        simp only [Nat.reduceAdd] at H8
        go_wp2_with fail
        go_end0
        exact (unhide H8).st.done (unhide HQ)
      · have hQ := unhide HQ
        rw [if_pos hg] at hQ
        have HQ := hide hQ
        have HT6 := hide (unhide HGY _ r1 (unhide H4).st.rdr hg)
        clear hQ hg HKF
        refine (unhide HT6).mono ?_
        rintro e w6 ⟨rfl, hb6, hR6⟩
        have H6 := hide ((unhide H4).next (unhide HS) hb6 hR6)
        clear hb6 hR6 HT6 H4
        obtain ⟨xa0, xa1, xa2, xa3, xa4⟩ := cells5 (unhide H6).box
        have HPL := hide (fun w => isPlace_any U.k w)
        have HUX : Hid (U.k = x.k) := hide (by rw [← (unhide H6).can, can_k])
        go_wp2_with fail
        cases hpl : isPl U.k
        · rw [hpl] at HPL
          have hQ := unhide HQ
          rw [← unhide HUX, if_neg (by rw [hpl]; decide)] at hQ
          simp only [sbd_err] at hQ
          have HQ := hide hQ
          clear hQ hpl HUX
          refine (unhide HPL _).mono ?_
          rintro e w7 ⟨rfl, rfl⟩
          go_wp2_with fail
          refine (unhide HTH _).mono ?_
          rintro e w7 ⟨rfl, rfl⟩
          unfold thr
          go_wp2_with fail
          exact ⟨rfl, tpost_err (unhide HQ) (unhide H6).st.but rfl⟩
        · rw [hpl] at HPL
          have hQ := unhide HQ
          rw [← unhide HUX, if_pos hpl] at hQ
          have HQ := hide hQ
          clear hQ hpl HUX
          refine (unhide HPL _).mono ?_
          rintro e w7 ⟨rfl, rfl⟩
          clear xa0 xa1 xa2 xa3 xa4 HPL
          go_wp2_with fail
          refine (unhide HKT _).mono ?_
          rintro e w7 ⟨rfl, rfl⟩
          have h6 := unhide H6
          have c1 := h6.st.stm.cell (k := 1) rfl
          have f1 := h6.st.stm.fz 1
          have h7 := h6.put (unhide HS) (h6.st.kd (unhide HS) (evK false true)) (by rw [World.size_setCell]; exact Nat.le_refl _) (fun i hi => heap_setCell_other _ ⟨sb, 1, none⟩ i _ hi)
          obtain ⟨xa0, xa1, xa2, xa3, xa4⟩ := cells5 h7.box
          have c7 := h7.st.stm.cell (k := 7) rfl
          have c8 := h7.st.stm.cell (k := 8) rfl
          have c9 := h7.st.stm.cell (k := 9) rfl
          have c10 := h7.st.stm.cell (k := 10) rfl
          have c11 := h7.st.stm.cell (k := 11) rfl
          have f7 := h7.st.stm.fz 7
          have f8 := h7.st.stm.fz 8
          have f9 := h7.st.stm.fz 9
          have f10 := h7.st.stm.fz 10
          have f11 := h7.st.stm.fz 11
          have H8 := hide (h7.put (unhide HS) (h7.st.va (unhide HS) h7.can h7.lie) (by rw [set5_size]; exact Nat.le_refl _) (fun i hi => set5_other _ _ _ _ _ hi))
          clear h6 h7
          unfold set5 at H8
          simp only [Nat.reduceAdd] at H8
          go_wp2_with fail
          have h8 := unhide H8
          clear H8 c1 f1 xa0 xa1 xa2 xa3 xa4 c7 c8 c9 c10 c11 f7 f8 f9 f10 f11
          obtain ⟨w9, hw9⟩ : ∃ w9, w9 = ((((((w7.setCell ⟨sb, 1, none⟩ (.int .i64 (evK false true))).setCell ⟨sb, 7, none⟩ (.int .i64 U.k)).setCell ⟨sb, 8, none⟩ (.string U.t)).setCell ⟨sb, 9, none⟩ (.int .i64 U.n)).setCell ⟨sb, 10, none⟩ (.string U.nm)).setCell ⟨sb, 11, none⟩ (.slice U.xa U.len U.cap)) := ⟨_, rfl⟩
          rw [← hw9] at h8 ⊢
          clear hw9
          have H8 := hide h8
          obtain ⟨s0, s1, s2, s3, s4⟩ := cells5 h8.box
          obtain ⟨S0, hS0⟩ : ∃ S0 : World → Prop, S0 = fun w' => w'.cell? ⟨xb, 0, none⟩ = some (.int .i64 U.k) ∧ w'.cell? ⟨xb, 1, none⟩ = some (.string U.t) ∧ w'.cell? ⟨xb, 2, none⟩ = some (.int .i64 U.n) ∧ w'.cell? ⟨xb, 3, none⟩ = some (.string U.nm) ∧ w'.cell? ⟨xb, 4, none⟩ = some (.slice U.xa U.len U.cap) := ⟨_, rfl⟩
          have HS0 := hide hS0
          have hS0w : S0 w9.drew := by rw [hS0]; exact ⟨s0, s1, s2, s3, s4⟩
          have HKE : Hid (∀ W, W.heap[xb]? = some (.cells (patO U) 42 (0, 0)) → S0 W) := hide (fun W h => by rw [hS0]; exact cells5 h)
          have H8d := hide (h8.below (Below.refl _ _).drew)
          have HRC := hide (unhide HXP r1.tail w9.drew (unhide H8d).st.rdr ((unhide HE).but2 (unhide H8d).st.but (unhide HTT)))
          clear hS0 h8
          refine startQ 10 S0 ?_
          intro F
          refine takeR F 0 HS0 hS0w ?_
          (try simp only [List.getElem_toArray, List.getElem_cons_zero])
          (try go_frame)
          refine takeR F 1 HS0 hS0w ?_
          (try simp only [List.getElem_toArray, List.getElem_cons_succ, List.getElem_cons_zero])
          (try go_frame)
          refine takeR F 2 HS0 hS0w ?_
          (try simp only [List.getElem_toArray, List.getElem_cons_succ, List.getElem_cons_zero])
          (try go_frame)
          refine takeR F 3 HS0 hS0w ?_
          (try simp only [List.getElem_toArray, List.getElem_cons_succ, List.getElem_cons_zero])
          (try go_frame)
          refine stepQ 4 (fun K2 hK2 => ?_)
          go_simp
          refine (unhide HRC).mono ?_
          intro e w10 hp
          cases hq : XF r1.tail with
          | error y =>
            obtain ⟨er, i⟩ := y
            obtain ⟨hbx, rfl⟩ := sof_err hp hq
            have HBX := hide ((unhide H8d).st.but.trans (But2.of hbx))
            have hQ := unhide HQ
            rw [hq] at hQ
            simp only [sbd_err] at hQ
            have HQE := hide hQ
            clear hp hbx hq hQ HQ
            unfold thr
            exact ⟨rfl, tpost_err (unhide HQE) (unhide HBX) rfl⟩
          | ok y =>
            obtain ⟨yy, r9⟩ := y
            obtain ⟨hbx, ⟨V2, rfl, hcan2, hlie2⟩, hRx⟩ := sof_ok hp hq
            have hQ := unhide HQ
            rw [hq] at hQ
            simp only [sbd_ok] at hQ
            have HQ := hide hQ
            have hs9 := (unhide H8d).st.but.size
            have h10 := (unhide H8d).next (unhide HS) hbx hRx
            have hl10 : Lies B w10 V2 := hlie2.mono (by omega)
            have H10 := hide h10
            clear hp hbx hq hQ hlie2 hRx hS0w
            unfold pv
            refine hK2 _ _ (unhide HKE _ h10.box) ?_
            have hS0w : S0 w10 := unhide HKE _ h10.box
            refine takeR F 5 HS0 hS0w ?_
            (try simp only [List.getElem_toArray, List.getElem_cons_succ, List.getElem_cons_zero])
            (try go_frame)
            refine takeR F 6 HS0 hS0w ?_
            (try simp only [List.getElem_toArray, List.getElem_cons_succ, List.getElem_cons_zero])
            (try go_frame)
            have c2 := h10.st.stm.cell (k := 2) rfl
            have f2 := h10.st.stm.fz 2
            have c3 := h10.st.stm.cell (k := 3) rfl
            have f3 := h10.st.stm.fz 3
            have c4 := h10.st.stm.cell (k := 4) rfl
            have f4 := h10.st.stm.fz 4
            have c5 := h10.st.stm.cell (k := 5) rfl
            have f5 := h10.st.stm.fz 5
            have c6 := h10.st.stm.cell (k := 6) rfl
            have f6 := h10.st.stm.fz 6
            refine stepQ 7 (fun K3 hK3 => ?_)
            go_simp
            have h11 := h10.put (unhide HS) (h10.st.tg (unhide HS) h10.can h10.lie) (by rw [set5_size]; exact Nat.le_refl _) (fun i hi => set5_other _ _ _ _ _ hi)
            have hl11 : Lies B (set5 w10 sb 2 U) V2 := hl10.step (by rw [set5_size]; exact Nat.le_refl _) fun i hi _ => set5_other _ _ _ _ _ (by omega)
            refine hK3 _ _ (unhide HKE _ h11.box) ?_
            clear hS0w c2 c3 c4 c5 c6 f2 f3 f4 f5 f6
            have h11 : StX C B sb w (((((w10.setCell ⟨sb, 2, none⟩ (.int .i64 U.k)).setCell ⟨sb, 3, none⟩ (.string U.t)).setCell ⟨sb, 4, none⟩ (.int .i64 U.n)).setCell ⟨sb, 5, none⟩ (.string U.nm)).setCell ⟨sb, 6, none⟩ (.slice U.xa U.len U.cap)) r9 _ _ xb U x := h11
            have hl11 : Lies B (((((w10.setCell ⟨sb, 2, none⟩ (.int .i64 U.k)).setCell ⟨sb, 3, none⟩ (.string U.t)).setCell ⟨sb, 4, none⟩ (.int .i64 U.n)).setCell ⟨sb, 5, none⟩ (.string U.nm)).setCell ⟨sb, 6, none⟩ (.slice U.xa U.len U.cap)) V2 := hl11
            generalize (((((w10.setCell ⟨sb, 2, none⟩ (.int .i64 U.k)).setCell ⟨sb, 3, none⟩ (.string U.t)).setCell ⟨sb, 4, none⟩ (.int .i64 U.n)).setCell ⟨sb, 5, none⟩ (.string U.nm)).setCell ⟨sb, 6, none⟩ (.slice U.xa U.len U.cap)) = w11 at *
            have hS0w : S0 w11 := unhide HKE _ h11.box
            refine takeR F 8 HS0 hS0w ?_
            (try simp only [List.getElem_toArray, List.getElem_cons_succ, List.getElem_cons_zero])
            (try go_frame)
            refine takeR F 9 HS0 hS0w ?_
            (try simp only [List.getElem_toArray, List.getElem_cons_succ, List.getElem_cons_zero])
            (try go_frame)
            have d7 := h11.st.stm.cell (k := 7) rfl
            have g7 := h11.st.stm.fz 7
            have d8 := h11.st.stm.cell (k := 8) rfl
            have g8 := h11.st.stm.fz 8
            have d9 := h11.st.stm.cell (k := 9) rfl
            have g9 := h11.st.stm.fz 9
            have d10 := h11.st.stm.cell (k := 10) rfl
            have g10 := h11.st.stm.fz 10
            have d11 := h11.st.stm.cell (k := 11) rfl
            have g11 := h11.st.stm.fz 11
            refine lastE (by kernel_rfl) rfl (by kernel_rfl) (fun K4 hK4 => ?_)
            go_simp
            refine hK4 _ _ ?_
            (try simp only [List.getElem_toArray, List.getElem_cons_succ, List.getElem_cons_zero])
            (try go_frame)
            have HEND := hide (h11.put (unhide HS) (h11.st.va (unhide HS) hcan2 hl11) (by rw [set5_size]; exact Nat.le_refl _) (fun i hi => set5_other _ _ _ _ _ hi)).st
            clear hK4 hK3 hK2 K4 K3 K2 F hS0w HS0 HKE h10 h11 hl10 hl11 hcan2 hs9
            go_wp2_with fail
            go_end0
            exact (unhide HEND).done (unhide HQ)
    · have hQ := unhide HQ
      rw [if_pos hm] at hQ
      have HQ := hide hQ
      have HT4 := hide (unhide HQY _ r1 (unhide H3).st.rdr hm)
      clear hQ hm
      refine (unhide HT4).mono ?_
      rintro e w4 ⟨rfl, hb4, hR4⟩
      have H3b := hide ((unhide H3).next (unhide HS) hb4 hR4)
      have HP4 := hide (unhide HPT w4 r1.tail hR4 ((unhide HE).but2 (unhide H3b).st.but (unhide HTT)))
      clear hb4 hR4 HT4 H3
      go_wp2_with fail
      refine (unhide HP4).mono ?_
      intro e w5 hp
      cases hq : ptS C.E r1.tail with
      | error y =>
        obtain ⟨er, i⟩ := y
        obtain ⟨hbx, rfl⟩ := sof_err hp hq
        have HBX := hide ((unhide H3b).st.but.trans (But2.of hbx))
        have hQ := unhide HQ
        rw [hq] at hQ
        simp only [sbd_err] at hQ
        have HQE := hide hQ
        clear hp hbx hq hQ HQ
        unfold thr
        go_wp2_with fail
        exact ⟨rfl, tpost_err (unhide HQE) (unhide HBX) rfl⟩
      | ok y =>
        obtain ⟨pp, r2⟩ := y
        obtain ⟨hbx, ⟨V, rfl, hcan, hlie⟩, hRx⟩ := sof_ok hp hq
        have hQ := unhide HQ
        rw [hq] at hQ
        simp only [sbd_ok] at hQ
        unfold evG at hQ
        unfold sgn at hQ
        rw [unhide HXF] at hQ
        have HQ := hide hQ
        have hs4 := (unhide H3b).st.but.size
        have hx5 := (unhide H3b).next (unhide HS) hbx hRx
        have c12 := hx5.st.stm.cell (k := 12) rfl
        have c13 := hx5.st.stm.cell (k := 13) rfl
        have c14 := hx5.st.stm.cell (k := 14) rfl
        have c15 := hx5.st.stm.cell (k := 15) rfl
        have c16 := hx5.st.stm.cell (k := 16) rfl
        have f12 := hx5.st.stm.fz 12
        have f13 := hx5.st.stm.fz 13
        have f14 := hx5.st.stm.fz 14
        have f15 := hx5.st.stm.fz 15
        have f16 := hx5.st.stm.fz 16
        have H4 := hide (hx5.put (unhide HS) (hx5.st.pa (unhide HS) hcan (hlie.mono (by omega))) (by rw [set5_size]; exact Nat.le_refl _) (fun i hi => set5_other _ _ _ _ _ hi))
        clear hp hbx hq hQ hcan hlie hRx hx5 HP4 H3b hs4
        unfold pv
        unfold set5 at H4
        go_wp2_with fail
        clear c12 c13 c14 c15 c16 f12 f13 f14 f15 f16
        have HKF := hide (fun w => evKind_any true false w)
        have HKT := hide (fun w => evKind_any true true w)
        cases hg : isS (ahd C.E 0 r2) ⟨#[61]⟩
        · have hQ := unhide HQ
          rw [if_neg (by rw [hg]; decide)] at hQ
          simp only [sbd_ok] at hQ
          have HQ := hide hQ
          have HT6 := hide (unhide HGN _ r2 (unhide H4).st.rdr hg)
          clear hQ hg HKT
          refine (unhide HT6).mono ?_
          rintro e w6 ⟨rfl, hb6⟩
          have H6 := hide ((unhide H4).below hb6)
          clear hb6 HT6 H4
          go_wp2_with fail
          refine (unhide HKF _).mono ?_
          rintro e w7 ⟨rfl, rfl⟩
          have h6 := unhide H6
          have c1 := h6.st.stm.cell (k := 1) rfl
          have f1 := h6.st.stm.fz 1
          have h7 := h6.put (unhide HS) (h6.st.kd (unhide HS) (evK true false)) (by rw [World.size_setCell]; exact Nat.le_refl _) (fun i hi => heap_setCell_other _ ⟨sb, 1, none⟩ i _ hi)
          obtain ⟨xa0, xa1, xa2, xa3, xa4⟩ := cells5 h7.box
          have c7 := h7.st.stm.cell (k := 7) rfl
          have c8 := h7.st.stm.cell (k := 8) rfl
          have c9 := h7.st.stm.cell (k := 9) rfl
          have c10 := h7.st.stm.cell (k := 10) rfl
          have c11 := h7.st.stm.cell (k := 11) rfl
          have f7 := h7.st.stm.fz 7
          have f8 := h7.st.stm.fz 8
          have f9 := h7.st.stm.fz 9
          have f10 := h7.st.stm.fz 10
          have f11 := h7.st.stm.fz 11
          have H8 := hide (h7.put (unhide HS) (h7.st.va (unhide HS) h7.can h7.lie) (by rw [set5_size]; exact Nat.le_refl _) (fun i hi => set5_other _ _ _ _ _ hi))
          clear h6 h7
          unfold set5 at H8
          simp only [Nat.reduceAdd] at H8
          go_wp2_with fail
          go_end0
          exact (unhide H8).st.done (unhide HQ)
        · have hQ := unhide HQ
          rw [if_pos hg] at hQ
          have HQ := hide hQ
          have HT6 := hide (unhide HGY _ r2 (unhide H4).st.rdr hg)
          clear hQ hg HKF
          refine (unhide HT6).mono ?_
          rintro e w6 ⟨rfl, hb6, hR6⟩
          have H6 := hide ((unhide H4).next (unhide HS) hb6 hR6)
          clear hb6 hR6 HT6 H4
          obtain ⟨xa0, xa1, xa2, xa3, xa4⟩ := cells5 (unhide H6).box
          have HPL := hide (fun w => isPlace_any U.k w)
          have HUX : Hid (U.k = x.k) := hide (by rw [← (unhide H6).can, can_k])
          go_wp2_with fail
          cases hpl : isPl U.k
          · rw [hpl] at HPL
            have hQ := unhide HQ
            rw [← unhide HUX, if_neg (by rw [hpl]; decide)] at hQ
            simp only [sbd_err] at hQ
            have HQ := hide hQ
            clear hQ hpl HUX
            refine (unhide HPL _).mono ?_
            rintro e w7 ⟨rfl, rfl⟩
            go_wp2_with fail
            refine (unhide HTH _).mono ?_
            rintro e w7 ⟨rfl, rfl⟩
            unfold thr
            go_wp2_with fail
            exact ⟨rfl, tpost_err (unhide HQ) (unhide H6).st.but rfl⟩
          · rw [hpl] at HPL
            have hQ := unhide HQ
            rw [← unhide HUX, if_pos hpl] at hQ
            have HQ := hide hQ
            clear hQ hpl HUX
            refine (unhide HPL _).mono ?_
            rintro e w7 ⟨rfl, rfl⟩
            clear xa0 xa1 xa2 xa3 xa4 HPL
            go_wp2_with fail
            refine (unhide HKT _).mono ?_
            rintro e w7 ⟨rfl, rfl⟩
            have h6 := unhide H6
            have c1 := h6.st.stm.cell (k := 1) rfl
            have f1 := h6.st.stm.fz 1
            have h7 := h6.put (unhide HS) (h6.st.kd (unhide HS) (evK true true)) (by rw [World.size_setCell]; exact Nat.le_refl _) (fun i hi => heap_setCell_other _ ⟨sb, 1, none⟩ i _ hi)
            obtain ⟨xa0, xa1, xa2, xa3, xa4⟩ := cells5 h7.box
            have c7 := h7.st.stm.cell (k := 7) rfl
            have c8 := h7.st.stm.cell (k := 8) rfl
            have c9 := h7.st.stm.cell (k := 9) rfl
            have c10 := h7.st.stm.cell (k := 10) rfl
            have c11 := h7.st.stm.cell (k := 11) rfl
            have f7 := h7.st.stm.fz 7
            have f8 := h7.st.stm.fz 8
            have f9 := h7.st.stm.fz 9
            have f10 := h7.st.stm.fz 10
            have f11 := h7.st.stm.fz 11
            have H8 := hide (h7.put (unhide HS) (h7.st.va (unhide HS) h7.can h7.lie) (by rw [set5_size]; exact Nat.le_refl _) (fun i hi => set5_other _ _ _ _ _ hi))
            clear h6 h7
            unfold set5 at H8
            simp only [Nat.reduceAdd] at H8
            go_wp2_with fail
            have h8 := unhide H8
            clear H8 c1 f1 xa0 xa1 xa2 xa3 xa4 c7 c8 c9 c10 c11 f7 f8 f9 f10 f11
            obtain ⟨w9, hw9⟩ : ∃ w9, w9 = ((((((w7.setCell ⟨sb, 1, none⟩ (.int .i64 (evK true true))).setCell ⟨sb, 7, none⟩ (.int .i64 U.k)).setCell ⟨sb, 8, none⟩ (.string U.t)).setCell ⟨sb, 9, none⟩ (.int .i64 U.n)).setCell ⟨sb, 10, none⟩ (.string U.nm)).setCell ⟨sb, 11, none⟩ (.slice U.xa U.len U.cap)) := ⟨_, rfl⟩
            rw [← hw9] at h8 ⊢
            clear hw9
            have H8 := hide h8
            obtain ⟨s0, s1, s2, s3, s4⟩ := cells5 h8.box
            obtain ⟨S0, hS0⟩ : ∃ S0 : World → Prop, S0 = fun w' => w'.cell? ⟨xb, 0, none⟩ = some (.int .i64 U.k) ∧ w'.cell? ⟨xb, 1, none⟩ = some (.string U.t) ∧ w'.cell? ⟨xb, 2, none⟩ = some (.int .i64 U.n) ∧ w'.cell? ⟨xb, 3, none⟩ = some (.string U.nm) ∧ w'.cell? ⟨xb, 4, none⟩ = some (.slice U.xa U.len U.cap) := ⟨_, rfl⟩
            have HS0 := hide hS0
            have hS0w : S0 w9.drew := by rw [hS0]; exact ⟨s0, s1, s2, s3, s4⟩
            have HKE : Hid (∀ W, W.heap[xb]? = some (.cells (patO U) 42 (0, 0)) → S0 W) := hide (fun W h => by rw [hS0]; exact cells5 h)
            have H8d := hide (h8.below (Below.refl _ _).drew)
            have HRC := hide (unhide HXP r2.tail w9.drew (unhide H8d).st.rdr ((unhide HE).but2 (unhide H8d).st.but (unhide HTT)))
            clear hS0 h8
            refine startQ 10 S0 ?_
            intro F
            refine takeR F 0 HS0 hS0w ?_
            (try simp only [List.getElem_toArray, List.getElem_cons_zero])
            (try go_frame)
            refine takeR F 1 HS0 hS0w ?_
            (try simp only [List.getElem_toArray, List.getElem_cons_succ, List.getElem_cons_zero])
            (try go_frame)
            refine takeR F 2 HS0 hS0w ?_
            (try simp only [List.getElem_toArray, List.getElem_cons_succ, List.getElem_cons_zero])
            (try go_frame)
            refine takeR F 3 HS0 hS0w ?_
            (try simp only [List.getElem_toArray, List.getElem_cons_succ, List.getElem_cons_zero])
            (try go_frame)
            refine stepQ 4 (fun K2 hK2 => ?_)
            go_simp
            refine (unhide HRC).mono ?_
            intro e w10 hp
            cases hq : XF r2.tail with
            | error y =>
              obtain ⟨er, i⟩ := y
              obtain ⟨hbx, rfl⟩ := sof_err hp hq
              have HBX := hide ((unhide H8d).st.but.trans (But2.of hbx))
              have hQ := unhide HQ
              rw [hq] at hQ
              simp only [sbd_err] at hQ
              have HQE := hide hQ
              clear hp hbx hq hQ HQ
              unfold thr
              exact ⟨rfl, tpost_err (unhide HQE) (unhide HBX) rfl⟩
            | ok y =>
              obtain ⟨yy, r9⟩ := y
              obtain ⟨hbx, ⟨V2, rfl, hcan2, hlie2⟩, hRx⟩ := sof_ok hp hq
              have hQ := unhide HQ
              rw [hq] at hQ
              simp only [sbd_ok] at hQ
              have HQ := hide hQ
              have hs9 := (unhide H8d).st.but.size
              have h10 := (unhide H8d).next (unhide HS) hbx hRx
              have hl10 : Lies B w10 V2 := hlie2.mono (by omega)
              have H10 := hide h10
              clear hp hbx hq hQ hlie2 hRx hS0w
              unfold pv
              refine hK2 _ _ (unhide HKE _ h10.box) ?_
              have hS0w : S0 w10 := unhide HKE _ h10.box
              refine takeR F 5 HS0 hS0w ?_
              (try simp only [List.getElem_toArray, List.getElem_cons_succ, List.getElem_cons_zero])
              (try go_frame)
              refine takeR F 6 HS0 hS0w ?_
              (try simp only [List.getElem_toArray, List.getElem_cons_succ, List.getElem_cons_zero])
              (try go_frame)
              have c2 := h10.st.stm.cell (k := 2) rfl
              have f2 := h10.st.stm.fz 2
              have c3 := h10.st.stm.cell (k := 3) rfl
              have f3 := h10.st.stm.fz 3
              have c4 := h10.st.stm.cell (k := 4) rfl
              have f4 := h10.st.stm.fz 4
              have c5 := h10.st.stm.cell (k := 5) rfl
              have f5 := h10.st.stm.fz 5
              have c6 := h10.st.stm.cell (k := 6) rfl
              have f6 := h10.st.stm.fz 6
              refine stepQ 7 (fun K3 hK3 => ?_)
              go_simp
              have h11 := h10.put (unhide HS) (h10.st.tg (unhide HS) h10.can h10.lie) (by rw [set5_size]; exact Nat.le_refl _) (fun i hi => set5_other _ _ _ _ _ hi)
              have hl11 : Lies B (set5 w10 sb 2 U) V2 := hl10.step (by rw [set5_size]; exact Nat.le_refl _) fun i hi _ => set5_other _ _ _ _ _ (by omega)
              refine hK3 _ _ (unhide HKE _ h11.box) ?_
              clear hS0w c2 c3 c4 c5 c6 f2 f3 f4 f5 f6
              have h11 : StX C B sb w (((((w10.setCell ⟨sb, 2, none⟩ (.int .i64 U.k)).setCell ⟨sb, 3, none⟩ (.string U.t)).setCell ⟨sb, 4, none⟩ (.int .i64 U.n)).setCell ⟨sb, 5, none⟩ (.string U.nm)).setCell ⟨sb, 6, none⟩ (.slice U.xa U.len U.cap)) r9 _ _ xb U x := h11
              have hl11 : Lies B (((((w10.setCell ⟨sb, 2, none⟩ (.int .i64 U.k)).setCell ⟨sb, 3, none⟩ (.string U.t)).setCell ⟨sb, 4, none⟩ (.int .i64 U.n)).setCell ⟨sb, 5, none⟩ (.string U.nm)).setCell ⟨sb, 6, none⟩ (.slice U.xa U.len U.cap)) V2 := hl11
              generalize (((((w10.setCell ⟨sb, 2, none⟩ (.int .i64 U.k)).setCell ⟨sb, 3, none⟩ (.string U.t)).setCell ⟨sb, 4, none⟩ (.int .i64 U.n)).setCell ⟨sb, 5, none⟩ (.string U.nm)).setCell ⟨sb, 6, none⟩ (.slice U.xa U.len U.cap)) = w11 at *
              have hS0w : S0 w11 := unhide HKE _ h11.box
              refine takeR F 8 HS0 hS0w ?_
              (try simp only [List.getElem_toArray, List.getElem_cons_succ, List.getElem_cons_zero])
              (try go_frame)
              refine takeR F 9 HS0 hS0w ?_
              (try simp only [List.getElem_toArray, List.getElem_cons_succ, List.getElem_cons_zero])
              (try go_frame)
              have d7 := h11.st.stm.cell (k := 7) rfl
              have g7 := h11.st.stm.fz 7
              have d8 := h11.st.stm.cell (k := 8) rfl
              have g8 := h11.st.stm.fz 8
              have d9 := h11.st.stm.cell (k := 9) rfl
              have g9 := h11.st.stm.fz 9
              have d10 := h11.st.stm.cell (k := 10) rfl
              have g10 := h11.st.stm.fz 10
              have d11 := h11.st.stm.cell (k := 11) rfl
              have g11 := h11.st.stm.fz 11
              refine lastE (by kernel_rfl) rfl (by kernel_rfl) (fun K4 hK4 => ?_)
              go_simp
              refine hK4 _ _ ?_
              (try simp only [List.getElem_toArray, List.getElem_cons_succ, List.getElem_cons_zero])
              (try go_frame)
              have HEND := hide (h11.put (unhide HS) (h11.st.va (unhide HS) hcan2 hl11) (by rw [set5_size]; exact Nat.le_refl _) (fun i hi => set5_other _ _ _ _ _ hi)).st
              clear hK4 hK3 hK2 K4 K3 K2 F hS0w HS0 HKE h10 h11 hl10 hl11 hcan2 hs9
              go_wp2_with fail
              go_end0
              exact (unhide HEND).done (unhide HQ)
end Go.Proofs.YtpkmamgleofimaaGreatDoor

namespace Go.Proofs.YtpkmamgleofimaaGreatDoor
open Go.RowKit

theorem cells3 {w : World} {z : Nat} {ty : TypeId} {v0 v1 v2 : Value} (h : w.heap[z]? = some (.cells #[v0, v1, v2] ty (0, 0))) : w.cell? ⟨z, 0, none⟩ = some v0 ∧ w.cell? ⟨z, 1, none⟩ = some v1 ∧ w.cell? ⟨z, 2, none⟩ = some v2 := by
  refine ⟨?_, ?_, ?_⟩ <;> (rw [cell_of_row _ _ _ _ _ _ h]; rfl)
structure StD (C : SyC) (B sb : Nat) (w W : World) (l : List Tk) (S P : SV) (tb : Nat) (t u : Tk) : Prop where
  st : StR C 0 B sb w W l S P
  bt : W.heap[tb]? = some (.cells #[.int .i64 (t.k : Int), .string t.t, .int .i64 (t.a : Int)] 78 (0, 0))
  bu : W.heap[tb + 1]? = some (.cells #[.int .i64 (u.k : Int), .string u.t, .int .i64 (u.a : Int)] 78 (0, 0))
theorem StD.below {C : SyC} {B sb tb : Nat} {w W W' : World} {l : List Tk} {S P : SV} {t u : Tk} (h : StD C B sb w W l S P tb t u) (hb : Below W.heap.size W W') : StD C B sb w W' l S P tb t u := ⟨h.st.below hb, row_below h.bt hb, row_below h.bu hb⟩
section
variable {E : Nat} {P : SV} {l : List Tk}
theorem ddS_no (h : (ahd E 0 l).k = 0 ∨ isS (ahd E 0 l) (sgn 58) = true) : ddS E 400 P l = .ok ({ P with k := 1 }, l) := by unfold ddS; rw [if_pos h]
theorem ddS_def (h : ¬ ((ahd E 0 l).k = 0 ∨ isS (ahd E 0 l) (sgn 58) = true)) (h2 : isW (ahd E 0 l) tDEF = true ∧ (ahd E 1 l).k = 1) : ddS E 400 P l = dfA E P l.tail := by unfold ddS; rw [if_neg h, if_pos h2, dfA_eq]
theorem ddS_rule (h : ¬ ((ahd E 0 l).k = 0 ∨ isS (ahd E 0 l) (sgn 58) = true)) (h2 : ¬ (isW (ahd E 0 l) tDEF = true ∧ (ahd E 1 l).k = 1)) (h3 : (ahd E 0 l).k = 1 ∧ isS (ahd E 1 l) tIs = true) : ddS E 400 P l = sbd (nmS E l) fun nm r => sbd (ndS E tIs r) fun _ q => sbd (ptS E q) fun p m => .ok ({ P with k := 6, nm := nm, pa := p }, m) := by unfold ddS; rw [if_neg h, if_neg h2, if_pos h3]
theorem ddS_ev (h : ¬ ((ahd E 0 l).k = 0 ∨ isS (ahd E 0 l) (sgn 58) = true)) (h2 : ¬ (isW (ahd E 0 l) tDEF = true ∧ (ahd E 1 l).k = 1)) (h3 : ¬ ((ahd E 0 l).k = 1 ∧ isS (ahd E 1 l) tIs = true)) : ddS E 400 P l = evS E 400 P l := by unfold ddS; rw [if_neg h, if_neg h2, if_neg h3]
end
theorem StPost.from {C : SyC} {o B sb : Nat} {a b c : World} {R : Sy SV} {e : Ending} (h : But2 C.z sb a b) (hp : StPost C o B sb b R e c) : StPost C o B sb a R e c := ⟨h.trans hp.1, hp.2⟩
set_option maxRecDepth 100000 in
set_option maxHeartbeats 16000000 in
theorem sdeed_any {C : SyC} {l : List Tk} {B sb : Nat} {S P : SV} (w : World) (hS : SyS C B sb) (hT : SyT sb) (hR : Syr C w l 0) (hE : SyEnv C w) (hI : StIn B sb w S P) (hBw : B ≤ w.heap.size) (htg : P.tg = PT.nul) (hpa : P.pa = PT.nul) (hps : P.ps = nlO []) (hls : P.ls = nlO []) : Calls Tryz.prog 36 #[.pointer (some ⟨C.z, 0, none⟩), .pointer (some ⟨sb, 0, none⟩)] w fun e w' => StPost C 0 B sb w (ddS C.E 400 P l) e w' := by
  have H0 : Hid (StR C 0 B sb w w l S P) := hide (⟨But2.refl _ _ _, hR, hI⟩)
  have HS := hide hS
  have HTT := hide hT
  have HE := hide hE
  have HA0 := hide (sahead_any 0 w hR (by decide))
  have HA1 := hide (fun w h => sahead_any (C := C) (l := l) (o := 0) 1 w h (by decide))
  have HDF := hide (fun W (h : StR C 0 B sb w W l S P) (hl : l ≠ []) => sdefine_any W hS h.rdr h.stm (Nat.le_trans hBw h.but.size) hl hps hls)
  have HEV := hide (fun W (h : StR C 0 B sb w W l S P) => seval_any W hS hT h.rdr (hE.but2 h.but hT) h.stm (Nat.le_trans hBw h.but.size) htg hpa)
  have HPT := hide (fun w l h k => spattern_any (C := C) (l := l) (o := 0) w h k)
  have HNM := hide (fun w l h => sname_any (C := C) (l := l) (o := 0) w h)
  have HND := hide (fun w l h => sneed_any (C := C) (l := l) (o := 0) tIs w h)
  obtain ⟨RR, hRR⟩ : ∃ RR, RR = ddS C.E 400 P l := ⟨_, rfl⟩
  rw [← hRR]
  have HQ1 := hide (fun h => hRR.trans (ddS_no (P := P) h))
  have HQ2 := hide (fun h h2 => hRR.trans (ddS_def (P := P) h h2))
  have HQ3 := hide (fun h h2 h3 => hRR.trans (ddS_rule (P := P) h h2 h3))
  have HQ4 := hide (fun h h2 h3 => hRR.trans (ddS_ev (P := P) h h2 h3))
  have HLN := hide (fun h => ahd_ne (E := C.E) (l := l) h)
  have HIT := hide (fun s w => isSign_any (ahd C.E 0 l) s w)
  have HIU := hide (fun s w => isSign_any (ahd C.E 1 l) s w)
  have HIW := hide (fun s w => isWord_any (ahd C.E 0 l) s w)
  have hBs : sb < B := hS.s
  clear hR hE hI hS hT hRR htg hpa hps hls
  unfold sgn at HQ1 HQ2 HQ3 HQ4
  unfold tDEF at HQ2 HQ3 HQ4
  unfold tIs at HQ3 HQ4
  unfold tIs at HND
  generalize ahd C.E 0 l = t at *
  generalize ahd C.E 1 l = u at *
  unfold tokV at HA0 HA1 HIT HIU HIW
  go_enter Tryz.func36, Tryz.ntmps36
  go_wp2_with fail
  refine (unhide HA0).mono ?_
  rintro e w1 ⟨rfl, hb1⟩
  have H1 := hide ((unhide H0).below hb1)
  have HA1b := hide (unhide HA1 w1 (unhide H1).rdr)
  clear hb1 HA0 HA1
  go_wp2_with fail
  refine (unhide HA1b).mono ?_
  rintro e w2 ⟨rfl, hb2⟩
  have H3 := hide (show StD C B sb w ((w2.alloc (.cells #[.int .i64 (t.k : Int), .string t.t, .int .i64 (t.a : Int)] 78)).alloc (.cells #[.int .i64 (u.k : Int), .string u.t, .int .i64 (u.a : Int)] 78)) l S P w2.heap.size t u from
    ⟨((((unhide H1).below hb2).below (ba _)).below (ba _)), at_old (by rw [World.size_alloc]; omega) (at_new rfl), at_new (by rw [World.size_alloc])⟩)
  clear hb2 HA1b H1 H0
  generalize htb : w2.heap.size = tb at *
  obtain ⟨tc0a, tc1a, tc2a⟩ := cells3 (unhide H3).bt
  obtain ⟨uc0a, uc1a, uc2a⟩ := cells3 (unhide H3).bu
  by_cases k0 : t.k = 0
  · have q0 : ((t.k : Int) == 0) = true := bt
    have HQ := hide (unhide HQ1 (.inl k0))
    clear k0 HQ1 HQ2 HQ3 HQ4
    have c1 := (unhide H3).st.stm.cell (k := 1) rfl
    have f1 := (unhide H3).st.stm.fz 1
    have H9 := hide ((unhide H3).st.kd (unhide HS) 1)
    go_wp2_with fail
    go_end0
    exact (unhide H9).done (unhide HQ)
  · have q0 : ((t.k : Int) == 0) = false := bn
    cases s58 : isS t ⟨#[58]⟩
    · have HI1 := hide (unhide HIT ⟨#[58]⟩)
      rw [s58] at HI1
      have HN0 : Hid (¬ (t.k = 0 ∨ isS t ⟨#[58]⟩ = true)) := hide (fun h => by rcases h with h | h; exact k0 h; rw [s58] at h; cases h)
      clear k0 s58
      go_wp2_with fail
      refine (unhide HI1 _).mono ?_
      rintro e w4 ⟨rfl, hb4⟩
      have H4 := hide ((unhide H3).below hb4)
      clear hb4
      clear tc0a tc1a tc2a uc0a uc1a uc2a
      obtain ⟨tc0b, tc1b, tc2b⟩ := cells3 (unhide H4).bt
      obtain ⟨uc0b, uc1b, uc2b⟩ := cells3 (unhide H4).bu
      have HI2 := hide (unhide HIW ⟨#[68, 69, 70, 73, 78, 69]⟩)
      cases hD : isW t ⟨#[68, 69, 70, 73, 78, 69]⟩
      · rw [hD] at HI2
        have HN1 : Hid (¬ (isW t ⟨#[68, 69, 70, 73, 78, 69]⟩ = true ∧ u.k = 1)) := hide (fun h => by have h1 := h.1; rw [hD] at h1; cases h1)
        clear hD
        go_wp2_with fail
        refine (unhide HI2 _).mono ?_
        rintro e w4b ⟨rfl, hb4⟩
        have H4b := hide ((unhide H4).below hb4)
        clear hb4
        clear tc0b tc1b tc2b uc0b uc1b uc2b
        obtain ⟨tc0c, tc1c, tc2c⟩ := cells3 (unhide H4b).bt
        obtain ⟨uc0c, uc1c, uc2c⟩ := cells3 (unhide H4b).bu
        by_cases k1 : t.k = 1
        · have q1 : ((t.k : Int) == 1) = true := bt
          cases hI : isS u ⟨#[58, 61]⟩
          · have HI3 := hide (unhide HIU ⟨#[58, 61]⟩)
            rw [hI] at HI3
            have HQ := hide (unhide HQ4 (unhide HN0) (unhide HN1) (fun h => by have h2 := h.2; rw [hI] at h2; cases h2))
            clear k1 hI
            go_wp2_with fail
            refine (unhide HI3 _).mono ?_
            rintro e w5a ⟨rfl, hb5⟩
            have H5a := hide ((unhide H4b).below hb5)
            clear hb5
            have HEV9 := hide (unhide HEV _ (unhide H5a).st)
            go_wp2_with fail
            refine (unhide HEV9).mono ?_
            intro e w9 hp
            have HP9 := hide (StPost.from (unhide H5a).st.but hp)
            cases hq : evS C.E 400 P l with
            | error y =>
              obtain ⟨er, i⟩ := y
              have HQ5 := hide ((unhide HQ).trans hq)
              obtain ⟨hbx, rfl⟩ := tof_err hp hq
              have HB9 := hide ((unhide H5a).st.but.trans hbx)
              clear hp hq hbx
              unfold thr
              go_wp2_with fail
              exact ⟨rfl, tpost_err (unhide HQ5) (unhide HB9) rfl⟩
            | ok y =>
              obtain ⟨P9, r9⟩ := y
              have HQ5 := hide ((unhide HQ).trans hq)
              obtain ⟨hbx, rfl, hR9, S9, hI9⟩ := tof_ok hp hq
              have HZ := hide (And.intro ((unhide H5a).st.but.trans hbx) (And.intro hR9 hI9))
              clear hp hq hbx hR9 hI9
              go_wp2_with fail
              go_end0
              exact tpost_ok (unhide HQ5) (unhide HZ).1 rfl (unhide HZ).2.1 (unhide HZ).2.2
          · have HI3 := hide (unhide HIU ⟨#[58, 61]⟩)
            rw [hI] at HI3
            have HQ := hide (unhide HQ3 (unhide HN0) (unhide HN1) ⟨k1, hI⟩)
            clear k1 hI
            go_wp2_with fail
            refine (unhide HI3 _).mono ?_
            rintro e w5a ⟨rfl, hb5⟩
            have H5a := hide ((unhide H4b).below hb5)
            clear hb5
            have c1 := (unhide H5a).st.stm.cell (k := 1) rfl
            have f1 := (unhide H5a).st.stm.fz 1
            have H6 := hide ((unhide H5a).st.kd (unhide HS) 6)
            have HN6 := hide (unhide HNM _ l (unhide H6).rdr)
            have HSM := hide (fun t r h => nmS_sm (t := t) (r := r) (unhide H6).rdr h)
            go_wp2_with fail
            clear c1 f1
            refine (unhide HN6).mono ?_
            intro e w6 hp
            cases hq : nmS C.E l with
            | error x =>
              obtain ⟨er, i⟩ := x
              obtain ⟨hbx, rfl⟩ := sof_err hp hq
              have HBX := hide ((unhide H6).but.trans (But2.of hbx))
              have hQ := unhide HQ
              rw [hq] at hQ
              simp only [sbd_err] at hQ
              have HQE := hide hQ
              clear hp hbx hq hQ HQ
              unfold thr
              go_wp2_with fail
              exact ⟨rfl, tpost_err (unhide HQE) (unhide HBX) rfl⟩
            | ok x =>
              obtain ⟨t6, r6⟩ := x
              obtain ⟨hbx, rfl, hRx⟩ := sof_ok hp hq
              have htz := unhide HSM _ _ hq
              have hQ := unhide HQ
              rw [hq] at hQ
              simp only [sbd_ok] at hQ
              have HQ := hide hQ
              have hx := (unhide H6).next (unhide HS) hbx hRx
              have cx := hx.stm.cell (k := 17) rfl
              have fx := hx.stm.fz 17
              have H7 := hide (hx.nm (unhide HS) htz)
              have HN7 := hide (unhide HND _ r6 (unhide H7).rdr)
              clear hp hbx hq hQ hRx hx HSM
              go_wp2_with fail
              clear cx fx
              refine (unhide HN7).mono ?_
              intro e w7 hp
              cases hq : ndS C.E ⟨#[58, 61]⟩ r6 with
              | error x =>
                obtain ⟨er, i⟩ := x
                obtain ⟨hbx, rfl⟩ := sof_err hp hq
                have HBX := hide ((unhide H7).but.trans (But2.of hbx))
                have hQ := unhide HQ
                rw [hq] at hQ
                simp only [sbd_err] at hQ
                have HQE := hide hQ
                clear hp hbx hq hQ HQ
                unfold thr
                go_wp2_with fail
                exact ⟨rfl, tpost_err (unhide HQE) (unhide HBX) rfl⟩
              | ok x =>
                obtain ⟨xu7, r7⟩ := x
                obtain ⟨hbx, rfl, hRx⟩ := sof_ok hp hq
                have hQ := unhide HQ
                rw [hq] at hQ
                simp only [sbd_ok] at hQ
                have HQ := hide hQ
                have hx := (unhide H7).next (unhide HS) hbx hRx
                have H8 := hide hx
                have HP8 := hide (unhide HPT _ r7 hx.rdr ((unhide HE).but2 hx.but (unhide HTT)))
                clear hp hbx hq hQ hRx hx
                go_wp2_with fail
                refine (unhide HP8).mono ?_
                intro e w8 hp
                cases hq : ptS C.E r7 with
                | error x =>
                  obtain ⟨er, i⟩ := x
                  obtain ⟨hbx, rfl⟩ := sof_err hp hq
                  have HBX := hide ((unhide H8).but.trans (But2.of hbx))
                  have hQ := unhide HQ
                  rw [hq] at hQ
                  simp only [sbd_err] at hQ
                  have HQE := hide hQ
                  clear hp hbx hq hQ HQ
                  unfold thr
                  go_wp2_with fail
                  exact ⟨rfl, tpost_err (unhide HQE) (unhide HBX) rfl⟩
                | ok x =>
                  obtain ⟨pp, r8⟩ := x
                  obtain ⟨hbx, ⟨V, rfl, hcan, hlie⟩, hRx⟩ := sof_ok hp hq
                  have hQ := unhide HQ
                  rw [hq] at hQ
                  simp only [sbd_ok] at hQ
                  have HQ := hide hQ
                  have hx := (unhide H8).next (unhide HS) hbx hRx
                  have hs8 := (unhide H8).but.size
                  have c12 := hx.stm.cell (k := 12) rfl
                  have f12 := hx.stm.fz 12
                  have c13 := hx.stm.cell (k := 13) rfl
                  have f13 := hx.stm.fz 13
                  have c14 := hx.stm.cell (k := 14) rfl
                  have f14 := hx.stm.fz 14
                  have c15 := hx.stm.cell (k := 15) rfl
                  have f15 := hx.stm.fz 15
                  have c16 := hx.stm.cell (k := 16) rfl
                  have f16 := hx.stm.fz 16
                  have H10 := hide (hx.pa (unhide HS) hcan (hlie.mono (by omega)))
                  clear hp hbx hq hQ hcan hlie hRx hx hs8
                  unfold pv
                  unfold set5 at H10
                  go_wp2_with fail
                  go_end0
                  exact (unhide H10).done (unhide HQ)
        · have q1 : ((t.k : Int) == 1) = false := bn
          have HQ := hide (unhide HQ4 (unhide HN0) (unhide HN1) (fun h => k1 h.1))
          clear k1
          have HEV9 := hide (unhide HEV _ (unhide H4b).st)
          go_wp2_with fail
          refine (unhide HEV9).mono ?_
          intro e w9 hp
          have HP9 := hide (StPost.from (unhide H4b).st.but hp)
          cases hq : evS C.E 400 P l with
          | error y =>
            obtain ⟨er, i⟩ := y
            have HQ5 := hide ((unhide HQ).trans hq)
            obtain ⟨hbx, rfl⟩ := tof_err hp hq
            have HB9 := hide ((unhide H4b).st.but.trans hbx)
            clear hp hq hbx
            unfold thr
            go_wp2_with fail
            exact ⟨rfl, tpost_err (unhide HQ5) (unhide HB9) rfl⟩
          | ok y =>
            obtain ⟨P9, r9⟩ := y
            have HQ5 := hide ((unhide HQ).trans hq)
            obtain ⟨hbx, rfl, hR9, S9, hI9⟩ := tof_ok hp hq
            have HZ := hide (And.intro ((unhide H4b).st.but.trans hbx) (And.intro hR9 hI9))
            clear hp hq hbx hR9 hI9
            go_wp2_with fail
            go_end0
            exact tpost_ok (unhide HQ5) (unhide HZ).1 rfl (unhide HZ).2.1 (unhide HZ).2.2
      · rw [hD] at HI2
        by_cases ku : u.k = 1
        · have qu : ((u.k : Int) == 1) = true := bt
          have HQ := hide (unhide HQ2 (unhide HN0) ⟨hD, ku⟩)
          have HK1 : Hid (t.k = 1) := hide (by unfold isW at hD; simp only [Bool.and_eq_true, decide_eq_true_eq] at hD; exact hD.1)
          clear ku hD
          go_wp2_with fail
          refine (unhide HI2 _).mono ?_
          rintro e w4b ⟨rfl, hb4⟩
          have H4b := hide ((unhide H4).below hb4)
          clear hb4
          clear tc0b tc1b tc2b uc0b uc1b uc2b
          obtain ⟨tc0c, tc1c, tc2c⟩ := cells3 (unhide H4b).bt
          obtain ⟨uc0c, uc1c, uc2c⟩ := cells3 (unhide H4b).bu
          have HEV9 := hide (unhide HDF _ (unhide H4b).st (unhide HLN (by rw [unhide HK1]; decide)))
          go_wp2_with fail
          refine (unhide HEV9).mono ?_
          intro e w9 hp
          have HP9 := hide (StPost.from (unhide H4b).st.but hp)
          cases hq : dfA C.E P l.tail with
          | error y =>
            obtain ⟨er, i⟩ := y
            have HQ5 := hide ((unhide HQ).trans hq)
            obtain ⟨hbx, rfl⟩ := tof_err hp hq
            have HB9 := hide ((unhide H4b).st.but.trans hbx)
            clear hp hq hbx
            unfold thr
            go_wp2_with fail
            exact ⟨rfl, tpost_err (unhide HQ5) (unhide HB9) rfl⟩
          | ok y =>
            obtain ⟨P9, r9⟩ := y
            have HQ5 := hide ((unhide HQ).trans hq)
            obtain ⟨hbx, rfl, hR9, S9, hI9⟩ := tof_ok hp hq
            have HZ := hide (And.intro ((unhide H4b).st.but.trans hbx) (And.intro hR9 hI9))
            clear hp hq hbx hR9 hI9
            go_wp2_with fail
            go_end0
            exact tpost_ok (unhide HQ5) (unhide HZ).1 rfl (unhide HZ).2.1 (unhide HZ).2.2
        · have qu : ((u.k : Int) == 1) = false := bn
          have HN1 : Hid (¬ (isW t ⟨#[68, 69, 70, 73, 78, 69]⟩ = true ∧ u.k = 1)) := hide (fun h => ku h.2)
          clear ku hD
          go_wp2_with fail
          refine (unhide HI2 _).mono ?_
          rintro e w4b ⟨rfl, hb4⟩
          have H4b := hide ((unhide H4).below hb4)
          clear hb4
          clear tc0b tc1b tc2b uc0b uc1b uc2b
          obtain ⟨tc0c, tc1c, tc2c⟩ := cells3 (unhide H4b).bt
          obtain ⟨uc0c, uc1c, uc2c⟩ := cells3 (unhide H4b).bu
          by_cases k1 : t.k = 1
          · have q1 : ((t.k : Int) == 1) = true := bt
            cases hI : isS u ⟨#[58, 61]⟩
            · have HI3 := hide (unhide HIU ⟨#[58, 61]⟩)
              rw [hI] at HI3
              have HQ := hide (unhide HQ4 (unhide HN0) (unhide HN1) (fun h => by have h2 := h.2; rw [hI] at h2; cases h2))
              clear k1 hI
              go_wp2_with fail
              refine (unhide HI3 _).mono ?_
              rintro e w5b ⟨rfl, hb5⟩
              have H5b := hide ((unhide H4b).below hb5)
              clear hb5
              have HEV9 := hide (unhide HEV _ (unhide H5b).st)
              go_wp2_with fail
              refine (unhide HEV9).mono ?_
              intro e w9 hp
              have HP9 := hide (StPost.from (unhide H5b).st.but hp)
              cases hq : evS C.E 400 P l with
              | error y =>
                obtain ⟨er, i⟩ := y
                have HQ5 := hide ((unhide HQ).trans hq)
                obtain ⟨hbx, rfl⟩ := tof_err hp hq
                have HB9 := hide ((unhide H5b).st.but.trans hbx)
                clear hp hq hbx
                unfold thr
                go_wp2_with fail
                exact ⟨rfl, tpost_err (unhide HQ5) (unhide HB9) rfl⟩
              | ok y =>
                obtain ⟨P9, r9⟩ := y
                have HQ5 := hide ((unhide HQ).trans hq)
                obtain ⟨hbx, rfl, hR9, S9, hI9⟩ := tof_ok hp hq
                have HZ := hide (And.intro ((unhide H5b).st.but.trans hbx) (And.intro hR9 hI9))
                clear hp hq hbx hR9 hI9
                go_wp2_with fail
                go_end0
                exact tpost_ok (unhide HQ5) (unhide HZ).1 rfl (unhide HZ).2.1 (unhide HZ).2.2
            · have HI3 := hide (unhide HIU ⟨#[58, 61]⟩)
              rw [hI] at HI3
              have HQ := hide (unhide HQ3 (unhide HN0) (unhide HN1) ⟨k1, hI⟩)
              clear k1 hI
              go_wp2_with fail
              refine (unhide HI3 _).mono ?_
              rintro e w5b ⟨rfl, hb5⟩
              have H5b := hide ((unhide H4b).below hb5)
              clear hb5
              have c1 := (unhide H5b).st.stm.cell (k := 1) rfl
              have f1 := (unhide H5b).st.stm.fz 1
              have H6 := hide ((unhide H5b).st.kd (unhide HS) 6)
              have HN6 := hide (unhide HNM _ l (unhide H6).rdr)
              have HSM := hide (fun t r h => nmS_sm (t := t) (r := r) (unhide H6).rdr h)
              go_wp2_with fail
              clear c1 f1
              refine (unhide HN6).mono ?_
              intro e w6 hp
              cases hq : nmS C.E l with
              | error x =>
                obtain ⟨er, i⟩ := x
                obtain ⟨hbx, rfl⟩ := sof_err hp hq
                have HBX := hide ((unhide H6).but.trans (But2.of hbx))
                have hQ := unhide HQ
                rw [hq] at hQ
                simp only [sbd_err] at hQ
                have HQE := hide hQ
                clear hp hbx hq hQ HQ
                unfold thr
                go_wp2_with fail
                exact ⟨rfl, tpost_err (unhide HQE) (unhide HBX) rfl⟩
              | ok x =>
                obtain ⟨t6, r6⟩ := x
                obtain ⟨hbx, rfl, hRx⟩ := sof_ok hp hq
                have htz := unhide HSM _ _ hq
                have hQ := unhide HQ
                rw [hq] at hQ
                simp only [sbd_ok] at hQ
                have HQ := hide hQ
                have hx := (unhide H6).next (unhide HS) hbx hRx
                have cx := hx.stm.cell (k := 17) rfl
                have fx := hx.stm.fz 17
                have H7 := hide (hx.nm (unhide HS) htz)
                have HN7 := hide (unhide HND _ r6 (unhide H7).rdr)
                clear hp hbx hq hQ hRx hx HSM
                go_wp2_with fail
                clear cx fx
                refine (unhide HN7).mono ?_
                intro e w7 hp
                cases hq : ndS C.E ⟨#[58, 61]⟩ r6 with
                | error x =>
                  obtain ⟨er, i⟩ := x
                  obtain ⟨hbx, rfl⟩ := sof_err hp hq
                  have HBX := hide ((unhide H7).but.trans (But2.of hbx))
                  have hQ := unhide HQ
                  rw [hq] at hQ
                  simp only [sbd_err] at hQ
                  have HQE := hide hQ
                  clear hp hbx hq hQ HQ
                  unfold thr
                  go_wp2_with fail
                  exact ⟨rfl, tpost_err (unhide HQE) (unhide HBX) rfl⟩
                | ok x =>
                  obtain ⟨xu7, r7⟩ := x
                  obtain ⟨hbx, rfl, hRx⟩ := sof_ok hp hq
                  have hQ := unhide HQ
                  rw [hq] at hQ
                  simp only [sbd_ok] at hQ
                  have HQ := hide hQ
                  have hx := (unhide H7).next (unhide HS) hbx hRx
                  have H8 := hide hx
                  have HP8 := hide (unhide HPT _ r7 hx.rdr ((unhide HE).but2 hx.but (unhide HTT)))
                  clear hp hbx hq hQ hRx hx
                  go_wp2_with fail
                  refine (unhide HP8).mono ?_
                  intro e w8 hp
                  cases hq : ptS C.E r7 with
                  | error x =>
                    obtain ⟨er, i⟩ := x
                    obtain ⟨hbx, rfl⟩ := sof_err hp hq
                    have HBX := hide ((unhide H8).but.trans (But2.of hbx))
                    have hQ := unhide HQ
                    rw [hq] at hQ
                    simp only [sbd_err] at hQ
                    have HQE := hide hQ
                    clear hp hbx hq hQ HQ
                    unfold thr
                    go_wp2_with fail
                    exact ⟨rfl, tpost_err (unhide HQE) (unhide HBX) rfl⟩
                  | ok x =>
                    obtain ⟨pp, r8⟩ := x
                    obtain ⟨hbx, ⟨V, rfl, hcan, hlie⟩, hRx⟩ := sof_ok hp hq
                    have hQ := unhide HQ
                    rw [hq] at hQ
                    simp only [sbd_ok] at hQ
                    have HQ := hide hQ
                    have hx := (unhide H8).next (unhide HS) hbx hRx
                    have hs8 := (unhide H8).but.size
                    have c12 := hx.stm.cell (k := 12) rfl
                    have f12 := hx.stm.fz 12
                    have c13 := hx.stm.cell (k := 13) rfl
                    have f13 := hx.stm.fz 13
                    have c14 := hx.stm.cell (k := 14) rfl
                    have f14 := hx.stm.fz 14
                    have c15 := hx.stm.cell (k := 15) rfl
                    have f15 := hx.stm.fz 15
                    have c16 := hx.stm.cell (k := 16) rfl
                    have f16 := hx.stm.fz 16
                    have H10 := hide (hx.pa (unhide HS) hcan (hlie.mono (by omega)))
                    clear hp hbx hq hQ hcan hlie hRx hx hs8
                    unfold pv
                    unfold set5 at H10
                    go_wp2_with fail
                    go_end0
                    exact (unhide H10).done (unhide HQ)
          · have q1 : ((t.k : Int) == 1) = false := bn
            have HQ := hide (unhide HQ4 (unhide HN0) (unhide HN1) (fun h => k1 h.1))
            clear k1
            have HEV9 := hide (unhide HEV _ (unhide H4b).st)
            go_wp2_with fail
            refine (unhide HEV9).mono ?_
            intro e w9 hp
            have HP9 := hide (StPost.from (unhide H4b).st.but hp)
            cases hq : evS C.E 400 P l with
            | error y =>
              obtain ⟨er, i⟩ := y
              have HQ5 := hide ((unhide HQ).trans hq)
              obtain ⟨hbx, rfl⟩ := tof_err hp hq
              have HB9 := hide ((unhide H4b).st.but.trans hbx)
              clear hp hq hbx
              unfold thr
              go_wp2_with fail
              exact ⟨rfl, tpost_err (unhide HQ5) (unhide HB9) rfl⟩
            | ok y =>
              obtain ⟨P9, r9⟩ := y
              have HQ5 := hide ((unhide HQ).trans hq)
              obtain ⟨hbx, rfl, hR9, S9, hI9⟩ := tof_ok hp hq
              have HZ := hide (And.intro ((unhide H4b).st.but.trans hbx) (And.intro hR9 hI9))
              clear hp hq hbx hR9 hI9
              go_wp2_with fail
              go_end0
              exact tpost_ok (unhide HQ5) (unhide HZ).1 rfl (unhide HZ).2.1 (unhide HZ).2.2
    · have HI1 := hide (unhide HIT ⟨#[58]⟩)
      rw [s58] at HI1
      have HQ := hide (unhide HQ1 (.inr s58))
      clear k0 s58 HQ1 HQ2 HQ3 HQ4
      go_wp2_with fail
      refine (unhide HI1 _).mono ?_
      rintro e w4 ⟨rfl, hb4⟩
      have H4 := hide ((unhide H3).below hb4)
      clear hb4
      clear tc0a tc1a tc2a uc0a uc1a uc2a
      have c1 := (unhide H4).st.stm.cell (k := 1) rfl
      have f1 := (unhide H4).st.stm.fz 1
      have H9 := hide ((unhide H4).st.kd (unhide HS) 1)
      go_wp2_with fail
      go_end0
      exact (unhide H9).done (unhide HQ)
end Go.Proofs.YtpkmamgleofimaaGreatDoor
