/- Jumps lead to where statements begin; Make, whole. -/
import Derived.Test.YtpclpjcemeckgaaDoorCdE
namespace Go.Proofs.YtpclpjcemeckgaaDoor
open Go.RowKit

def aimTo (f : IN → IN) (raw : List IN) (k : Nat) : List IN := (raw.take k).map f ++ raw.drop k
theorem aimTo_len (f : IN → IN) (raw : List IN) (k : Nat) : (aimTo f raw k).length = raw.length := by
  unfold aimTo; simp only [List.length_append, List.length_map, List.length_take, List.length_drop]; omega
theorem aimTo_get {f : IN → IN} {raw : List IN} {k : Nat} {x : IN} (h : raw[k]? = some x) : (aimTo f raw k)[k]? = some x := by
  have hk : k < raw.length := (List.getElem?_eq_some_iff.1 h).1
  unfold aimTo
  rw [List.getElem?_append_right (by simp; omega)]
  simp only [List.length_map, List.length_take, List.getElem?_drop]
  rw [show k + (k - min k raw.length) = k by omega]
  exact h
theorem aimTo_set {f : IN → IN} {raw : List IN} {k : Nat} {x : IN} (h : raw[k]? = some x) : (aimTo f raw k).set k (f x) = aimTo f raw (k + 1) := by
  have hk : k < raw.length := (List.getElem?_eq_some_iff.1 h).1
  unfold aimTo
  have hl : ((raw.take k).map f).length = k := by simp; omega
  have hd : raw.drop k = x :: raw.drop (k + 1) := by
    rw [List.drop_eq_getElem_cons hk]
    congr 1
    rw [List.getElem?_eq_getElem hk] at h
    exact Option.some.inj h
  rw [List.set_append_right _ _ (by omega), hl, Nat.sub_self, List.take_add_one, h, hd]
  simp
theorem aimTo_same {f : IN → IN} {raw : List IN} {k : Nat} {x : IN} (h : raw[k]? = some x) (hf : f x = x) : aimTo f raw (k + 1) = aimTo f raw k := by
  rw [← aimTo_set h, hf]
  have h1 := aimTo_get (f := f) h
  apply List.ext_getElem?
  intro i
  rw [List.getElem?_set]
  split
  · rename_i e; subst e
    rw [h1, if_pos (List.getElem?_eq_some_iff.1 h1).1]
  · rfl
theorem aimTo_zero (f : IN → IN) (raw : List IN) : aimTo f raw 0 = raw := by unfold aimTo; simp
theorem aimTo_all (f : IN → IN) (raw : List IN) : aimTo f raw raw.length = raw.map f := by unfold aimTo; simp
set_option maxRecDepth 100000 in
set_option maxHeartbeats 8000000 in
theorem aim_any (B z bl n : Nat) (pv : Value) (fl : ByteArray → Option Int) (raw : List IN) (sts : List Nat) (w : World) (hM : MkM B z bl n pv fl raw sts w) (hl : raw.length ≤ 90000000) (hto : ∀ (k : Nat) (x : IN), raw[k]? = some x → x.op = 19 → ∃ m : Nat, x.tg = (m : Int) ∧ m ≤ 2000) (hsv : ∀ (k s : Nat), sts[k]? = some s → s ≤ 90000000) :
    Calls Tryd.prog 11 #[.pointer (some ⟨z, 0, none⟩)] w (MkPost B z bl n pv fl (raw.map (aimI sts raw.length)) sts w) := by
  obtain ⟨f, hf⟩ : ∃ f, f = aimI sts raw.length := ⟨_, rfl⟩
  have HFE := hide hf
  rw [← hf]
  have HALL := hide (aimTo_all f raw)
  have HFS := hide (show ∀ x, f x = if x.op = 19 then ⟨x.op, x.t, x.n, ((sts.getD x.tg.toNat (raw.length - 1) : Nat) : Int)⟩ else x from fun x => by rw [hf]; rfl)
  have HTO := hide hto
  have HSV := hide hsv
  have HM0 := hide (show MkM B z bl n pv fl (aimTo f raw 0) sts w ∧ Below B w w from ⟨by rw [aimTo_zero]; exact hM, Below.refl _ _⟩)
  have HLN := hide (fun k => aimTo_len f raw k)
  obtain ⟨ov, sv, hov, hro, -⟩ := hM.blk
  obtain ⟨oa, ocap, rfl, -, -⟩ := hro.len
  have c2 : w.cell? ⟨z, 2, none⟩ = some (.slice oa raw.length ocap) := by rw [cell_of_row _ _ _ _ _ _ hov]; rfl
  generalize raw.map f = res at *
  clear hM hov hro hto hf hsv
  go_enter Tryd.func11, Tryd.ntmps11
  go_wp2_with fail
  go_loopw [9] (fun i wr => ∃ k : Nat, k ≤ raw.length ∧ i = .int .i64 (k : Int) ∧ Hid (MkM B z bl n pv fl (aimTo f raw k) sts wr ∧ Below B w wr)) (fun i _ => raw.length - (intOf i).toNat)
  case atStart => exact ⟨0, by omega, rfl, unhide HM0⟩
  case round =>
    obtain ⟨k, hk, rfl, HI⟩ := hrel
    rcases Nat.lt_or_ge k raw.length with hkt | hkt
    · obtain ⟨x, hx⟩ : ∃ x, raw[k]? = some x := ⟨raw[k]'hkt, List.getElem?_eq_getElem _⟩
      have hM := (unhide HI).1
      have hlk := unhide HLN k
      obtain ⟨ov, sv, hov, hro, hrs⟩ := hM.blk
      obtain ⟨g, gcap, rfl, -, -⟩ := hro.form (fun e => by rw [e] at hlk; simp at hlk; omega)
      obtain ⟨sa, scap, rfl, -, -⟩ := hrs.len
      have hgx := aimTo_get (f := f) hx
      have d0 := hro.cell iC_len rfl hgx (show (iC x)[0]? = some (.int .i64 x.op) from rfl)
      have d3 := hro.cell iC_len rfl hgx (show (iC x)[3]? = some (.int .i64 x.tg) from rfl)
      have hfz := hro.frozen rfl (k * 4 + 3)
      rw [Nat.add_zero] at d0
      have HAIM := hide (fun (W : World) (hh : W.heap = wr.heap) u => (hM.same hh).aim (u := u) (by rw [hh]; exact hov) (hro.same fun k _ => by rw [hh]) (hrs.same fun k _ => by rw [hh]) hgx)
      have HCS := hide (fun (W : World) (hh : W.heap = wr.heap) a => show W.cell? a = wr.cell? a by unfold World.cell?; rw [hh])
      have HFZ := hide (fun (W : World) (hh : W.heap = wr.heap) => (hro.same (w' := W) fun k _ => by rw [hh]).frozen rfl (k * 4 + 3))
      have HFX := hide (unhide HFS x)
      have HTX := hide (unhide HTO k x hx)
      have HX := hide hx
      have HRS := hide hrs
      have hzl := hM.zlt
      rw [hlk] at hov
      have e2 : wr.cell? ⟨z, 2, none⟩ = some (.slice (some ⟨g, 0, none⟩) raw.length gcap) := by rw [cell_of_row _ _ _ _ _ _ hov]; rfl
      have e3 : wr.cell? ⟨z, 3, none⟩ = some (.slice sa sts.length scap) := by rw [cell_of_row _ _ _ _ _ _ hov]; rfl
      have hix := idx4 (g := g) (cap := gcap) hkt
      have HO := hide hov
      have HSET := hide (aimTo_set (f := f) hx)
      have HSAME := hide (fun q => aimTo_same (f := f) hx q)
      clear hM hov hro hrs hgx hx c2
      by_cases h19 : x.op = 19
      · rw [h19] at d0
        obtain ⟨m, hm, hm2⟩ := unhide HTX h19
        rw [hm] at d3
        rcases Nat.lt_or_ge m sts.length with hms | hms
        · obtain ⟨s, hs⟩ : ∃ s, sts[m]? = some s := ⟨sts[m]'hms, List.getElem?_eq_getElem _⟩
          have hs9 := unhide HSV m s hs
          have hfx : f x = ⟨x.op, x.t, x.n, (s : Int)⟩ := by rw [unhide HFX, if_pos h19, hm, Int.toNat_natCast, List.getD_eq_getElem?_getD, hs]; rfl
          have hrs := unhide HRS
          obtain ⟨sg, scap2, hsf, -, -⟩ := hrs.form (fun e => by rw [e] at hms; simp at hms)
          injection hsf with e1 _ e4
          subst e1 e4
          have ds := hrs.cell (fun _ => rfl) rfl hs (show (nI s)[0]? = some (.int .i64 (s : Int)) from rfl)
          rw [Nat.mul_one, Nat.add_zero] at ds
          have hixs := sl_idx (g := sg) (o := 0) (cap := scap) (i := m) (n := sts.length) Tryd.underlying25 size_intS hms
          rw [Nat.zero_add] at hixs
          have ql : (m : Int) < (sts.length : Int) := by omega
          have HZ := hide (show ∀ W, W.heap = wr.heap → MkM B z bl n pv fl (aimTo f raw (k + 1)) sts (W.setCell ⟨g, k * 4 + 3, none⟩ (.int .i64 (s : Int))) ∧ Below B W (W.setCell ⟨g, k * 4 + 3, none⟩ (.int .i64 (s : Int))) from fun W hh => by
            have h9 := unhide HAIM W hh (s : Int)
            rw [← hfx, unhide HSET] at h9
            exact h9)
          have HDS := hide ds
          have HD3 := hide d3
          clear h19 hm hfx hrs hs HTX HAIM
          go_wp2_with fail
          go_quiet (fail)
          have hh : (wr.drewN nq).heap = wr.heap := World.heap_drewN ..
          have HB2 := hide (below_drewN (unhide HI).2 nq)
          generalize wr.drewN nq = w2 at *
          have HZ2 := hide (unhide HZ w2 hh)
          have p3 : w2.cell? ⟨z, 3, none⟩ = some (.slice (some ⟨sg, 0, none⟩) sts.length scap) := (unhide HCS w2 hh _).trans e3
          have pd : w2.cell? ⟨g, k * 4 + 3, none⟩ = some (.int .i64 (m : Int)) := (unhide HCS w2 hh _).trans (unhide HD3)
          have ps : w2.cell? ⟨sg, m, none⟩ = some (.int .i64 (s : Int)) := (unhide HCS w2 hh _).trans (unhide HDS)
          have pf := unhide HFZ w2 hh
          clear d0 d3 e2 e3 ds hfz HZ
          go_wp2_with fail
          have hS : w2.drew.cell? ⟨z, 3, none⟩ = some (.slice (some ⟨sg, 0, none⟩) sts.length scap) ∧ w2.drew.cell? ⟨g, k * 4 + 3, none⟩ = some (.int .i64 (m : Int)) ∧ w2.drew.cell? ⟨sg, m, none⟩ = some (.int .i64 (s : Int)) := ⟨p3, pd, ps⟩
          refine startE (by kernel_rfl) 13 (fun W => W.cell? ⟨z, 3, none⟩ = some (.slice (some ⟨sg, 0, none⟩) sts.length scap) ∧ W.cell? ⟨g, k * 4 + 3, none⟩ = some (.int .i64 (m : Int)) ∧ W.cell? ⟨sg, m, none⟩ = some (.int .i64 (s : Int))) ⟨by kernel_rfl, by kernel_rfl, by kernel_rfl, rfl⟩ ?_
          intro F
          refine takeE F (i := 0) (oi := _) (v := ?v0a) rfl (by kernel_rfl) (by kernel_rfl) (by rfl) (fun _ _ _ h => h) hS (Or.inl ⟨by rfl, ?y0a⟩) ?r0a
          case y0a => (intro w9 hSw; (go_simp <;> (try with_reducible rfl)))
          (try simp only [List.getElem_toArray, List.getElem_cons_zero])
          (try go_frame)
          refine takeE F (i := 1) (oi := _) (v := ?v1a) rfl (by kernel_rfl) (by kernel_rfl) (by rfl) (fun _ _ _ h => h) hS (Or.inl ⟨by rfl, ?y1a⟩) ?r1a
          case y1a => (intro w9 hSw; (go_simp <;> (try with_reducible rfl)))
          (try simp only [List.getElem_toArray, List.getElem_cons_succ, List.getElem_cons_zero])
          (try go_frame)
          refine takeE F (i := 2) (oi := _) (v := ?v2a) rfl (by kernel_rfl) (by kernel_rfl) (by rfl) (fun _ _ _ h => h) hS (Or.inl ⟨by rfl, ?y2a⟩) ?r2a
          case y2a => (intro w9 hSw; (go_simp <;> (try with_reducible rfl)))
          (try simp only [List.getElem_toArray, List.getElem_cons_succ, List.getElem_cons_zero])
          (try go_frame)
          refine takeE F (i := 3) (oi := _) (v := ?v3a) rfl (by kernel_rfl) (by kernel_rfl) (by rfl) (fun _ _ _ h => h) hS (Or.inl ⟨by rfl, ?y3a⟩) ?r3a
          case y3a => (intro w9 hSw; (go_simp <;> (try with_reducible rfl)))
          (try simp only [List.getElem_toArray, List.getElem_cons_succ, List.getElem_cons_zero])
          (try go_frame)
          refine takeE F (i := 4) (oi := _) (v := ?v4a) rfl (by kernel_rfl) (by kernel_rfl) (by rfl) (fun _ _ _ h => h) hS (Or.inl ⟨by rfl, ?y4a⟩) ?r4a
          case y4a => (intro w9 hSw; have g3 : w9.cell? ⟨z, 3, none⟩ = some (.slice (some ⟨sg, 0, none⟩) sts.length scap) := hSw.1; (go_simp <;> (try with_reducible rfl)))
          (try simp only [List.getElem_toArray, List.getElem_cons_succ, List.getElem_cons_zero])
          (try go_frame)
          refine takeE F (i := 5) (oi := _) (v := ?v5a) rfl (by kernel_rfl) (by kernel_rfl) (by rfl) (fun _ _ _ h => h) hS (Or.inl ⟨by rfl, ?y5a⟩) ?r5a
          case y5a => (intro w9 hSw; (go_simp <;> (try with_reducible rfl)))
          (try simp only [List.getElem_toArray, List.getElem_cons_succ, List.getElem_cons_zero])
          (try go_frame)
          refine takeE F (i := 6) (oi := _) (v := ?v6a) rfl (by kernel_rfl) (by kernel_rfl) (by rfl) (fun _ _ _ h => h) hS (Or.inl ⟨by rfl, ?y6a⟩) ?r6a
          case y6a => (intro w9 hSw; (go_simp <;> (try with_reducible rfl)))
          (try simp only [List.getElem_toArray, List.getElem_cons_succ, List.getElem_cons_zero])
          (try go_frame)
          refine takeE F (i := 7) (oi := _) (v := ?v7a) rfl (by kernel_rfl) (by kernel_rfl) (by rfl) (fun _ _ _ h => h) hS (Or.inl ⟨by rfl, ?y7a⟩) ?r7a
          case y7a => (intro w9 hSw; (go_simp <;> (try with_reducible rfl)))
          (try simp only [List.getElem_toArray, List.getElem_cons_succ, List.getElem_cons_zero])
          (try go_frame)
          refine takeE F (i := 8) (oi := _) (v := ?v8a) rfl (by kernel_rfl) (by kernel_rfl) (by rfl) (fun _ _ _ h => h) hS (Or.inl ⟨by rfl, ?y8a⟩) ?r8a
          case y8a => (intro w9 hSw; have g4 : w9.cell? ⟨g, k * 4 + 3, none⟩ = some (.int .i64 (m : Int)) := hSw.2.1; (go_simp <;> (try with_reducible rfl)))
          (try simp only [List.getElem_toArray, List.getElem_cons_succ, List.getElem_cons_zero])
          (try go_frame)
          refine takeE F (i := 9) (oi := _) (v := ?v9a) rfl (by kernel_rfl) (by kernel_rfl) (by rfl) (fun _ _ _ h => h) hS (Or.inl ⟨by rfl, ?y9a⟩) ?r9a
          case y9a => (intro w9 hSw; (go_simp <;> (try with_reducible rfl)))
          (try simp only [List.getElem_toArray, List.getElem_cons_succ, List.getElem_cons_zero])
          (try go_frame)
          refine takeE F (i := 10) (oi := _) (v := ?v10a) rfl (by kernel_rfl) (by kernel_rfl) (by rfl) (fun _ _ _ h => h) hS (Or.inl ⟨by rfl, ?y10a⟩) ?r10a
          case y10a => (intro w9 hSw; have g5 : w9.cell? ⟨sg, m, none⟩ = some (.int .i64 (s : Int)) := hSw.2.2; (go_simp <;> (try with_reducible rfl)))
          (try simp only [List.getElem_toArray, List.getElem_cons_succ, List.getElem_cons_zero])
          (try go_frame)
          refine takeE F (i := 11) (oi := _) (v := ?v11a) rfl (by kernel_rfl) (by kernel_rfl) (by rfl) (fun _ _ _ h => h) hS (Or.inl ⟨by rfl, ?y11a⟩) ?r11a
          case y11a => (intro w9 hSw; (go_simp <;> (try with_reducible rfl)))
          (try simp only [List.getElem_toArray, List.getElem_cons_succ, List.getElem_cons_zero])
          (try go_frame)
          refine takeE F (i := 12) (oi := _) (v := ?v12a) rfl (by kernel_rfl) (by kernel_rfl) (by rfl) (fun _ _ _ h => h) hS (Or.inl ⟨by rfl, ?y12a⟩) ?r12a
          case y12a => (intro w9 hSw; (go_simp <;> (try with_reducible rfl)))
          (try simp only [List.getElem_toArray, List.getElem_cons_succ, List.getElem_cons_zero])
          (try go_frame)
          refine lastE (by kernel_rfl) rfl (by kernel_rfl) (fun K5 hK5 => ?_)
          go_simp
          refine hK5 _ _ ?_
          (try simp only [List.getElem_toArray, List.getElem_cons_succ, List.getElem_cons_zero])
          (try go_frame)
          clear hK5 F hS
          go_wp2_with fail
          exact ⟨⟨k + 1, by omega, by go_num, ⟨(unhide HZ2).1.same rfl, (unhide HB2).trans (unhide HZ2).2.drew⟩⟩, by simp [intOf]; omega⟩
        · have hfx : f x = ⟨x.op, x.t, x.n, ((raw.length - 1 : Nat) : Int)⟩ := by rw [unhide HFX, if_pos h19, hm, Int.toNat_natCast, List.getD_eq_getElem?_getD, List.getElem?_eq_none hms]; rfl
          have HZ := hide (show ∀ W, W.heap = wr.heap → MkM B z bl n pv fl (aimTo f raw (k + 1)) sts (W.setCell ⟨g, k * 4 + 3, none⟩ (.int .i64 ((raw.length - 1 : Nat) : Int))) ∧ Below B W (W.setCell ⟨g, k * 4 + 3, none⟩ (.int .i64 ((raw.length - 1 : Nat) : Int))) from fun W hh => by
            have h9 := unhide HAIM W hh ((raw.length - 1 : Nat) : Int)
            rw [← hfx, unhide HSET] at h9
            exact h9)
          have ql : ¬ (m : Int) < (sts.length : Int) := by omega
          have HNN := hide (show (raw.length : Int) - 1 = ((raw.length - 1 : Nat) : Int) by omega)
          have HE2 := hide e2
          have HD3 := hide d3
          clear h19 hm hfx HTX HAIM
          go_wp2_with fail
          go_quiet (fail)
          have hh : (wr.drewN nq).heap = wr.heap := World.heap_drewN ..
          have HB2 := hide (below_drewN (unhide HI).2 nq)
          generalize wr.drewN nq = w2 at *
          have HZ2 := hide (unhide HZ w2 hh)
          have p2 : w2.cell? ⟨z, 2, none⟩ = some (.slice (some ⟨g, 0, none⟩) raw.length gcap) := (unhide HCS w2 hh _).trans (unhide HE2)
          have pd : w2.cell? ⟨g, k * 4 + 3, none⟩ = some (.int .i64 (m : Int)) := (unhide HCS w2 hh _).trans (unhide HD3)
          have pf := unhide HFZ w2 hh
          clear d0 d3 e2 e3 hfz HZ
          rw [← unhide HNN] at HZ2
          go_wp2_with fail
          exact ⟨⟨k + 1, by omega, by go_num, unhide HB2 |> fun hb => ⟨(unhide HZ2).1, hb.trans (unhide HZ2).2⟩⟩, by simp [intOf]; omega⟩
      · have HZ := hide (show MkM B z bl n pv fl (aimTo f raw (k + 1)) sts wr from by rw [unhide HSAME (by rw [unhide HFX, if_neg h19])]; exact (unhide HI).1)
        have q19 : (x.op == 19) = false := by rw [beq_eq_false_iff_ne]; exact h19
        clear h19 HTX
        go_wp2_with fail
        exact ⟨⟨k + 1, by omega, by go_num, ⟨unhide HZ, (unhide HI).2⟩⟩, by simp [intOf]; omega⟩
    · obtain rfl : k = raw.length := by omega
      go_wp2_with fail
      go_end0
      exact ⟨rfl, by rw [← unhide HALL]; exact (unhide HI).1, (unhide HI).2⟩
theorem res_make (tmps : Array Value) (w : World) (g : Nat) (fs : Array Value) (hp : tmps.getD 4 undef = .pointer (some ⟨g, 0, none⟩)) (hg : w.heap[g]? = some (.cells fs 28 (0, 0))) (hfs : fs.size = 2) :
    (results Tryd.f6 tmps).run Tryd.prog w = .ok (.tuple #[tmps.getD 2 undef, tmps.getD 3 undef, .agg fs]) w := by
  have hp' : tmps[4]?.getD undef = .pointer (some ⟨g, 0, none⟩) := by simpa using hp
  have hl := run_loadVar_row w g 28 28 fs (0, 0) _ hg Tryd.underlying28 rfl (size_fau.trans (by rw [hfs]))
  simp [results, Tryd.results6, hp', asAddr, hl]
theorem Row.weak {α : Type} {w : World} {B B' : Nat} {e : TypeId} {sz : Nat} {f : α → List Value} {v : Value} {l : List α} (h : Row w B e sz f v l) (hB : B' ≤ B) : Row w B' e sz f v l := by
  rcases h with ⟨h1, ⟨rfl, h2⟩ | ⟨g, cap, cur, rfl, hb, hr⟩⟩
  · exact ⟨h1, .inl ⟨rfl, h2⟩⟩
  · exact ⟨h1, .inr ⟨g, cap, cur, rfl, Nat.le_trans hB hb, hr⟩⟩
theorem stmAt_at {fl : ByteArray → Option Int} {P : List SV} {i s : Nat} {S : SV} (h : P[i]? = some S) : stmAt fl P i s = stmI fl i s S := by unfold stmAt; rw [h]
theorem stm_len2 {fl : ByteArray → Option Int} {i s : Nat} {S : SV} (hR : SR S) : (stmI fl i s S).length ≤ 20010 := by
  have h1 := body_len hR i
  have h2 := ways_len fl i S
  unfold stmI
  rw [List.length_cons, List.length_append]; omega
theorem out_len {fl : ByteArray → Option Int} {P : List SV} (hL : ∀ (i : Nat) (S : SV), P[i]? = some S → SR S) : ∀ k, k ≤ P.length → (outTo fl P k).length ≤ 20010 * k
  | 0, _ => Nat.le_refl _
  | k + 1, hk => by
    have ih := out_len (fl := fl) hL k (by omega)
    obtain ⟨S, hS⟩ : ∃ S, P[k]? = some S := ⟨P[k]'(by omega), List.getElem?_eq_getElem _⟩
    have := stm_len2 (fl := fl) (i := k) (s := (outTo fl P k).length) (hL k S hS)
    unfold outTo
    rw [List.length_append, stmAt_at hS]; omega
theorem sts_len (fl : ByteArray → Option Int) (P : List SV) : ∀ k, (stsTo fl P k).length = k
  | 0 => rfl
  | k + 1 => by unfold stsTo; rw [List.length_append, sts_len fl P k]; rfl
theorem sts_get (fl : ByteArray → Option Int) (P : List SV) : ∀ (k i : Nat), i < k → (stsTo fl P k)[i]? = some (outTo fl P i).length
  | 0, i, h => by omega
  | k + 1, i, h => by
    have hl := sts_len fl P k
    unfold stsTo
    rcases Nat.lt_or_ge i k with q | q
    · rw [List.getElem?_append_left (by omega)]; exact sts_get fl P k i q
    · obtain rfl : i = k := by omega
      rw [List.getElem?_append_right (by omega), hl, Nat.sub_self]; rfl
/-- Only ways on are jumps. -/
theorem cod_op : ∀ T : PT, ∀ x ∈ T.cod, x.op ≠ 1 ∧ x.op < 19 := PT.ind fun T ih x hx => by
  rw [T.cod_eq, List.mem_append, List.mem_append] at hx
  rcases hx with (hx | hx) | hx
  · unfold negI at hx
    split at hx
    · have : x = iT 2 tNul := by simpa using hx
      rw [this]; exact ⟨(by decide : ¬ (2 : Int) = 1), (by decide : (2 : Int) < 19)⟩
    · cases hx
  · obtain ⟨i, hi, h⟩ := flatTo_mem.1 hx
    exact ih i hi x h
  · have : x = lastI T := by simpa using hx
    rw [this]
    unfold lastI
    (repeat' split) <;> simp [iT, i0, iN, callOp]
    split <;> simp
theorem plc_op (T : PT) : ∀ x ∈ plcI T, x.op ≠ 1 ∧ x.op < 19 := fun x hx => by
  unfold plcI at hx
  rcases List.mem_append.1 hx with h | h
  · obtain ⟨i, hi, h⟩ := flatTo_mem.1 h
    exact cod_op _ x h
  · unfold plcE at h
    (repeat' split at h) <;> simp at h <;> rw [h] <;> simp [iT, i0]
theorem body_op (i : Nat) (S : SV) : ∀ x ∈ bodyI i S, x.op ≠ 1 ∧ x.op < 19 := fun x hx => by
  have h0 : ∀ op : Int, op ≠ 1 → op < 19 → x ∈ [i0 op] → x.op ≠ 1 ∧ x.op < 19 := fun op a b h => by
    have : x = i0 op := by simpa using h
    rw [this]; exact ⟨a, b⟩
  have hN : ∀ op n : Int, op ≠ 1 → op < 19 → x ∈ [iN op n] → x.op ≠ 1 ∧ x.op < 19 := fun op n a b h => by
    have : x = iN op n := by simpa using h
    rw [this]; exact ⟨a, b⟩
  unfold bodyI at hx
  split at hx
  · rcases List.mem_append.1 hx with h | h
    · exact cod_op _ x h
    · exact h0 17 (by decide) (by decide) h
  split at hx
  · rcases List.mem_append.1 hx with h | h
    · exact cod_op _ x h
    · exact hN 13 _ (by decide) (by decide) h
  split at hx
  · rcases List.mem_append.1 hx with h | h
    · rcases List.mem_append.1 h with h | h
      · exact plc_op _ x h
      · exact cod_op _ x h
    · exact h0 16 (by decide) (by decide) h
  split at hx
  · rcases List.mem_append.1 hx with h | h
    · rcases List.mem_append.1 h with h | h
      · rcases List.mem_append.1 h with h | h
        · rcases List.mem_append.1 h with h | h
          · rcases List.mem_append.1 h with h | h
            · exact plc_op _ x h
            · exact h0 12 (by decide) (by decide) h
          · exact hN 14 _ (by decide) (by decide) h
        · exact cod_op _ x h
      · exact h0 15 (by decide) (by decide) h
    · exact h0 16 (by decide) (by decide) h
  split at hx
  · exact hN 18 _ (by decide) (by decide) hx
  · cases hx
theorem way_op (fl : ByteArray → Option Int) (i : Nat) (t : ByteArray) : 19 ≤ (wayI fl i t).op ∧ (wayI fl i t).op ≤ 22 ∧ ((wayI fl i t).op = 19 → ((wayI fl i t).tg = ((i + 1 : Nat) : Int) ∨ (t.toList.isEmpty = false ∧ lout t = false ∧ (wayI fl i t).tg = (fl t).getD 0))) := by
  unfold wayI
  split
  · exact ⟨by show (19 : Int) ≤ 22; decide, by show (22 : Int) ≤ 22; decide, fun h => by cases h⟩
  rename_i h1
  split
  · exact ⟨by show (19 : Int) ≤ 20; decide, by show (20 : Int) ≤ 22; decide, fun h => by cases h⟩
  rename_i h2
  split
  · exact ⟨by show (19 : Int) ≤ 21; decide, by show (21 : Int) ≤ 22; decide, fun h => by cases h⟩
  rename_i h3
  split
  · exact ⟨by show (19 : Int) ≤ 19; decide, by show (19 : Int) ≤ 22; decide, fun _ => .inl rfl⟩
  · rename_i h4
    exact ⟨by show (19 : Int) ≤ 19; decide, by show (19 : Int) ≤ 22; decide, fun _ => .inr ⟨by simpa using h4, by unfold lout; rw [decide_eq_false h1, decide_eq_false h2, decide_eq_false h3]; rfl, rfl⟩⟩
theorem ways_mem {fl : ByteArray → Option Int} {i : Nat} {S : SV} {x : IN} (h : x ∈ waysI fl i S) : ∃ t ∈ [S.al, S.ye, S.no], x = wayI fl i t := by
  unfold waysI at h
  split at h
  · exact ⟨S.al, by simp, by simpa using h⟩
  · rcases List.mem_append.1 h with h | h
    · exact ⟨S.ye, by simp, by simpa using h⟩
    · split at h
      · cases h
      · exact ⟨S.no, by simp, by simpa using h⟩
theorem stm_jump {fl : ByteArray → Option Int} {i s : Nat} {S : SV} {x : IN} (h : x ∈ stmI fl i s S) (h19 : x.op = 19) : x ∈ waysI fl i S := by
  unfold stmI at h
  rcases List.mem_cons.1 h with rfl | h
  · cases h19
  · rcases List.mem_append.1 h with h | h
    · have := (body_op i S x h).2; omega
    · exact h
theorem out_mem {fl : ByteArray → Option Int} {P : List SV} : ∀ {k : Nat} {x : IN}, x ∈ outTo fl P k → ∃ i S, i < k ∧ P[i]? = some S ∧ x ∈ stmI fl i (outTo fl P i).length S
  | 0, x, h => by cases h
  | k + 1, x, h => by
    unfold outTo at h
    rcases List.mem_append.1 h with h | h
    · obtain ⟨i, S, a, b, c⟩ := out_mem h
      exact ⟨i, S, by omega, b, c⟩
    · unfold stmAt at h
      split at h
      · rename_i S hS; exact ⟨k, S, by omega, hS, h⟩
      · cases h
theorem raw_jump {P : List SV} (hR : Right P) {x : IN} (h : x ∈ rawL (labF P) P) (h19 : x.op = 19) : ∃ m : Nat, x.tg = (m : Int) ∧ m ≤ P.length := by
  unfold rawL at h
  rcases List.mem_append.1 h with h | h
  · obtain ⟨i, S, hi, hS, hx⟩ := out_mem h
    obtain ⟨t, ht, rfl⟩ := ways_mem (stm_jump hx h19)
    rcases (way_op (labF P) i t).2.2 h19 with q | ⟨a, b, q⟩
    · exact ⟨i + 1, q, by omega⟩
    · have hs := hR.lab i S hS t ht a b
      obtain ⟨y, hy⟩ := Option.isSome_iff_exists.1 hs
      obtain ⟨m, rfl, hm⟩ := lab_good P P.length (Nat.le_refl _) t y hy
      rw [hy] at q
      exact ⟨m, q, by omega⟩
  · have : x = i0 22 := by simpa using h
    rw [this] at h19; cases h19
end Go.Proofs.YtpclpjcemeckgaaDoor
