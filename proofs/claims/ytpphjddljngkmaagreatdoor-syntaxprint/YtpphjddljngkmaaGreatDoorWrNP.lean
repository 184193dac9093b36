/- What syntax.Print answers. -/
import Derived.Test.YtpphjddljngkmaaGreatDoorWrMP
import Derived.Test.YtpphjddljngkmaaGreatDoorPrintAny4M
namespace Go.Proofs.YtpphjddljngkmaaGreatDoor
open Go.RowKit

/-- What Print answers. -/
def prA (S : SV) : ByteArray × Int := if S.wrong ≠ 0 then (ByteArray.empty, S.wrong) else if (S.k = 4 ∨ S.k = 5 ∨ S.k = 6) ∧ 65536 < S.pa.txt.length then (ByteArray.empty, 4) else if nl10 (flt (stI S)) = true then (ByteArray.empty, 2) else if 2000 < (flt (stI S)).length then (ByteArray.empty, 4) else (⟨(flt (stI S)).toArray⟩, 0)
def prV (S : SV) : Value := .tuple #[.string (prA S).1, .int .i64 (prA S).2]
/-- What the writer of lines asks, and pats.Print. -/
structure PrW (w : World) : Prop where
  env : EnvW w
  rdy : Ready w
theorem PrW.later {w w' : World} (h : PrW w) (hb : Below w.heap.size w w') : PrW w' := ⟨h.env.later hb, h.rdy.later hb⟩
theorem pt_list (t : List UInt8) : ((⟨#[91]⟩ : ByteArray) ++ ⟨t.toArray⟩ ++ ⟨#[93]⟩).data.toList = 91 :: (t ++ [93]) := by
  simp
theorem pat_right {S : SV} (h : S.wrong = 0) (hk : S.k = 4 ∨ S.k = 5 ∨ S.k = 6) : S.pa.wrong = 0 := by
  obtain ⟨-, hq⟩ := wrong_way h
  unfold SV.kndE at hq
  rcases hk with hk | hk | hk
  · rw [hk] at hq
    have hq : fst0 [S.va.wrongX, S.pa.wrong] = 0 := hq
    exact (fst0_cons (fst0_cons hq).2).1
  · rw [hk] at hq
    have hq : fst0 [tgE S.tg, S.pa.wrong, S.va.wrongX] = 0 := hq
    exact (fst0_cons (fst0_cons hq).2).1
  · rw [hk] at hq
    have hq : fst0 [nmsE [S.nm], S.pa.wrong] = 0 := hq
    exact (fst0_cons (fst0_cons hq).2).1
set_option maxRecDepth 100000 in
set_option maxHeartbeats 8000000 in
theorem sprint_any (S : SV) (w : World) (hP : PrW w) (hIn : S.In w) : Calls Tryz.prog 8 #[S.v] w fun e w' => e = .returned (prV S) ∧ Below w.heap.size w w' := by
  obtain ⟨C, hC⟩ : ∃ C, C = S.cells := ⟨_, rfl⟩
  have hsv : S.v = .agg C := by rw [hC]; rfl
  have HSV := hide hsv
  have HC24 : Hid (C.size = 24) := hide (by rw [hC]; rfl)
  have hc1 : C[1]? = some (.int .i64 S.k) := by rw [hC]; rfl
  have HPAT : Hid (C[12]? = some (.int .i64 S.pa.k) ∧ C[13]? = some (.string S.pa.t) ∧ C[14]? = some (.int .i64 S.pa.n) ∧ C[15]? = some (.string S.pa.nm) ∧ C[16]? = some (.slice S.pa.xa S.pa.len S.pa.cap)) := hide (by rw [hC]; exact ⟨rfl, rfl, rfl, rfl, rfl⟩)
  obtain ⟨w1, hw1⟩ : ∃ w1, w1 = w.alloc (.cells C 33) := ⟨_, rfl⟩
  have hal : Below w.heap.size w w1 := by rw [hw1]; exact ba _
  have HBX1 : Hid (w1.heap[w.heap.size]? = some (.cells C 33 (0, 0))) := hide (by rw [hw1]; exact at_new rfl)
  have HW1 : Hid (w.alloc (.cells C 33) = w1) := hide (hw1.symm)
  have HWG : Hid (Calls Tryz.prog 6 #[.agg C] w1 fun e w' => e = .returned (.int .i64 S.wrong) ∧ Below w1.heap.size w1 w') := hide (hsv ▸ stmt_any S w1 (hIn.later hal) (hP.env.shx.later hal) (hP.rdy.shapes.later hal))
  have HPP := hide (fun (W1 : World) (h : Below w.heap.size w W1) => show Calls Tryz.prog 25 #[.agg #[.int .i64 S.pa.k, .string S.pa.t, .int .i64 S.pa.n, .string S.pa.nm, .slice S.pa.xa S.pa.len S.pa.cap]] W1 fun e w' => e = .returned (printSaid S.pa) ∧ Below W1.heap.size W1 w' from print_any S.pa W1 (hP.rdy.later h) (PT.In.later h hIn.pa))
  have HPW := hide hP
  have HIN := hide hIn
  have HAL := hide hal
  have HPR : Hid (prA S = if S.wrong ≠ 0 then (ByteArray.empty, S.wrong) else if (S.k = 4 ∨ S.k = 5 ∨ S.k = 6) ∧ 65536 < S.pa.txt.length then (ByteArray.empty, 4) else if nl10 (flt (stI S)) = true then (ByteArray.empty, 2) else if 2000 < (flt (stI S)).length then (ByteArray.empty, 4) else (⟨(flt (stI S)).toArray⟩, 0)) := hide (rfl)
  rw [hsv]
  have HCK := hide hc1
  clear hP hIn hal hw1 hC hsv hc1
  go_enter Tryz.func8, Tryz.ntmps8
  go_wp2_with (first
    | (refine wpList_load_row rfl 33 _ rfl w.heap.size rfl 33 C (0, 0) _ (by rw [unhide HW1]; exact unhide HBX1) Tryz.underlying33 rfl (stSize.trans (by rw [unhide HC24])) ?_)
    | fail)
  rw [unhide HW1]
  refine (unhide HWG).mono ?_
  rintro e w2 ⟨rfl, hb2⟩
  have HB2 := hide (bnext (unhide HAL) hb2)
  have HBX2 := hide (row_below (unhide HBX1) hb2)
  clear hb2 HWG
  by_cases hw : S.wrong = 0
  · have HWR := hide hw
    have q0 : (S.wrong != 0) = false := by rw [hw]; rfl
    have HPA0 := hide ((unhide HPR).trans (if_neg (fun q => q hw)))
    have c1 := cellC (unhide HBX2) (unhide HCK)
    clear hw HPR
    by_cases hkk : S.k = 4 ∨ S.k = 5 ∨ S.k = 6
    · rcases hkk with h | h | h
      · have hkk : S.k = 4 ∨ S.k = 5 ∨ S.k = 6 := .inl h
        rw [h] at c1
        obtain ⟨m0, m1, m2, m3, m4⟩ := unhide HPAT
        have g0 := cellC (unhide HBX2) m0
        have g1 := cellC (unhide HBX2) m1
        have g2 := cellC (unhide HBX2) m2
        have g3 := cellC (unhide HBX2) m3
        have g4 := cellC (unhide HBX2) m4
        have hpw := pat_right (unhide HWR) hkk
        have HPp := hide (unhide HPP w2 (unhide HB2))
        by_cases hl : 65536 < S.pa.txt.length
        · have hs : printSaid S.pa = .tuple #[.string ⟨#[]⟩, .int .i64 4] := by unfold printSaid; rw [if_pos hpw, if_pos hl]
          rw [hs] at HPp
          have HA := hide ((unhide HPA0).trans (if_pos ⟨hkk, hl⟩))
          clear hs hl hkk h m0 m1 m2 m3 m4 hpw HPA0 HPP
          go_wp2_with fail
          refine (unhide HPp).mono ?_
          rintro e w3 ⟨rfl, hb3⟩
          have HB3 := hide ((unhide HB2).trans (hb3.mono (unhide HB2).size))
          clear hb3
          go_wp2_with fail
          go_ret2
          exact ⟨by unfold prV; rw [unhide HA]; rfl, unhide HB3⟩
        · have hs : printSaid S.pa = .tuple #[.string ⟨S.pa.txt.toArray⟩, .int .i64 0] := by unfold printSaid; rw [if_pos hpw, if_neg hl]
          rw [hs] at HPp
          have HPA := hide ((unhide HPA0).trans (if_neg (fun q => hl q.2)))
          obtain ⟨p, hp⟩ : ∃ p : ByteArray, p = ⟨S.pa.txt.toArray⟩ := ⟨_, rfl⟩
          have hps : p.size ≤ 65536 := by rw [hp]; show S.pa.txt.toArray.size ≤ 65536; rw [List.size_toArray]; omega
          have HPT : Hid (S.k = 4 ∨ S.k = 5 ∨ S.k = 6 → ((⟨#[91]⟩ : ByteArray) ++ p ++ ⟨#[93]⟩).data.toList = 91 :: (S.pa.txt ++ [93]) ∧ ((⟨#[91]⟩ : ByteArray) ++ p ++ ⟨#[93]⟩).size ≤ 65538) := hide (fun _ => ⟨by rw [hp]; exact pt_list _, by
            rw [ByteArray.size_append, ByteArray.size_append]
            have e1 : (⟨#[91]⟩ : ByteArray).size = 1 := rfl
            have e2 : (⟨#[93]⟩ : ByteArray).size = 1 := rfl
            omega⟩)
          rw [← hp] at HPp
          clear hs hl hkk h m0 m1 m2 m3 m4 hpw HPA0 HPP hp
          go_wp2_with fail
          refine (unhide HPp).mono ?_
          rintro e w3 ⟨rfl, hb3⟩
          have HB3 := hide ((unhide HB2).trans (hb3.mono (unhide HB2).size))
          have HBX3 := hide (row_below (unhide HBX2) hb3)
          clear hb3 g0 g1 g2 g3 g4 c1
          obtain ⟨zw, hzw⟩ : ∃ zw, zw = w3.alloc (.cells #[.slice none 0 0, .bool false] 52) := ⟨_, rfl⟩
          have hzb : Below w3.heap.size w3 zw := by rw [hzw]; exact ba _
          have hzi : WrI (w3.heap.size + 1) w3.heap.size zw (.slice none 0 0) [] false := by
            refine ⟨by rw [hzw]; exact at_new rfl, World.ownsRow_nil _ _ _ _, by omega, by rw [hzw]; simp⟩
          have HST := hide (stm_any2 S ((⟨#[91]⟩ : ByteArray) ++ p ++ ⟨#[93]⟩) ((unhide HPW).env.later (unhide HB3)) hzb (Nat.le_refl _) hzi ((unhide HIN).later (unhide HB3)) (unhide HWR) (unhide HPT) (by decide))
          rw [unhide HSV] at HST
          have HBZ := hide (bnext (unhide HB3) hzb)
          have HBXZ := hide (row_below (unhide HBX3) hzb)
          have HZW : Hid (w3.alloc (.cells #[.slice none 0 0, .bool false] 52) = zw) := hide (hzw.symm)
          have HZB := hide hzb
          have HZI := hide hzi
          clear hzw hzb hzi
          go_wp2_with (first
            | (refine wpList_load_row rfl 33 _ rfl w.heap.size rfl 33 C (0, 0) _ (by rw [unhide HZW]; exact unhide HBXZ) Tryz.underlying33 rfl (stSize.trans (by rw [unhide HC24])) ?_)
            | fail)
          rw [unhide HZW]
          refine (unhide HST).mono ?_
          rintro e w9 ⟨rfl, v9, o9, hx9, hw9, hg9⟩
          have HB9 : Hid (Below w.heap.size w w9) := hide ((unhide HB3).trans ((WX.bel (unhide HZB) (unhide HZI) (Nat.le_refl _) hx9).mono (unhide HB3).size))
          obtain ⟨xa, cp, hvf⟩ := bytes_form hw9.row
          subst hvf
          have c0 := hw9.c0
          have c1 := hw9.c1
          have hcv := out_str4 hw9.row
          have HG := hide hg9
          rw [Bool.false_or] at c1
          clear hx9 hw9 hg9 HST
          cases hnl : nl10 (flt (stI S))
          · rw [hnl] at c1
            have HA := unhide HPA
            rw [if_neg (by rw [hnl]; decide)] at HA
            by_cases hl : 2000 < (flt (stI S)).length
            · have q := (unhide HG).long hl
              have q2 : (2000 : Int) < (o9.length : Int) := by omega
              rw [if_pos hl] at HA
              have HA := hide HA
              clear hl q hnl
              go_wp2_with fail
              go_ret2
              exact ⟨by unfold prV; rw [unhide HA]; rfl, unhide HB9⟩
            · have q := (unhide HG).same (by rw [List.nil_append]; omega)
              rw [List.nil_append] at q
              have q2 : ¬ (2000 : Int) < (o9.length : Int) := by rw [q]; omega
              rw [if_neg hl] at HA
              have HA := hide HA
              have HQ := hide q
              clear hl q hnl
              go_wp2_with fail
              go_ret2
              exact ⟨by unfold prV; rw [unhide HA, unhide HQ]; rfl, unhide HB9⟩
          · rw [hnl] at c1
            have HA := unhide HPA
            rw [if_pos hnl] at HA
            have HA := hide HA
            clear hnl
            go_wp2_with fail
            go_ret2
            exact ⟨by unfold prV; rw [unhide HA]; rfl, unhide HB9⟩
      · have hkk : S.k = 4 ∨ S.k = 5 ∨ S.k = 6 := .inr (.inl h)
        rw [h] at c1
        obtain ⟨m0, m1, m2, m3, m4⟩ := unhide HPAT
        have g0 := cellC (unhide HBX2) m0
        have g1 := cellC (unhide HBX2) m1
        have g2 := cellC (unhide HBX2) m2
        have g3 := cellC (unhide HBX2) m3
        have g4 := cellC (unhide HBX2) m4
        have hpw := pat_right (unhide HWR) hkk
        have HPp := hide (unhide HPP w2 (unhide HB2))
        by_cases hl : 65536 < S.pa.txt.length
        · have hs : printSaid S.pa = .tuple #[.string ⟨#[]⟩, .int .i64 4] := by unfold printSaid; rw [if_pos hpw, if_pos hl]
          rw [hs] at HPp
          have HA := hide ((unhide HPA0).trans (if_pos ⟨hkk, hl⟩))
          clear hs hl hkk h m0 m1 m2 m3 m4 hpw HPA0 HPP
          go_wp2_with fail
          refine (unhide HPp).mono ?_
          rintro e w3 ⟨rfl, hb3⟩
          have HB3 := hide ((unhide HB2).trans (hb3.mono (unhide HB2).size))
          clear hb3
          go_wp2_with fail
          go_ret2
          exact ⟨by unfold prV; rw [unhide HA]; rfl, unhide HB3⟩
        · have hs : printSaid S.pa = .tuple #[.string ⟨S.pa.txt.toArray⟩, .int .i64 0] := by unfold printSaid; rw [if_pos hpw, if_neg hl]
          rw [hs] at HPp
          have HPA := hide ((unhide HPA0).trans (if_neg (fun q => hl q.2)))
          obtain ⟨p, hp⟩ : ∃ p : ByteArray, p = ⟨S.pa.txt.toArray⟩ := ⟨_, rfl⟩
          have hps : p.size ≤ 65536 := by rw [hp]; show S.pa.txt.toArray.size ≤ 65536; rw [List.size_toArray]; omega
          have HPT : Hid (S.k = 4 ∨ S.k = 5 ∨ S.k = 6 → ((⟨#[91]⟩ : ByteArray) ++ p ++ ⟨#[93]⟩).data.toList = 91 :: (S.pa.txt ++ [93]) ∧ ((⟨#[91]⟩ : ByteArray) ++ p ++ ⟨#[93]⟩).size ≤ 65538) := hide (fun _ => ⟨by rw [hp]; exact pt_list _, by
            rw [ByteArray.size_append, ByteArray.size_append]
            have e1 : (⟨#[91]⟩ : ByteArray).size = 1 := rfl
            have e2 : (⟨#[93]⟩ : ByteArray).size = 1 := rfl
            omega⟩)
          rw [← hp] at HPp
          clear hs hl hkk h m0 m1 m2 m3 m4 hpw HPA0 HPP hp
          go_wp2_with fail
          refine (unhide HPp).mono ?_
          rintro e w3 ⟨rfl, hb3⟩
          have HB3 := hide ((unhide HB2).trans (hb3.mono (unhide HB2).size))
          have HBX3 := hide (row_below (unhide HBX2) hb3)
          clear hb3 g0 g1 g2 g3 g4 c1
          obtain ⟨zw, hzw⟩ : ∃ zw, zw = w3.alloc (.cells #[.slice none 0 0, .bool false] 52) := ⟨_, rfl⟩
          have hzb : Below w3.heap.size w3 zw := by rw [hzw]; exact ba _
          have hzi : WrI (w3.heap.size + 1) w3.heap.size zw (.slice none 0 0) [] false := by
            refine ⟨by rw [hzw]; exact at_new rfl, World.ownsRow_nil _ _ _ _, by omega, by rw [hzw]; simp⟩
          have HST := hide (stm_any2 S ((⟨#[91]⟩ : ByteArray) ++ p ++ ⟨#[93]⟩) ((unhide HPW).env.later (unhide HB3)) hzb (Nat.le_refl _) hzi ((unhide HIN).later (unhide HB3)) (unhide HWR) (unhide HPT) (by decide))
          rw [unhide HSV] at HST
          have HBZ := hide (bnext (unhide HB3) hzb)
          have HBXZ := hide (row_below (unhide HBX3) hzb)
          have HZW : Hid (w3.alloc (.cells #[.slice none 0 0, .bool false] 52) = zw) := hide (hzw.symm)
          have HZB := hide hzb
          have HZI := hide hzi
          clear hzw hzb hzi
          go_wp2_with (first
            | (refine wpList_load_row rfl 33 _ rfl w.heap.size rfl 33 C (0, 0) _ (by rw [unhide HZW]; exact unhide HBXZ) Tryz.underlying33 rfl (stSize.trans (by rw [unhide HC24])) ?_)
            | fail)
          rw [unhide HZW]
          refine (unhide HST).mono ?_
          rintro e w9 ⟨rfl, v9, o9, hx9, hw9, hg9⟩
          have HB9 : Hid (Below w.heap.size w w9) := hide ((unhide HB3).trans ((WX.bel (unhide HZB) (unhide HZI) (Nat.le_refl _) hx9).mono (unhide HB3).size))
          obtain ⟨xa, cp, hvf⟩ := bytes_form hw9.row
          subst hvf
          have c0 := hw9.c0
          have c1 := hw9.c1
          have hcv := out_str4 hw9.row
          have HG := hide hg9
          rw [Bool.false_or] at c1
          clear hx9 hw9 hg9 HST
          cases hnl : nl10 (flt (stI S))
          · rw [hnl] at c1
            have HA := unhide HPA
            rw [if_neg (by rw [hnl]; decide)] at HA
            by_cases hl : 2000 < (flt (stI S)).length
            · have q := (unhide HG).long hl
              have q2 : (2000 : Int) < (o9.length : Int) := by omega
              rw [if_pos hl] at HA
              have HA := hide HA
              clear hl q hnl
              go_wp2_with fail
              go_ret2
              exact ⟨by unfold prV; rw [unhide HA]; rfl, unhide HB9⟩
            · have q := (unhide HG).same (by rw [List.nil_append]; omega)
              rw [List.nil_append] at q
              have q2 : ¬ (2000 : Int) < (o9.length : Int) := by rw [q]; omega
              rw [if_neg hl] at HA
              have HA := hide HA
              have HQ := hide q
              clear hl q hnl
              go_wp2_with fail
              go_ret2
              exact ⟨by unfold prV; rw [unhide HA, unhide HQ]; rfl, unhide HB9⟩
          · rw [hnl] at c1
            have HA := unhide HPA
            rw [if_pos hnl] at HA
            have HA := hide HA
            clear hnl
            go_wp2_with fail
            go_ret2
            exact ⟨by unfold prV; rw [unhide HA]; rfl, unhide HB9⟩
      · have hkk : S.k = 4 ∨ S.k = 5 ∨ S.k = 6 := .inr (.inr h)
        rw [h] at c1
        obtain ⟨m0, m1, m2, m3, m4⟩ := unhide HPAT
        have g0 := cellC (unhide HBX2) m0
        have g1 := cellC (unhide HBX2) m1
        have g2 := cellC (unhide HBX2) m2
        have g3 := cellC (unhide HBX2) m3
        have g4 := cellC (unhide HBX2) m4
        have hpw := pat_right (unhide HWR) hkk
        have HPp := hide (unhide HPP w2 (unhide HB2))
        by_cases hl : 65536 < S.pa.txt.length
        · have hs : printSaid S.pa = .tuple #[.string ⟨#[]⟩, .int .i64 4] := by unfold printSaid; rw [if_pos hpw, if_pos hl]
          rw [hs] at HPp
          have HA := hide ((unhide HPA0).trans (if_pos ⟨hkk, hl⟩))
          clear hs hl hkk h m0 m1 m2 m3 m4 hpw HPA0 HPP
          go_wp2_with fail
          refine (unhide HPp).mono ?_
          rintro e w3 ⟨rfl, hb3⟩
          have HB3 := hide ((unhide HB2).trans (hb3.mono (unhide HB2).size))
          clear hb3
          go_wp2_with fail
          go_ret2
          exact ⟨by unfold prV; rw [unhide HA]; rfl, unhide HB3⟩
        · have hs : printSaid S.pa = .tuple #[.string ⟨S.pa.txt.toArray⟩, .int .i64 0] := by unfold printSaid; rw [if_pos hpw, if_neg hl]
          rw [hs] at HPp
          have HPA := hide ((unhide HPA0).trans (if_neg (fun q => hl q.2)))
          obtain ⟨p, hp⟩ : ∃ p : ByteArray, p = ⟨S.pa.txt.toArray⟩ := ⟨_, rfl⟩
          have hps : p.size ≤ 65536 := by rw [hp]; show S.pa.txt.toArray.size ≤ 65536; rw [List.size_toArray]; omega
          have HPT : Hid (S.k = 4 ∨ S.k = 5 ∨ S.k = 6 → ((⟨#[91]⟩ : ByteArray) ++ p ++ ⟨#[93]⟩).data.toList = 91 :: (S.pa.txt ++ [93]) ∧ ((⟨#[91]⟩ : ByteArray) ++ p ++ ⟨#[93]⟩).size ≤ 65538) := hide (fun _ => ⟨by rw [hp]; exact pt_list _, by
            rw [ByteArray.size_append, ByteArray.size_append]
            have e1 : (⟨#[91]⟩ : ByteArray).size = 1 := rfl
            have e2 : (⟨#[93]⟩ : ByteArray).size = 1 := rfl
            omega⟩)
          rw [← hp] at HPp
          clear hs hl hkk h m0 m1 m2 m3 m4 hpw HPA0 HPP hp
          go_wp2_with fail
          refine (unhide HPp).mono ?_
          rintro e w3 ⟨rfl, hb3⟩
          have HB3 := hide ((unhide HB2).trans (hb3.mono (unhide HB2).size))
          have HBX3 := hide (row_below (unhide HBX2) hb3)
          clear hb3 g0 g1 g2 g3 g4 c1
          obtain ⟨zw, hzw⟩ : ∃ zw, zw = w3.alloc (.cells #[.slice none 0 0, .bool false] 52) := ⟨_, rfl⟩
          have hzb : Below w3.heap.size w3 zw := by rw [hzw]; exact ba _
          have hzi : WrI (w3.heap.size + 1) w3.heap.size zw (.slice none 0 0) [] false := by
            refine ⟨by rw [hzw]; exact at_new rfl, World.ownsRow_nil _ _ _ _, by omega, by rw [hzw]; simp⟩
          have HST := hide (stm_any2 S ((⟨#[91]⟩ : ByteArray) ++ p ++ ⟨#[93]⟩) ((unhide HPW).env.later (unhide HB3)) hzb (Nat.le_refl _) hzi ((unhide HIN).later (unhide HB3)) (unhide HWR) (unhide HPT) (by decide))
          rw [unhide HSV] at HST
          have HBZ := hide (bnext (unhide HB3) hzb)
          have HBXZ := hide (row_below (unhide HBX3) hzb)
          have HZW : Hid (w3.alloc (.cells #[.slice none 0 0, .bool false] 52) = zw) := hide (hzw.symm)
          have HZB := hide hzb
          have HZI := hide hzi
          clear hzw hzb hzi
          go_wp2_with (first
            | (refine wpList_load_row rfl 33 _ rfl w.heap.size rfl 33 C (0, 0) _ (by rw [unhide HZW]; exact unhide HBXZ) Tryz.underlying33 rfl (stSize.trans (by rw [unhide HC24])) ?_)
            | fail)
          rw [unhide HZW]
          refine (unhide HST).mono ?_
          rintro e w9 ⟨rfl, v9, o9, hx9, hw9, hg9⟩
          have HB9 : Hid (Below w.heap.size w w9) := hide ((unhide HB3).trans ((WX.bel (unhide HZB) (unhide HZI) (Nat.le_refl _) hx9).mono (unhide HB3).size))
          obtain ⟨xa, cp, hvf⟩ := bytes_form hw9.row
          subst hvf
          have c0 := hw9.c0
          have c1 := hw9.c1
          have hcv := out_str4 hw9.row
          have HG := hide hg9
          rw [Bool.false_or] at c1
          clear hx9 hw9 hg9 HST
          cases hnl : nl10 (flt (stI S))
          · rw [hnl] at c1
            have HA := unhide HPA
            rw [if_neg (by rw [hnl]; decide)] at HA
            by_cases hl : 2000 < (flt (stI S)).length
            · have q := (unhide HG).long hl
              have q2 : (2000 : Int) < (o9.length : Int) := by omega
              rw [if_pos hl] at HA
              have HA := hide HA
              clear hl q hnl
              go_wp2_with fail
              go_ret2
              exact ⟨by unfold prV; rw [unhide HA]; rfl, unhide HB9⟩
            · have q := (unhide HG).same (by rw [List.nil_append]; omega)
              rw [List.nil_append] at q
              have q2 : ¬ (2000 : Int) < (o9.length : Int) := by rw [q]; omega
              rw [if_neg hl] at HA
              have HA := hide HA
              have HQ := hide q
              clear hl q hnl
              go_wp2_with fail
              go_ret2
              exact ⟨by unfold prV; rw [unhide HA, unhide HQ]; rfl, unhide HB9⟩
          · rw [hnl] at c1
            have HA := unhide HPA
            rw [if_pos hnl] at HA
            have HA := hide HA
            clear hnl
            go_wp2_with fail
            go_ret2
            exact ⟨by unfold prV; rw [unhide HA]; rfl, unhide HB9⟩
    · have r4 : (S.k == 4) = false := bn
      have r5 : (S.k == 5) = false := bn
      have r6 : (S.k == 6) = false := bn
      have HPA := hide ((unhide HPA0).trans (if_neg (fun q => hkk q.1)))
      have HPT : Hid (S.k = 4 ∨ S.k = 5 ∨ S.k = 6 → (⟨#[]⟩ : ByteArray).data.toList = 91 :: (S.pa.txt ++ [93]) ∧ (⟨#[]⟩ : ByteArray).size ≤ 65538) := hide (fun q => absurd q hkk)
      clear hkk HPA0 HPP
      obtain ⟨zw, hzw⟩ : ∃ zw, zw = w2.alloc (.cells #[.slice none 0 0, .bool false] 52) := ⟨_, rfl⟩
      have hzb : Below w2.heap.size w2 zw := by rw [hzw]; exact ba _
      have hzi : WrI (w2.heap.size + 1) w2.heap.size zw (.slice none 0 0) [] false := by
        refine ⟨by rw [hzw]; exact at_new rfl, World.ownsRow_nil _ _ _ _, by omega, by rw [hzw]; simp⟩
      have HST := hide (stm_any2 S ⟨#[]⟩ ((unhide HPW).env.later (unhide HB2)) hzb (Nat.le_refl _) hzi ((unhide HIN).later (unhide HB2)) (unhide HWR) (unhide HPT) (by decide))
      rw [unhide HSV] at HST
      have HBZ := hide (bnext (unhide HB2) hzb)
      have HBXZ := hide (row_below (unhide HBX2) hzb)
      have HZW : Hid (w2.alloc (.cells #[.slice none 0 0, .bool false] 52) = zw) := hide (hzw.symm)
      have HZB := hide hzb
      have HZI := hide hzi
      clear hzw hzb hzi
      go_wp2_with (first
        | (refine wpList_load_row rfl 33 _ rfl w.heap.size rfl 33 C (0, 0) _ (by rw [unhide HZW]; exact unhide HBXZ) Tryz.underlying33 rfl (stSize.trans (by rw [unhide HC24])) ?_)
        | fail)
      rw [unhide HZW]
      refine (unhide HST).mono ?_
      rintro e w9 ⟨rfl, v9, o9, hx9, hw9, hg9⟩
      have HB9 : Hid (Below w.heap.size w w9) := hide ((unhide HB2).trans ((WX.bel (unhide HZB) (unhide HZI) (Nat.le_refl _) hx9).mono (unhide HB2).size))
      obtain ⟨xa, cp, hvf⟩ := bytes_form hw9.row
      subst hvf
      have c0 := hw9.c0
      have c1 := hw9.c1
      have hcv := out_str4 hw9.row
      have HG := hide hg9
      rw [Bool.false_or] at c1
      clear hx9 hw9 hg9 HST
      cases hnl : nl10 (flt (stI S))
      · rw [hnl] at c1
        have HA := unhide HPA
        rw [if_neg (by rw [hnl]; decide)] at HA
        by_cases hl : 2000 < (flt (stI S)).length
        · have q := (unhide HG).long hl
          have q2 : (2000 : Int) < (o9.length : Int) := by omega
          rw [if_pos hl] at HA
          have HA := hide HA
          clear hl q hnl
          go_wp2_with fail
          go_ret2
          exact ⟨by unfold prV; rw [unhide HA]; rfl, unhide HB9⟩
        · have q := (unhide HG).same (by rw [List.nil_append]; omega)
          rw [List.nil_append] at q
          have q2 : ¬ (2000 : Int) < (o9.length : Int) := by rw [q]; omega
          rw [if_neg hl] at HA
          have HA := hide HA
          have HQ := hide q
          clear hl q hnl
          go_wp2_with fail
          go_ret2
          exact ⟨by unfold prV; rw [unhide HA, unhide HQ]; rfl, unhide HB9⟩
      · rw [hnl] at c1
        have HA := unhide HPA
        rw [if_pos hnl] at HA
        have HA := hide HA
        clear hnl
        go_wp2_with fail
        go_ret2
        exact ⟨by unfold prV; rw [unhide HA]; rfl, unhide HB9⟩
  · have q0 : (S.wrong != 0) = true := by simp; exact hw
    have HA : Hid (prA S = (ByteArray.empty, S.wrong)) := hide ((unhide HPR).trans (if_pos hw))
    clear hw
    go_wp2_with fail
    go_ret2
    exact ⟨by unfold prV; rw [unhide HA]; rfl, unhide HB2⟩
end Go.Proofs.YtpphjddljngkmaaGreatDoor
