/- What a statement does, and where it goes on. -/
import Derived.Test.YtpclpjcemeckgaaDoorCdC
namespace Go.Proofs.YtpclpjcemeckgaaDoor
open Go.RowKit

/-- A program that stays as long as what is old stays. -/
structure CE (B : Nat) (w : World) (V : PV) (P : List SV) : Prop where
  prog : ∀ W, Below B w W → PIn W V P
  ten : ∀ W, Below B w W → TensAt W
theorem CE.next {B : Nat} {w w' : World} {V : PV} {P : List SV} (h : CE B w V P) (hb : Below B w w') : CE B w' V P := ⟨fun W q => h.prog W (hb.trans q), fun W q => h.ten W (hb.trans q)⟩
theorem CE.va {B : Nat} {w : World} {V : PV} {P : List SV} (h : CE B w V P) {i : Nat} {S : SV} (hS : P[i]? = some S) : XE B w V.gb (V.ob + i * 24 + 7) S.va := ⟨fun W q => by
  have r := ((h.prog W q).row i S hS).1
  refine ⟨r 7 _ rfl, ?_, ?_, ?_, ?_⟩
  · rw [show V.ob + i * 24 + 7 + 1 = V.ob + i * 24 + 8 by omega]; exact r 8 _ rfl
  · rw [show V.ob + i * 24 + 7 + 2 = V.ob + i * 24 + 9 by omega]; exact r 9 _ rfl
  · rw [show V.ob + i * 24 + 7 + 3 = V.ob + i * 24 + 10 by omega]; exact r 10 _ rfl
  · rw [show V.ob + i * 24 + 7 + 4 = V.ob + i * 24 + 11 by omega]; exact r 11 _ rfl, fun W q => ((h.prog W q).row i S hS).2.va, h.ten⟩
theorem CE.tg {B : Nat} {w : World} {V : PV} {P : List SV} (h : CE B w V P) {i : Nat} {S : SV} (hS : P[i]? = some S) : XE B w V.gb (V.ob + i * 24 + 2) S.tg := ⟨fun W q => by
  have r := ((h.prog W q).row i S hS).1
  refine ⟨r 2 _ rfl, ?_, ?_, ?_, ?_⟩
  · rw [show V.ob + i * 24 + 2 + 1 = V.ob + i * 24 + 3 by omega]; exact r 3 _ rfl
  · rw [show V.ob + i * 24 + 2 + 2 = V.ob + i * 24 + 4 by omega]; exact r 4 _ rfl
  · rw [show V.ob + i * 24 + 2 + 3 = V.ob + i * 24 + 5 by omega]; exact r 5 _ rfl
  · rw [show V.ob + i * 24 + 2 + 4 = V.ob + i * 24 + 6 by omega]; exact r 6 _ rfl, fun W q => ((h.prog W q).row i S hS).2.tg, h.ten⟩
theorem fst0_cons {x : Int} {l : List Int} (h : fst0 (x :: l) = 0) : x = 0 ∧ fst0 l = 0 := by
  have h : (if x = 0 then fst0 l else x) = 0 := h
  by_cases q : x = 0
  · rw [if_pos q] at h; exact ⟨q, h⟩
  · rw [if_neg q] at h; exact absurd h q
theorem wrongX_zero {T : PT} (h : T.wrongX = 0) : T.badX = 0 ∧ T.cnt ≤ 4096 := by
  unfold PT.wrongX at h
  cases hf : T.fits
  · rw [hf, if_neg (by decide)] at h; cases h
  · rw [hf, if_pos rfl] at h
    unfold PT.fits at hf
    rw [Bool.and_eq_true] at hf
    exact ⟨h, of_decide_eq_true hf.1⟩
theorem tgE_zero {T : PT} (h : tgE T = 0) : T.badX = 0 ∧ T.cnt ≤ 4096 ∧ isPl T.k = true := by
  unfold tgE at h
  by_cases q : T.wrongX = 0
  · rw [if_neg (fun r => r q)] at h
    cases hp : isPl T.k
    · rw [hp, if_neg (by decide)] at h; cases h
    · exact ⟨(wrongX_zero q).1, (wrongX_zero q).2, rfl⟩
  · rw [if_pos q] at h; exact absurd h q
/-- What a statement's kind has is right. -/
structure SR (S : SV) : Prop where
  k : 1 ≤ S.k ∧ S.k ≤ 7
  va : S.k = 2 ∨ S.k = 3 ∨ S.k = 4 ∨ S.k = 5 → S.va.badX = 0 ∧ S.va.cnt ≤ 4096
  tg : S.k = 3 ∨ S.k = 5 → S.tg.badX = 0 ∧ S.tg.cnt ≤ 4096 ∧ isPl S.tg.k = true
  lab : S.al.size ≤ 16 ∧ S.ye.size ≤ 16 ∧ S.no.size ≤ 16 ∧ S.lab.size ≤ 16
theorem ok_size {t : ByteArray} (h : okL t = true) : t.size ≤ 16 := by
  unfold okL at h
  rw [Bool.or_eq_true] at h
  rcases h with h | h
  · rw [ByteArray.toList_eq, List.isEmpty_iff] at h
    have : t.size = t.data.toList.length := rfl
    rw [this, h]; exact Nat.zero_le _
  · unfold named at h
    rw [Bool.and_eq_true] at h
    exact of_decide_eq_true h.1
theorem sv_right {S : SV} (h : S.wrong = 0) : SR S := by
  unfold SV.wrong at h
  by_cases hl : S.lbl.all okL = true
  · rw [if_pos hl] at h
    have hok : ∀ t ∈ S.lbl, t.size ≤ 16 := fun t ht => ok_size (List.all_eq_true.1 hl t ht)
    by_cases h8 : S.al.toList.isEmpty = false ∧ (S.ye.toList.isEmpty = false ∨ S.no.toList.isEmpty = false)
    · rw [if_pos h8] at h; cases h
    · rw [if_neg h8] at h
      unfold SV.kndE at h
      have lb : S.al.size ≤ 16 ∧ S.ye.size ≤ 16 ∧ S.no.size ≤ 16 ∧ S.lab.size ≤ 16 := ⟨hok _ (by simp [SV.lbl]), hok _ (by simp [SV.lbl]), hok _ (by simp [SV.lbl]), hok _ (by simp [SV.lbl])⟩
      by_cases k1 : S.k = 1
      · exact ⟨by omega, fun q => by omega, fun q => by omega, lb⟩
      rw [if_neg k1] at h
      by_cases k2 : S.k = 2
      · rw [if_pos k2] at h
        exact ⟨by omega, fun _ => wrongX_zero h, fun q => by omega, lb⟩
      rw [if_neg k2] at h
      by_cases k4 : S.k = 4
      · rw [if_pos k4] at h
        exact ⟨by omega, fun _ => wrongX_zero (fst0_cons h).1, fun q => by omega, lb⟩
      rw [if_neg k4] at h
      by_cases k3 : S.k = 3
      · rw [if_pos k3] at h
        exact ⟨by omega, fun _ => wrongX_zero (fst0_cons (fst0_cons h).2).1, fun _ => tgE_zero (fst0_cons h).1, lb⟩
      rw [if_neg k3] at h
      by_cases k5 : S.k = 5
      · rw [if_pos k5] at h
        exact ⟨by omega, fun _ => wrongX_zero (fst0_cons (fst0_cons (fst0_cons h).2).2).1, fun _ => tgE_zero (fst0_cons h).1, lb⟩
      rw [if_neg k5] at h
      by_cases k6 : S.k = 6
      · exact ⟨by omega, fun q => by omega, fun q => by omega, lb⟩
      rw [if_neg k6] at h
      by_cases k7 : S.k = 7
      · exact ⟨by omega, fun q => by omega, fun q => by omega, lb⟩
      rw [if_neg k7] at h
      cases h
  · rw [if_neg hl] at h; cases h
set_option maxRecDepth 100000 in
set_option maxHeartbeats 4000000 in
theorem body_2 (S : SV) (i : Nat) (B z bl n : Nat) (V : PV) (P : List SV) (fl : ByteArray → Option Int) (out : List IN) (sts : List Nat) (w : World) (hM : MkM B z bl n (V.v P.length) fl out sts w) (hE : CE B w V P) (hS : P[i]? = some S) (hR : SR S) (hk : S.k = 2) (hl : out.length ≤ 90000000) :
    Calls Tryd.prog 13 #[.pointer (some ⟨z, 0, none⟩), .int .i64 (i : Int)] w (MkPost B z bl n (V.v P.length) fl (out ++ bodyI i S) sts w) := by
  have hil : i < P.length := (List.getElem?_eq_some_iff.1 hS).1
  have hp := hE.prog w (Below.refl _ _)
  have hat := hp.at_ (by omega)
  have c1 := (hp.row i S hS).1 1 _ (show S.cells.toList[1]? = some (.int .i64 S.k) from rfl)
  have hix := idx24 (g := V.gb) (o := V.ob) (cap := V.cap) (n := P.length) (i := i) hil
  rw [← hat] at hix
  have c0 := hM.c0
  unfold PV.v at hM c0 ⊢
  have HM0 := hide (And.intro hM (Below.refl B w))
  have HB := hide (show bodyI i S = S.va.cod ++ [i0 17] by unfold bodyI; rw [if_pos hk])
  have hva := hR.va (by omega)
  have HXV := hide (hE.va hS)
  have HVB := hide hva.1
  have hvl := S.va.cod_len
  have u := hR
  rw [unhide HB]
  rw [hk] at c1
  have HL0 := hide (show (out).length ≤ 95000000 by first | omega | (simp; omega))
  have HL1 := hide (show ((out ++ S.va.cod)).length ≤ 95000000 by first | omega | (simp; omega))
  have HF := hide (show out ++ (S.va.cod ++ [i0 17]) = ((out ++ S.va.cod) ++ [i0 17]) by first | rfl | simp only [List.append_assoc])
  rw [unhide HF]
  clear u hM hp hk HB hR hE hS hat hl HF
  go_enter Tryd.func13, Tryd.ntmps13
  have HC0 := hide (show Calls Tryd.prog 20 #[.pointer (some ⟨z, 0, none⟩), .pointer (some ⟨V.gb, V.ob + i * 24 + 7, none⟩)] w (MkPost B z bl n (.slice V.xa P.length V.cap) fl (out ++ S.va.cod) sts w) from cod_any S.va B z bl n _ fl _ sts w V.gb (V.ob + i * 24 + 7) (unhide HM0).1 ((unhide HXV).next (unhide HM0).2) (unhide HVB) (by have := unhide HL0; omega))
  go_wp2_with fail
  refine (unhide HC0).mono ?_
  rintro e w1 ⟨rfl, hM1, hb1⟩
  have HM1 := hide (And.intro hM1 ((unhide HM0).2.trans hb1))
  clear hM1 hb1 HC0
  have HC1 := hide (show Calls Tryd.prog 10 #[.pointer (some ⟨z, 0, none⟩), .agg #[.int .i64 17, .string ⟨#[]⟩, .int .i64 0, .int .i64 0]] w1 (MkPost B z bl n (.slice V.xa P.length V.cap) fl ((out ++ S.va.cod) ++ [i0 17]) sts w1) from adI_any w1 (i0 17) (unhide HM1).1 (by have := unhide HL1; omega))
  go_wp2_with fail
  refine (unhide HC1).mono ?_
  rintro e w2 ⟨rfl, hM2, hb2⟩
  have HM2 := hide (And.intro hM2 ((unhide HM1).2.trans hb2))
  clear hM2 hb2 HC1
  go_wp2_with fail
  go_end0
  exact ⟨rfl, unhide HM2⟩
set_option maxRecDepth 100000 in
set_option maxHeartbeats 4000000 in
theorem body_4 (S : SV) (i : Nat) (B z bl n : Nat) (V : PV) (P : List SV) (fl : ByteArray → Option Int) (out : List IN) (sts : List Nat) (w : World) (hM : MkM B z bl n (V.v P.length) fl out sts w) (hE : CE B w V P) (hS : P[i]? = some S) (hR : SR S) (hk : S.k = 4) (hl : out.length ≤ 90000000) :
    Calls Tryd.prog 13 #[.pointer (some ⟨z, 0, none⟩), .int .i64 (i : Int)] w (MkPost B z bl n (V.v P.length) fl (out ++ bodyI i S) sts w) := by
  have hil : i < P.length := (List.getElem?_eq_some_iff.1 hS).1
  have hp := hE.prog w (Below.refl _ _)
  have hat := hp.at_ (by omega)
  have c1 := (hp.row i S hS).1 1 _ (show S.cells.toList[1]? = some (.int .i64 S.k) from rfl)
  have hix := idx24 (g := V.gb) (o := V.ob) (cap := V.cap) (n := P.length) (i := i) hil
  rw [← hat] at hix
  have c0 := hM.c0
  unfold PV.v at hM c0 ⊢
  have HM0 := hide (And.intro hM (Below.refl B w))
  have HB := hide (show bodyI i S = S.va.cod ++ [iN 13 (i : Int)] by unfold bodyI; rw [if_neg (by omega)]; rw [if_pos hk])
  have hva := hR.va (by omega)
  have HXV := hide (hE.va hS)
  have HVB := hide hva.1
  have hvl := S.va.cod_len
  have u := hR
  rw [unhide HB]
  rw [hk] at c1
  have HL0 := hide (show (out).length ≤ 95000000 by first | omega | (simp; omega))
  have HL1 := hide (show ((out ++ S.va.cod)).length ≤ 95000000 by first | omega | (simp; omega))
  have HF := hide (show out ++ (S.va.cod ++ [iN 13 (i : Int)]) = ((out ++ S.va.cod) ++ [iN 13 (i : Int)]) by first | rfl | simp only [List.append_assoc])
  rw [unhide HF]
  clear u hM hp hk HB hR hE hS hat hl HF
  go_enter Tryd.func13, Tryd.ntmps13
  have HC0 := hide (show Calls Tryd.prog 20 #[.pointer (some ⟨z, 0, none⟩), .pointer (some ⟨V.gb, V.ob + i * 24 + 7, none⟩)] w (MkPost B z bl n (.slice V.xa P.length V.cap) fl (out ++ S.va.cod) sts w) from cod_any S.va B z bl n _ fl _ sts w V.gb (V.ob + i * 24 + 7) (unhide HM0).1 ((unhide HXV).next (unhide HM0).2) (unhide HVB) (by have := unhide HL0; omega))
  go_wp2_with fail
  refine (unhide HC0).mono ?_
  rintro e w1 ⟨rfl, hM1, hb1⟩
  have HM1 := hide (And.intro hM1 ((unhide HM0).2.trans hb1))
  clear hM1 hb1 HC0
  have HC1 := hide (show Calls Tryd.prog 10 #[.pointer (some ⟨z, 0, none⟩), .agg #[.int .i64 13, .string ⟨#[]⟩, .int .i64 (i : Int), .int .i64 0]] w1 (MkPost B z bl n (.slice V.xa P.length V.cap) fl ((out ++ S.va.cod) ++ [iN 13 (i : Int)]) sts w1) from adI_any w1 (iN 13 (i : Int)) (unhide HM1).1 (by have := unhide HL1; omega))
  go_wp2_with fail
  refine (unhide HC1).mono ?_
  rintro e w2 ⟨rfl, hM2, hb2⟩
  have HM2 := hide (And.intro hM2 ((unhide HM1).2.trans hb2))
  clear hM2 hb2 HC1
  go_wp2_with fail
  go_end0
  exact ⟨rfl, unhide HM2⟩
set_option maxRecDepth 100000 in
set_option maxHeartbeats 4000000 in
theorem body_3 (S : SV) (i : Nat) (B z bl n : Nat) (V : PV) (P : List SV) (fl : ByteArray → Option Int) (out : List IN) (sts : List Nat) (w : World) (hM : MkM B z bl n (V.v P.length) fl out sts w) (hE : CE B w V P) (hS : P[i]? = some S) (hR : SR S) (hk : S.k = 3) (hl : out.length ≤ 90000000) :
    Calls Tryd.prog 13 #[.pointer (some ⟨z, 0, none⟩), .int .i64 (i : Int)] w (MkPost B z bl n (V.v P.length) fl (out ++ bodyI i S) sts w) := by
  have hil : i < P.length := (List.getElem?_eq_some_iff.1 hS).1
  have hp := hE.prog w (Below.refl _ _)
  have hat := hp.at_ (by omega)
  have c1 := (hp.row i S hS).1 1 _ (show S.cells.toList[1]? = some (.int .i64 S.k) from rfl)
  have hix := idx24 (g := V.gb) (o := V.ob) (cap := V.cap) (n := P.length) (i := i) hil
  rw [← hat] at hix
  have c0 := hM.c0
  unfold PV.v at hM c0 ⊢
  have HM0 := hide (And.intro hM (Below.refl B w))
  have HB := hide (show bodyI i S = plcI S.tg ++ S.va.cod ++ [i0 16] by unfold bodyI; rw [if_neg (by omega)]; rw [if_neg (by omega)]; rw [if_pos hk])
  have hva := hR.va (by omega)
  have HXV := hide (hE.va hS)
  have HVB := hide hva.1
  have hvl := S.va.cod_len
  have htg := hR.tg (by omega)
  have HXT := hide (hE.tg hS)
  have HTB := hide htg
  have htl := plcI_len S.tg
  rw [unhide HB]
  rw [hk] at c1
  have HL0 := hide (show (out).length ≤ 95000000 by first | omega | (simp; omega))
  have HL1 := hide (show ((out ++ plcI S.tg)).length ≤ 95000000 by first | omega | (simp; omega))
  have HL2 := hide (show (((out ++ plcI S.tg) ++ S.va.cod)).length ≤ 95000000 by first | omega | (simp; omega))
  have HF := hide (show out ++ (plcI S.tg ++ S.va.cod ++ [i0 16]) = (((out ++ plcI S.tg) ++ S.va.cod) ++ [i0 16]) by first | rfl | simp only [List.append_assoc])
  rw [unhide HF]
  clear hM hp hk HB hR hE hS hat hl HF
  go_enter Tryd.func13, Tryd.ntmps13
  have HC0 := hide (show Calls Tryd.prog 21 #[.pointer (some ⟨z, 0, none⟩), .pointer (some ⟨V.gb, V.ob + i * 24 + 2, none⟩)] w (MkPost B z bl n (.slice V.xa P.length V.cap) fl (out ++ plcI S.tg) sts w) from place_any S.tg B z bl n _ fl _ sts w V.gb (V.ob + i * 24 + 2) (unhide HM0).1 ((unhide HXT).next (unhide HM0).2) (unhide HTB).1 (unhide HTB).2.2 (by have := unhide HL0; omega))
  go_wp2_with fail
  refine (unhide HC0).mono ?_
  rintro e w1 ⟨rfl, hM1, hb1⟩
  have HM1 := hide (And.intro hM1 ((unhide HM0).2.trans hb1))
  clear hM1 hb1 HC0
  have HC1 := hide (show Calls Tryd.prog 20 #[.pointer (some ⟨z, 0, none⟩), .pointer (some ⟨V.gb, V.ob + i * 24 + 7, none⟩)] w1 (MkPost B z bl n (.slice V.xa P.length V.cap) fl ((out ++ plcI S.tg) ++ S.va.cod) sts w1) from cod_any S.va B z bl n _ fl _ sts w1 V.gb (V.ob + i * 24 + 7) (unhide HM1).1 ((unhide HXV).next (unhide HM1).2) (unhide HVB) (by have := unhide HL1; omega))
  go_wp2_with fail
  refine (unhide HC1).mono ?_
  rintro e w2 ⟨rfl, hM2, hb2⟩
  have HM2 := hide (And.intro hM2 ((unhide HM1).2.trans hb2))
  clear hM2 hb2 HC1
  have HC2 := hide (show Calls Tryd.prog 10 #[.pointer (some ⟨z, 0, none⟩), .agg #[.int .i64 16, .string ⟨#[]⟩, .int .i64 0, .int .i64 0]] w2 (MkPost B z bl n (.slice V.xa P.length V.cap) fl (((out ++ plcI S.tg) ++ S.va.cod) ++ [i0 16]) sts w2) from adI_any w2 (i0 16) (unhide HM2).1 (by have := unhide HL2; omega))
  go_wp2_with fail
  refine (unhide HC2).mono ?_
  rintro e w3 ⟨rfl, hM3, hb3⟩
  have HM3 := hide (And.intro hM3 ((unhide HM2).2.trans hb3))
  clear hM3 hb3 HC2
  go_wp2_with fail
  go_end0
  exact ⟨rfl, unhide HM3⟩
set_option maxRecDepth 100000 in
set_option maxHeartbeats 4000000 in
theorem body_5 (S : SV) (i : Nat) (B z bl n : Nat) (V : PV) (P : List SV) (fl : ByteArray → Option Int) (out : List IN) (sts : List Nat) (w : World) (hM : MkM B z bl n (V.v P.length) fl out sts w) (hE : CE B w V P) (hS : P[i]? = some S) (hR : SR S) (hk : S.k = 5) (hl : out.length ≤ 90000000) :
    Calls Tryd.prog 13 #[.pointer (some ⟨z, 0, none⟩), .int .i64 (i : Int)] w (MkPost B z bl n (V.v P.length) fl (out ++ bodyI i S) sts w) := by
  have hil : i < P.length := (List.getElem?_eq_some_iff.1 hS).1
  have hp := hE.prog w (Below.refl _ _)
  have hat := hp.at_ (by omega)
  have c1 := (hp.row i S hS).1 1 _ (show S.cells.toList[1]? = some (.int .i64 S.k) from rfl)
  have hix := idx24 (g := V.gb) (o := V.ob) (cap := V.cap) (n := P.length) (i := i) hil
  rw [← hat] at hix
  have c0 := hM.c0
  unfold PV.v at hM c0 ⊢
  have HM0 := hide (And.intro hM (Below.refl B w))
  have HB := hide (show bodyI i S = plcI S.tg ++ [i0 12] ++ [iN 14 (i : Int)] ++ S.va.cod ++ [i0 15] ++ [i0 16] by unfold bodyI; rw [if_neg (by omega)]; rw [if_neg (by omega)]; rw [if_neg (by omega)]; rw [if_pos hk])
  have hva := hR.va (by omega)
  have HXV := hide (hE.va hS)
  have HVB := hide hva.1
  have hvl := S.va.cod_len
  have htg := hR.tg (by omega)
  have HXT := hide (hE.tg hS)
  have HTB := hide htg
  have htl := plcI_len S.tg
  rw [unhide HB]
  rw [hk] at c1
  have HL0 := hide (show (out).length ≤ 95000000 by first | omega | (simp; omega))
  have HL1 := hide (show ((out ++ plcI S.tg)).length ≤ 95000000 by first | omega | (simp; omega))
  have HL2 := hide (show (((out ++ plcI S.tg) ++ [i0 12])).length ≤ 95000000 by first | omega | (simp; omega))
  have HL3 := hide (show ((((out ++ plcI S.tg) ++ [i0 12]) ++ [iN 14 (i : Int)])).length ≤ 95000000 by first | omega | (simp; omega))
  have HL4 := hide (show (((((out ++ plcI S.tg) ++ [i0 12]) ++ [iN 14 (i : Int)]) ++ S.va.cod)).length ≤ 95000000 by first | omega | (simp; omega))
  have HL5 := hide (show ((((((out ++ plcI S.tg) ++ [i0 12]) ++ [iN 14 (i : Int)]) ++ S.va.cod) ++ [i0 15])).length ≤ 95000000 by first | omega | (simp; omega))
  have HF := hide (show out ++ (plcI S.tg ++ [i0 12] ++ [iN 14 (i : Int)] ++ S.va.cod ++ [i0 15] ++ [i0 16]) = ((((((out ++ plcI S.tg) ++ [i0 12]) ++ [iN 14 (i : Int)]) ++ S.va.cod) ++ [i0 15]) ++ [i0 16]) by first | rfl | simp only [List.append_assoc])
  rw [unhide HF]
  clear hM hp hk HB hR hE hS hat hl HF
  go_enter Tryd.func13, Tryd.ntmps13
  have HC0 := hide (show Calls Tryd.prog 21 #[.pointer (some ⟨z, 0, none⟩), .pointer (some ⟨V.gb, V.ob + i * 24 + 2, none⟩)] w (MkPost B z bl n (.slice V.xa P.length V.cap) fl (out ++ plcI S.tg) sts w) from place_any S.tg B z bl n _ fl _ sts w V.gb (V.ob + i * 24 + 2) (unhide HM0).1 ((unhide HXT).next (unhide HM0).2) (unhide HTB).1 (unhide HTB).2.2 (by have := unhide HL0; omega))
  go_wp2_with fail
  refine (unhide HC0).mono ?_
  rintro e w1 ⟨rfl, hM1, hb1⟩
  have HM1 := hide (And.intro hM1 ((unhide HM0).2.trans hb1))
  clear hM1 hb1 HC0
  have HC1 := hide (show Calls Tryd.prog 10 #[.pointer (some ⟨z, 0, none⟩), .agg #[.int .i64 12, .string ⟨#[]⟩, .int .i64 0, .int .i64 0]] w1 (MkPost B z bl n (.slice V.xa P.length V.cap) fl ((out ++ plcI S.tg) ++ [i0 12]) sts w1) from adI_any w1 (i0 12) (unhide HM1).1 (by have := unhide HL1; omega))
  go_wp2_with fail
  refine (unhide HC1).mono ?_
  rintro e w2 ⟨rfl, hM2, hb2⟩
  have HM2 := hide (And.intro hM2 ((unhide HM1).2.trans hb2))
  clear hM2 hb2 HC1
  have HC2 := hide (show Calls Tryd.prog 10 #[.pointer (some ⟨z, 0, none⟩), .agg #[.int .i64 14, .string ⟨#[]⟩, .int .i64 (i : Int), .int .i64 0]] w2 (MkPost B z bl n (.slice V.xa P.length V.cap) fl (((out ++ plcI S.tg) ++ [i0 12]) ++ [iN 14 (i : Int)]) sts w2) from adI_any w2 (iN 14 (i : Int)) (unhide HM2).1 (by have := unhide HL2; omega))
  go_wp2_with fail
  refine (unhide HC2).mono ?_
  rintro e w3 ⟨rfl, hM3, hb3⟩
  have HM3 := hide (And.intro hM3 ((unhide HM2).2.trans hb3))
  clear hM3 hb3 HC2
  have HC3 := hide (show Calls Tryd.prog 20 #[.pointer (some ⟨z, 0, none⟩), .pointer (some ⟨V.gb, V.ob + i * 24 + 7, none⟩)] w3 (MkPost B z bl n (.slice V.xa P.length V.cap) fl ((((out ++ plcI S.tg) ++ [i0 12]) ++ [iN 14 (i : Int)]) ++ S.va.cod) sts w3) from cod_any S.va B z bl n _ fl _ sts w3 V.gb (V.ob + i * 24 + 7) (unhide HM3).1 ((unhide HXV).next (unhide HM3).2) (unhide HVB) (by have := unhide HL3; omega))
  go_wp2_with fail
  refine (unhide HC3).mono ?_
  rintro e w4 ⟨rfl, hM4, hb4⟩
  have HM4 := hide (And.intro hM4 ((unhide HM3).2.trans hb4))
  clear hM4 hb4 HC3
  have HC4 := hide (show Calls Tryd.prog 10 #[.pointer (some ⟨z, 0, none⟩), .agg #[.int .i64 15, .string ⟨#[]⟩, .int .i64 0, .int .i64 0]] w4 (MkPost B z bl n (.slice V.xa P.length V.cap) fl (((((out ++ plcI S.tg) ++ [i0 12]) ++ [iN 14 (i : Int)]) ++ S.va.cod) ++ [i0 15]) sts w4) from adI_any w4 (i0 15) (unhide HM4).1 (by have := unhide HL4; omega))
  go_wp2_with fail
  refine (unhide HC4).mono ?_
  rintro e w5 ⟨rfl, hM5, hb5⟩
  have HM5 := hide (And.intro hM5 ((unhide HM4).2.trans hb5))
  clear hM5 hb5 HC4
  have HC5 := hide (show Calls Tryd.prog 10 #[.pointer (some ⟨z, 0, none⟩), .agg #[.int .i64 16, .string ⟨#[]⟩, .int .i64 0, .int .i64 0]] w5 (MkPost B z bl n (.slice V.xa P.length V.cap) fl ((((((out ++ plcI S.tg) ++ [i0 12]) ++ [iN 14 (i : Int)]) ++ S.va.cod) ++ [i0 15]) ++ [i0 16]) sts w5) from adI_any w5 (i0 16) (unhide HM5).1 (by have := unhide HL5; omega))
  go_wp2_with fail
  refine (unhide HC5).mono ?_
  rintro e w6 ⟨rfl, hM6, hb6⟩
  have HM6 := hide (And.intro hM6 ((unhide HM5).2.trans hb6))
  clear hM6 hb6 HC5
  go_wp2_with fail
  go_end0
  exact ⟨rfl, unhide HM6⟩
set_option maxRecDepth 100000 in
set_option maxHeartbeats 4000000 in
theorem body_6 (S : SV) (i : Nat) (B z bl n : Nat) (V : PV) (P : List SV) (fl : ByteArray → Option Int) (out : List IN) (sts : List Nat) (w : World) (hM : MkM B z bl n (V.v P.length) fl out sts w) (hE : CE B w V P) (hS : P[i]? = some S) (hR : SR S) (hk : S.k = 6) (hl : out.length ≤ 90000000) :
    Calls Tryd.prog 13 #[.pointer (some ⟨z, 0, none⟩), .int .i64 (i : Int)] w (MkPost B z bl n (V.v P.length) fl (out ++ bodyI i S) sts w) := by
  have hil : i < P.length := (List.getElem?_eq_some_iff.1 hS).1
  have hp := hE.prog w (Below.refl _ _)
  have hat := hp.at_ (by omega)
  have c1 := (hp.row i S hS).1 1 _ (show S.cells.toList[1]? = some (.int .i64 S.k) from rfl)
  have hix := idx24 (g := V.gb) (o := V.ob) (cap := V.cap) (n := P.length) (i := i) hil
  rw [← hat] at hix
  have c0 := hM.c0
  unfold PV.v at hM c0 ⊢
  have HM0 := hide (And.intro hM (Below.refl B w))
  have HB := hide (show bodyI i S = [iN 18 (i : Int)] by unfold bodyI; rw [if_neg (by omega)]; rw [if_neg (by omega)]; rw [if_neg (by omega)]; rw [if_neg (by omega)]; rw [if_pos hk])
  have u := hR
  rw [unhide HB]
  rw [hk] at c1
  have HL0 := hide (show (out).length ≤ 95000000 by first | omega | (simp; omega))
  have HF := hide (show out ++ ([iN 18 (i : Int)]) = (out ++ [iN 18 (i : Int)]) by first | rfl | simp only [List.append_assoc])
  rw [unhide HF]
  clear u hM hp hk HB hR hE hS hat hl HF
  go_enter Tryd.func13, Tryd.ntmps13
  have HC0 := hide (show Calls Tryd.prog 10 #[.pointer (some ⟨z, 0, none⟩), .agg #[.int .i64 18, .string ⟨#[]⟩, .int .i64 (i : Int), .int .i64 0]] w (MkPost B z bl n (.slice V.xa P.length V.cap) fl (out ++ [iN 18 (i : Int)]) sts w) from adI_any w (iN 18 (i : Int)) (unhide HM0).1 (by have := unhide HL0; omega))
  go_wp2_with fail
  refine (unhide HC0).mono ?_
  rintro e w1 ⟨rfl, hM1, hb1⟩
  have HM1 := hide (And.intro hM1 ((unhide HM0).2.trans hb1))
  clear hM1 hb1 HC0
  go_wp2_with fail
  go_end0
  exact ⟨rfl, unhide HM1⟩
set_option maxRecDepth 100000 in
set_option maxHeartbeats 4000000 in
theorem body_1 (S : SV) (i : Nat) (B z bl n : Nat) (V : PV) (P : List SV) (fl : ByteArray → Option Int) (out : List IN) (sts : List Nat) (w : World) (hM : MkM B z bl n (V.v P.length) fl out sts w) (hE : CE B w V P) (hS : P[i]? = some S) (hR : SR S) (hk : S.k = 1 ∨ S.k = 7) (hl : out.length ≤ 90000000) :
    Calls Tryd.prog 13 #[.pointer (some ⟨z, 0, none⟩), .int .i64 (i : Int)] w (MkPost B z bl n (V.v P.length) fl (out ++ bodyI i S) sts w) := by
  have hil : i < P.length := (List.getElem?_eq_some_iff.1 hS).1
  have hp := hE.prog w (Below.refl _ _)
  have hat := hp.at_ (by omega)
  have c1 := (hp.row i S hS).1 1 _ (show S.cells.toList[1]? = some (.int .i64 S.k) from rfl)
  have hix := idx24 (g := V.gb) (o := V.ob) (cap := V.cap) (n := P.length) (i := i) hil
  rw [← hat] at hix
  have c0 := hM.c0
  unfold PV.v at hM c0 ⊢
  have HM0 := hide (And.intro hM (Below.refl B w))
  have HB := hide (show bodyI i S = [] by unfold bodyI; rw [if_neg (by omega)]; rw [if_neg (by omega)]; rw [if_neg (by omega)]; rw [if_neg (by omega)]; rw [if_neg (by omega)])
  have u := hR
  rw [unhide HB]
  rw [List.append_nil]
  have q2 : (S.k == 2) = false := by rw [beq_eq_false_iff_ne]; omega
  have q4 : (S.k == 4) = false := by rw [beq_eq_false_iff_ne]; omega
  have q3 : (S.k == 3) = false := by rw [beq_eq_false_iff_ne]; omega
  have q5 : (S.k == 5) = false := by rw [beq_eq_false_iff_ne]; omega
  have q6 : (S.k == 6) = false := by rw [beq_eq_false_iff_ne]; omega
  have u2 := hl
  clear u u2 hM hp hk HB hR hE hS hat
  go_enter Tryd.func13, Tryd.ntmps13
  go_wp2_with fail
  go_end0
  exact ⟨rfl, unhide HM0⟩
theorem body_any (S : SV) (i : Nat) (B z bl n : Nat) (V : PV) (P : List SV) (fl : ByteArray → Option Int) (out : List IN) (sts : List Nat) (w : World) (hM : MkM B z bl n (V.v P.length) fl out sts w) (hE : CE B w V P) (hS : P[i]? = some S) (hR : SR S) (hl : out.length ≤ 90000000) :
    Calls Tryd.prog 13 #[.pointer (some ⟨z, 0, none⟩), .int .i64 (i : Int)] w (MkPost B z bl n (V.v P.length) fl (out ++ bodyI i S) sts w) := by
  have hk := hR.k
  by_cases h2 : S.k = 2
  · exact body_2 S i B z bl n V P fl out sts w hM hE hS hR h2 hl
  by_cases h3 : S.k = 3
  · exact body_3 S i B z bl n V P fl out sts w hM hE hS hR h3 hl
  by_cases h4 : S.k = 4
  · exact body_4 S i B z bl n V P fl out sts w hM hE hS hR h4 hl
  by_cases h5 : S.k = 5
  · exact body_5 S i B z bl n V P fl out sts w hM hE hS hR h5 hl
  by_cases h6 : S.k = 6
  · exact body_6 S i B z bl n V P fl out sts w hM hE hS hR h6 hl
  exact body_1 S i B z bl n V P fl out sts w hM hE hS hR (by omega) hl
set_option maxRecDepth 100000 in
set_option maxHeartbeats 4000000 in
theorem way_any (t : ByteArray) (i m : Nat) (B z bl n : Nat) (pv : Value) (fl : ByteArray → Option Int) (out : List IN) (sts : List Nat) (w : World) (hM : MkM B z bl n pv fl out sts w) (ht : t.size ≤ maxLen) (hi : i ≤ 1000) (hm : (fl t).getD 0 = (m : Int)) (hl : out.length ≤ 95000000) :
    Calls Tryd.prog 22 #[.pointer (some ⟨z, 0, none⟩), .int .i64 (i : Int), .string t] w (MkPost B z bl n pv fl (out ++ [wayI fl i t]) sts w) := by
  by_cases h1 : t = ⟨#[69, 78, 68]⟩
  · have HE := hide (show wayI fl i t = i0 22 by unfold wayI tEnd; rw [if_pos h1])
    rw [unhide HE]
    have HA := hide (show Calls Tryd.prog 10 #[.pointer (some ⟨z, 0, none⟩), .agg #[.int .i64 22, .string ⟨#[]⟩, .int .i64 0, .int .i64 0]] w (MkPost B z bl n pv fl (out ++ [i0 22]) sts w) from adI_any w (i0 22) hM (by omega))
    subst h1
    clear HE hM ht hm
    go_enter Tryd.func22, Tryd.ntmps22
    go_wp2_with fail
    refine (unhide HA).mono ?_
    rintro e w2 ⟨rfl, hp⟩
    have HZ := hide hp
    clear hp
    go_wp2_with fail
    go_end0
    exact ⟨rfl, unhide HZ⟩
  · have q1 := neL h1
    by_cases h2 : t = ⟨#[82, 69, 84, 85, 82, 78]⟩
    · have HE := hide (show wayI fl i t = i0 20 by unfold wayI tEnd tRet; rw [if_neg h1, if_pos h2])
      rw [unhide HE]
      have HA := hide (show Calls Tryd.prog 10 #[.pointer (some ⟨z, 0, none⟩), .agg #[.int .i64 20, .string ⟨#[]⟩, .int .i64 0, .int .i64 0]] w (MkPost B z bl n pv fl (out ++ [i0 20]) sts w) from adI_any w (i0 20) hM (by omega))
      subst h2
      clear HE hM ht hm h1
      go_enter Tryd.func22, Tryd.ntmps22
      go_wp2_with fail
      refine (unhide HA).mono ?_
      rintro e w2 ⟨rfl, hp⟩
      have HZ := hide hp
      clear hp
      go_wp2_with fail
      go_end0
      exact ⟨rfl, unhide HZ⟩
    · have q2 := neL h2
      by_cases h3 : t = ⟨#[70, 82, 69, 84, 85, 82, 78]⟩
      · have HE := hide (show wayI fl i t = i0 21 by unfold wayI tEnd tRet tFre; rw [if_neg h1, if_neg h2, if_pos h3])
        rw [unhide HE]
        have HA := hide (show Calls Tryd.prog 10 #[.pointer (some ⟨z, 0, none⟩), .agg #[.int .i64 21, .string ⟨#[]⟩, .int .i64 0, .int .i64 0]] w (MkPost B z bl n pv fl (out ++ [i0 21]) sts w) from adI_any w (i0 21) hM (by omega))
        subst h3
        clear HE hM ht hm h1 h2
        go_enter Tryd.func22, Tryd.ntmps22
        go_wp2_with fail
        refine (unhide HA).mono ?_
        rintro e w2 ⟨rfl, hp⟩
        have HZ := hide hp
        clear hp
        go_wp2_with fail
        go_end0
        exact ⟨rfl, unhide HZ⟩
      · have q3 := neL h3
        cases he : t.toList.isEmpty
        · have HE := hide (show wayI fl i t = ⟨19, ByteArray.empty, 0, (m : Int)⟩ by unfold wayI tEnd tRet tFre; rw [if_neg h1, if_neg h2, if_neg h3, if_neg (by rw [he]; decide), hm])
          rw [unhide HE]
          have HA := hide (show Calls Tryd.prog 10 #[.pointer (some ⟨z, 0, none⟩), .agg #[.int .i64 19, .string ⟨#[]⟩, .int .i64 0, .int .i64 (m : Int)]] w (MkPost B z bl n pv fl (out ++ [⟨19, ByteArray.empty, 0, (m : Int)⟩]) sts w) from adI_any w ⟨19, ByteArray.empty, 0, (m : Int)⟩ hM (by omega))
          have c1 := hM.c1
          have HMI := hide hM.lab
          clear HE hM h1 h2 h3
          go_enter Tryd.func22, Tryd.ntmps22
          go_wp2_with (first
            | (at_lookup; refine wpl_look rfl _ _ rfl rfl (unhide HMI) t rfl ht ?_; rw [hm])
            | fail)
          refine (unhide HA).mono ?_
          rintro e w2 ⟨rfl, hp⟩
          have HZ := hide hp
          clear hp
          go_wp2_with fail
          go_end0
          exact ⟨rfl, unhide HZ⟩
        · have HE := hide (show wayI fl i t = ⟨19, ByteArray.empty, 0, ((i + 1 : Nat) : Int)⟩ by unfold wayI tEnd tRet tFre; rw [if_neg h1, if_neg h2, if_neg h3, if_pos he])
          rw [unhide HE]
          have HA := hide (show Calls Tryd.prog 10 #[.pointer (some ⟨z, 0, none⟩), .agg #[.int .i64 19, .string ⟨#[]⟩, .int .i64 0, .int .i64 ((i : Int) + 1)]] w (MkPost B z bl n pv fl (out ++ [⟨19, ByteArray.empty, 0, ((i + 1 : Nat) : Int)⟩]) sts w) from adI_any w ⟨19, ByteArray.empty, 0, ((i + 1 : Nat) : Int)⟩ hM (by omega))
          clear HE hM ht hm h1 h2 h3
          go_enter Tryd.func22, Tryd.ntmps22
          go_wp2_with fail
          refine (unhide HA).mono ?_
          rintro e w2 ⟨rfl, hp⟩
          have HZ := hide hp
          clear hp
          go_wp2_with fail
          go_end0
          exact ⟨rfl, unhide HZ⟩
set_option maxRecDepth 100000 in
set_option maxHeartbeats 4000000 in
theorem ways_any (S : SV) (i : Nat) (B z bl n : Nat) (V : PV) (P : List SV) (fl : ByteArray → Option Int) (out : List IN) (sts : List Nat) (w : World) (hM : MkM B z bl n (V.v P.length) fl out sts w) (hE : CE B w V P) (hS : P[i]? = some S) (hR : SR S) (hi : i ≤ 1000) (hm : ∀ t, ∃ m : Nat, (fl t).getD 0 = (m : Int)) (hl : out.length ≤ 94000000) :
    Calls Tryd.prog 14 #[.pointer (some ⟨z, 0, none⟩), .int .i64 (i : Int)] w (MkPost B z bl n (V.v P.length) fl (out ++ waysI fl i S) sts w) := by
  have hil : i < P.length := (List.getElem?_eq_some_iff.1 hS).1
  have hp := hE.prog w (Below.refl _ _)
  have hat := hp.at_ (by omega)
  have HC := hide (fun W (q : Below B w W) => show W.cell? ⟨V.gb, V.ob + i * 24 + 21, none⟩ = some (.string S.al) ∧ W.cell? ⟨V.gb, V.ob + i * 24 + 22, none⟩ = some (.string S.ye) ∧ W.cell? ⟨V.gb, V.ob + i * 24 + 23, none⟩ = some (.string S.no) from ⟨((hE.prog W q).row i S hS).1 21 _ rfl, ((hE.prog W q).row i S hS).1 22 _ rfl, ((hE.prog W q).row i S hS).1 23 _ rfl⟩)
  have c21 := (unhide HC w (Below.refl _ _)).1
  have c22 := (unhide HC w (Below.refl _ _)).2.1
  have hix := idx24 (g := V.gb) (o := V.ob) (cap := V.cap) (n := P.length) (i := i) hil
  rw [← hat] at hix
  have c0 := hM.c0
  have s1 : S.al.size ≤ maxLen := Nat.le_trans hR.lab.1 (by unfold maxLen; decide)
  have s2 : S.ye.size ≤ maxLen := Nat.le_trans hR.lab.2.1 (by unfold maxLen; decide)
  have s3 : S.no.size ≤ maxLen := Nat.le_trans hR.lab.2.2.1 (by unfold maxLen; decide)
  unfold PV.v at hM c0 ⊢
  have HB := hide (show waysI fl i S = if S.al.toList.isEmpty = false then [wayI fl i S.al] else [wayI fl i S.ye] ++ (if (S.no.toList == S.ye.toList) = true then [] else [wayI fl i S.no]) from rfl)
  have HWA := hide (fun t (O : List IN) W (h1 : t.size ≤ maxLen) (h2 : O.length ≤ 95000000) (h3 : MkM B z bl n (.slice V.xa P.length V.cap) fl O sts W) => (hm t).elim fun m q => way_any t i m B z bl n _ fl O sts W h3 h1 hi q h2)
  have HM := hide hM
  clear hR hE hS hp hat hm hM
  cases ha : S.al.toList.isEmpty
  · rw [unhide HB, if_pos ha]
    have HA := hide (unhide HWA S.al out w s1 (by omega) (unhide HM))
    clear HB HWA hl
    go_enter Tryd.func14, Tryd.ntmps14
    go_wp2_with fail
    refine (unhide HA).mono ?_
    rintro e w2 ⟨rfl, hp⟩
    have HZ := hide hp
    clear hp
    go_wp2_with fail
    go_end0
    exact ⟨rfl, unhide HZ⟩
  · have HA := hide (unhide HWA S.ye out w s2 (by omega) (unhide HM))
    cases hq : (S.no.toList == S.ye.toList)
    · have HRS := hide (show out ++ waysI fl i S = (out ++ [wayI fl i S.ye]) ++ [wayI fl i S.no] by rw [unhide HB, if_neg (by rw [ha]; decide), hq, if_neg (by decide), List.append_assoc])
      rw [unhide HRS]
      go_enter Tryd.func14, Tryd.ntmps14
      go_wp2_with fail
      refine (unhide HA).mono ?_
      rintro e w2 ⟨rfl, hM2, hb2⟩
      have d22 := (unhide HC w2 hb2).2.1
      have d23 := (unhide HC w2 hb2).2.2
      have HM2 := hide (And.intro hM2 hb2)
      clear hM2 hb2 c21 c22 c0 hix
      go_wp2_with fail
      go_quiet (fail)
      have hh : (w2.drewN nq).heap = w2.heap := World.heap_drewN ..
      have HM3 := hide (And.intro ((unhide HM2).1.same hh) (below_drewN (unhide HM2).2 nq))
      have e23 : (w2.drewN nq).cell? ⟨V.gb, V.ob + i * 24 + 23, none⟩ = some (.string S.no) := (unhide HC _ (below_drewN (unhide HM2).2 nq)).2.2
      generalize w2.drewN nq = w3 at *
      have HA3 := hide (unhide HWA S.no (out ++ [wayI fl i S.ye]) w3 s3 (by rw [List.length_append]; simp only [List.length_cons, List.length_nil]; omega) (unhide HM3).1)
      clear hh d22 d23
      go_wp2_with fail
      refine (unhide HA3).mono ?_
      rintro e w4 ⟨rfl, hM4, hb4⟩
      have HZ := hide (And.intro hM4 ((unhide HM3).2.trans hb4))
      clear hM4 hb4
      go_wp2_with fail
      go_end0
      exact ⟨rfl, unhide HZ⟩
    · have HRS := hide (show out ++ waysI fl i S = out ++ [wayI fl i S.ye] by rw [unhide HB, if_neg (by rw [ha]; decide), hq, if_pos rfl, List.append_nil])
      rw [unhide HRS]
      go_enter Tryd.func14, Tryd.ntmps14
      go_wp2_with fail
      refine (unhide HA).mono ?_
      rintro e w2 ⟨rfl, hM2, hb2⟩
      have d22 := (unhide HC w2 hb2).2.1
      have d23 := (unhide HC w2 hb2).2.2
      have HM2 := hide (And.intro hM2 hb2)
      clear hM2 hb2 c21 c22 c0 hix
      go_wp2_with fail
      go_quiet (fail)
      have hh : (w2.drewN nq).heap = w2.heap := World.heap_drewN ..
      have HM3 := hide (And.intro ((unhide HM2).1.same hh) (below_drewN (unhide HM2).2 nq))
      generalize w2.drewN nq = w3 at *
      clear hh d22 d23
      go_wp2_with fail
      go_end0
      exact ⟨rfl, unhide HM3⟩
end Go.Proofs.YtpclpjcemeckgaaDoor
