/- The document's Print of a statement. -/
import Derived.Test.YtpphjddljngkmaaGreatDoorPrintExt4M
import Derived.Test.YtpphjddljngkmaaGreatDoorWrNP
namespace Go.Proofs.YtpphjddljngkmaaGreatDoor
open Go.RowKit

/-- The pattern, between its brackets, where there is one. -/
def ptB (S : SV) : ByteArray := if S.k = 4 ∨ S.k = 5 ∨ S.k = 6 then ⟨#[91]⟩ ++ ⟨S.pa.txt.toArray⟩ ++ ⟨#[93]⟩ else ⟨#[]⟩
theorem bA_pt (S : SV) : bA [ptI S] = ⟨#[91]⟩ ++ ⟨S.pa.txt.toArray⟩ ++ ⟨#[93]⟩ := by
  apply ByteArray.ext
  apply Array.ext'
  simp [bA, flt, ptI, pa, It.b]
theorem bA_lab (S : SV) : bA (if S.lab.size = 0 then [] else [wd S.lab]) = S.lab := by
  split
  · rename_i h
    rw [empty_of h]; rfl
  · exact bA_wd _
/-- What stands ahead of the ways. -/
def hdB (S : SV) : ByteArray := S.lab ++ bA (bodyI S)
def wy1 (S : SV) : ByteArray := if S.al.size = 0 then ⟨#[]⟩ else ⟨#[32, 58, 40]⟩ ++ S.al ++ ⟨#[41]⟩
def wy2 (S : SV) : ByteArray := if S.ye.size = 0 then (if S.no.size = 0 then ⟨#[]⟩ else ⟨#[32, 58, 70, 40]⟩ ++ S.no ++ ⟨#[41]⟩) else (if S.no.size = 0 then ⟨#[32, 58, 83, 40]⟩ ++ S.ye ++ ⟨#[41]⟩ else ⟨#[32, 58, 83, 40]⟩ ++ S.ye ++ ⟨#[41, 70, 40]⟩ ++ S.no ++ ⟨#[41]⟩)
theorem ways_bA {S : SV} (h : WayOK S) : bA (waysI S) = wy1 S ++ wy2 S := by
  have e0 : (⟨#[]⟩ : ByteArray) = ByteArray.empty := rfl
  unfold waysI wy1 wy2 wayI
  by_cases ha : S.al.size = 0
  · by_cases hy : S.ye.size = 0
    · by_cases hn : S.no.size = 0
      · rw [if_pos ⟨ha, hy, hn⟩, if_pos ha, if_pos hy, if_pos hn]; rfl
      · rw [if_neg (fun q => hn q.2.2), if_pos ha, if_pos ha, if_pos hy, if_pos hy, if_neg hn, if_neg hn]
        apply ByteArray.ext
        apply Array.ext'
        simp [bA, flt, It.b, bl, sg, wd, sgn]
    · by_cases hn : S.no.size = 0
      · rw [if_neg (fun q => hy q.2.1), if_pos ha, if_pos ha, if_neg hy, if_neg hy, if_pos hn, if_pos hn]
        apply ByteArray.ext
        apply Array.ext'
        simp [bA, flt, It.b, bl, sg, wd, sgn]
      · rw [if_neg (fun q => hy q.2.1), if_pos ha, if_pos ha, if_neg hy, if_neg hy, if_neg hn, if_neg hn]
        apply ByteArray.ext
        apply Array.ext'
        simp [bA, flt, It.b, bl, sg, wd, sgn]
  · obtain ⟨hy, hn⟩ := h.one ha
    rw [if_neg (fun q => ha q.1), if_neg ha, if_neg ha, if_pos hy, if_pos hn, if_pos hy, if_pos hn]
    apply ByteArray.ext
    apply Array.ext'
    simp [bA, flt, It.b, bl, sg, wd, sgn]
theorem st_bA {S : SV} (h : WayOK S) : bA (stI S) = hdB S ++ wy1 S ++ wy2 S := by
  unfold stI hdB
  rw [bA_app, bA_app, bA_lab, ways_bA h, ByteArray.append_assoc, ByteArray.append_assoc]
theorem exI_one (T : PT) : T.atl 1 = T.exI := by
  unfold PT.atl
  rw [decide_eq_false (by have := lev_ge T.k; omega)]
  rfl
end Go.Proofs.YtpphjddljngkmaaGreatDoor
namespace Go.Proofs.YtpphjddljngkmaaGreatDoor
open Go.RowKit

theorem bA_2 (l : ByteArray) (a : List It) : l ++ bA (bl :: a) = l ++ ⟨#[32]⟩ ++ bA a := by
  rw [bA_cons, ← ByteArray.append_assoc]; rfl
theorem bA_3 (l : ByteArray) (a b : List It) : l ++ bA (bl :: (a ++ (bl :: sg 61 :: bl :: b))) = l ++ ⟨#[32]⟩ ++ bA a ++ ⟨#[32, 61, 32]⟩ ++ bA b := by
  apply ByteArray.ext
  apply Array.ext'
  simp [bA, flt, It.b, bl, sg, sgn]
theorem bA_4 (l : ByteArray) (a : List It) (p : It) : l ++ bA (bl :: (a ++ (bl :: sg 63 :: bl :: [p]))) = l ++ ⟨#[32]⟩ ++ bA a ++ ⟨#[32, 63, 32]⟩ ++ bA [p] := by
  apply ByteArray.ext
  apply Array.ext'
  simp [bA, flt, It.b, bl, sg, sgn]
theorem bA_5 (l : ByteArray) (a b : List It) (p : It) : l ++ bA (bl :: (a ++ (bl :: sg 63 :: bl :: p :: bl :: sg 61 :: bl :: b))) = l ++ ⟨#[32]⟩ ++ bA a ++ ⟨#[32, 63, 32]⟩ ++ bA [p] ++ ⟨#[32, 61, 32]⟩ ++ bA b := by
  apply ByteArray.ext
  apply Array.ext'
  simp [bA, flt, It.b, bl, sg, sgn]
theorem bA_6 (l n : ByteArray) (p : It) : l ++ bA (bl :: wd n :: bl :: df :: bl :: [p]) = l ++ ⟨#[32]⟩ ++ n ++ ⟨#[32, 58, 61, 32]⟩ ++ bA [p] := by
  apply ByteArray.ext
  apply Array.ext'
  simp [bA, flt, It.b, bl, df, wd, tIs]
theorem bA_7 (l n e : ByteArray) (a b : List It) : l ++ bA (bl :: wd tDEF :: bl :: wd n :: sg 40 :: (a ++ (sg 41 :: (b ++ (bl :: [wd e]))))) = l ++ ⟨#[32, 68, 69, 70, 73, 78, 69, 32]⟩ ++ n ++ ⟨#[40]⟩ ++ bA a ++ ⟨#[41]⟩ ++ bA b ++ ⟨#[32]⟩ ++ e := by
  apply ByteArray.ext
  apply Array.ext'
  simp [bA, flt, It.b, bl, sg, wd, sgn, tDEF]
theorem take_byte (s : ByteArray) (k : Nat) (h : k < s.size) : s.data.toList.take (k + 1) = s.data.toList.take k ++ [s[k]] := by
  rw [List.take_add_one, List.getElem?_eq_getElem (show k < s.data.toList.length from h)]
  rfl
theorem mem_byte (s : ByteArray) (k : Nat) (h : k < s.size) : s[k] ∈ s.data.toList := List.getElem_mem (show k < s.data.toList.length from h)
theorem lab16 {S : SV} (h : WayOK S) : S.lab.size ≤ 16 := by
  by_cases q : S.lab.size = 0
  · omega
  · exact (named_word (h.lab q)).2.1
theorem al16 {S : SV} (h : WayOK S) : S.al.size ≤ 16 ∧ S.ye.size ≤ 16 ∧ S.no.size ≤ 16 := by
  refine ⟨?_, ?_, ?_⟩
  · by_cases q : S.al.size = 0
    · omega
    · exact (named_word (h.al q)).2.1
  · by_cases q : S.ye.size = 0
    · omega
    · exact (named_word (h.ye q)).2.1
  · by_cases q : S.no.size = 0
    · omega
    · exact (named_word (h.no q)).2.1
/-- What a statement that is right has. -/
structure RtS (S : SV) : Prop where
  k : 1 ≤ S.k ∧ S.k ≤ 7
  va : (S.k = 2 ∨ S.k = 3 ∨ S.k = 4 ∨ S.k = 5) → S.va.badX = 0 ∧ S.va.cnt ≤ 4096
  tg : (S.k = 3 ∨ S.k = 5) → S.tg.badX = 0 ∧ S.tg.cnt ≤ 4096
  pa : (S.k = 4 ∨ S.k = 5 ∨ S.k = 6) → S.pa.wrong = 0
  nm : (S.k = 6 ∨ S.k = 7) → S.nm.size ≤ 16
  df : S.k = 7 → S.en.size ≤ 16 ∧ S.ps.l.length ≤ 8 ∧ S.ls.l.length ≤ 8 ∧ (∀ t ∈ S.ps.l, t.size ≤ 16) ∧ ∀ t ∈ S.ls.l, t.size ≤ 16
theorem wx_right {T : PT} (h : T.wrongX = 0) : T.badX = 0 ∧ T.cnt ≤ 4096 := by
  have := wrongX_nil h
  have hf := this.1
  unfold PT.fits at hf
  rw [Bool.and_eq_true] at hf
  exact ⟨this.2, of_decide_eq_true hf.1⟩
theorem nm16 {t : ByteArray} (h : named t = true) : t.size ≤ 16 := (named_word h).2.1
theorem rtS {S : SV} (h : S.kndE = 0) : RtS S := by
  unfold SV.kndE at h
  by_cases h1 : S.k = 1
  · exact ⟨by omega, fun q => by omega, fun q => by omega, fun q => by omega, fun q => by omega, fun q => by omega⟩
  rw [if_neg h1] at h
  by_cases h2 : S.k = 2
  · rw [if_pos h2] at h
    exact ⟨by omega, fun _ => wx_right h, fun q => by omega, fun q => by omega, fun q => by omega, fun q => by omega⟩
  rw [if_neg h2] at h
  by_cases h4 : S.k = 4
  · rw [if_pos h4] at h
    exact ⟨by omega, fun _ => wx_right (fst0_cons h).1, fun q => by omega, fun _ => (fst0_cons (fst0_cons h).2).1, fun q => by omega, fun q => by omega⟩
  rw [if_neg h4] at h
  by_cases h3 : S.k = 3
  · rw [if_pos h3] at h
    exact ⟨by omega, fun _ => wx_right (fst0_cons (fst0_cons h).2).1, fun _ => wx_right (tg_nil (fst0_cons h).1).1, fun q => by omega, fun q => by omega, fun q => by omega⟩
  rw [if_neg h3] at h
  by_cases h5 : S.k = 5
  · rw [if_pos h5] at h
    exact ⟨by omega, fun _ => wx_right (fst0_cons (fst0_cons (fst0_cons h).2).2).1, fun _ => wx_right (tg_nil (fst0_cons h).1).1, fun _ => (fst0_cons (fst0_cons h).2).1, fun q => by omega, fun q => by omega⟩
  rw [if_neg h5] at h
  by_cases h6 : S.k = 6
  · rw [if_pos h6] at h
    exact ⟨by omega, fun q => by omega, fun q => by omega, fun _ => (fst0_cons (fst0_cons h).2).1, fun _ => nm16 (nms_nil (fst0_cons h).1 S.nm (by simp)), fun q => by omega⟩
  rw [if_neg h6] at h
  by_cases h7 : S.k = 7
  · rw [if_pos h7] at h
    unfold SV.dfE at h
    split at h
    · exact absurd h (by decide)
    · rename_i q
      have a := nms_nil (fst0_cons h).1
      have b := nms_nil (fst0_cons (fst0_cons h).2).1
      have c := nms_nil (fst0_cons (fst0_cons (fst0_cons h).2).2).1
      have hq : ¬ (8 < S.ps.l.length ∨ 8 < S.ls.l.length) := fun z => q ⟨h, z⟩
      exact ⟨by omega, fun q => by omega, fun q => by omega, fun q => by omega, fun _ => nm16 (a S.nm (by simp)), fun _ => ⟨nm16 (a S.en (by simp)), by omega, by omega, fun t ht => nm16 (b t ht), fun t ht => nm16 (c t ht)⟩⟩
  rw [if_neg h7] at h
  exact absurd h (by decide)
theorem prV_wrong {S : SV} (h : S.wrong ≠ 0) : prV S = .tuple #[.string ⟨#[]⟩, .int .i64 S.wrong] := by
  unfold prV prA
  rw [if_pos h]
  rfl
theorem prV_much {S : SV} (h : S.wrong = 0) (hp : (S.k = 4 ∨ S.k = 5 ∨ S.k = 6) ∧ 65536 < S.pa.txt.length) : prV S = .tuple #[.string ⟨#[]⟩, .int .i64 4] := by
  unfold prV prA
  rw [if_neg (fun q => q h), if_pos hp]
  rfl
theorem prV_right {S : SV} (h : S.wrong = 0) (hp : ¬ ((S.k = 4 ∨ S.k = 5 ∨ S.k = 6) ∧ 65536 < S.pa.txt.length)) : prV S = if nl10 (flt (stI S)) = true then .tuple #[.string ⟨#[]⟩, .int .i64 2] else if 2000 < (flt (stI S)).length then .tuple #[.string ⟨#[]⟩, .int .i64 4] else .tuple #[.string (bA (stI S)), .int .i64 0] := by
  unfold prV prA
  rw [if_neg (fun q => q h), if_neg hp]
  split
  · rfl
  · split
    · rfl
    · rfl
set_option maxRecDepth 100000 in
set_option maxHeartbeats 16000000 in
theorem refPrintS_any (S : SV) (w : World) (hS : S.In w) (hN : S.pa.cnt ≤ 1048576 ∧ S.ps.l.length + S.ls.l.length ≤ 7000000000000) :
    Calls Tryz.prog 9 #[S.v] w fun e w' => e = .returned (prV S) ∧ Below w.heap.size w w' := by
  have HI := hide (fun W (q : Below w.heap.size w W) => hS.later q)
  have HWR := hide (fun W (q : Below w.heap.size w W) => refStmt_any S W (hS.later q) hN)
  have HPP := hide (fun W (q : Below w.heap.size w W) => refPrint_any S.pa W (hS.later q).pa hN.1)
  have htx := hS.txt
  unfold maxLen at htx
  unfold pv at HPP
  have HNV : Hid (prV S = prV S) := hide rfl
  clear hS hN
  obtain ⟨C, hC⟩ : ∃ C, C = S.cells := ⟨_, rfl⟩
  have HCE := hide hC
  have hC24 : C.size = 24 := by rw [hC]; rfl
  have HR0 := hide (show (w.alloc (.cells C 33)).heap[w.heap.size]? = some (.cells C 33 (0, 0)) from at_new rfl)
  unfold SV.v at HWR ⊢
  rw [← hC] at HWR ⊢
  clear hC
  obtain ⟨R, hR⟩ : ∃ R, R = prV S := ⟨_, rfl⟩
  rw [← hR]
  have HRV := hide hR
  clear hR HNV
  go_enter Tryz.func9, Tryz.ntmps9
  go_wp2_with (first
    | (refine wpList_load_row rfl 33 _ rfl w.heap.size rfl 33 C (0, 0) _ (unhide HR0) Tryz.underlying33 rfl (size_stmt.trans (by rw [hC24])) ?_)
    | fail)
  refine (unhide HWR _ (ba _)).mono ?_
  rintro e x1 ⟨rfl, hb1⟩
  have HB1 := hide (bnext2 (ba _) hb1)
  have HR1 := hide (show x1.heap[w.heap.size]? = some (.cells S.cells 33 (0, 0)) by rw [← unhide HCE]; exact row_below (unhide HR0) hb1)
  clear hb1 HR0 HWR
  by_cases hw : S.wrong = 0
  case neg =>
    have HE := hide ((unhide HRV).trans (prV_wrong hw))
    have q0 : (S.wrong != 0) = true := bne_iff_ne.2 hw
    clear hw
    generalize S.wrong = e1 at *
    go_wp2_with fail
    go_ret2
    exact ⟨by rw [unhide HE]; rfl, unhide HB1⟩
  case pos =>
  obtain ⟨hway, hknd⟩ := wrong_way hw
  have HRT := hide (rtS hknd)
  have HWY := hide hway
  have hk17 := (rtS hknd).k
  have HW0 := hide hw
  rw [hw]
  clear hknd hway hw
  obtain ⟨c0, c1, -, -, -, -, -, -, -, -, -, -, c12, c13, c14, c15, c16, -, -, -, -, -, -, -⟩ := cells24 (unhide HR1)
  by_cases hbig : (S.k = 4 ∨ S.k = 5 ∨ S.k = 6) ∧ 65536 < S.pa.txt.length
  case pos =>
    have HE := hide ((unhide HRV).trans (prV_much (unhide HW0) hbig))
    have HPS := hide (show printSaid S.pa = .tuple #[.string ⟨#[]⟩, .int .i64 4] by unfold printSaid; rw [if_pos ((unhide HRT).pa hbig.1), if_pos hbig.2])
    have HPC := hide (unhide HPP x1 (unhide HB1))
    rw [unhide HPS] at HPC
    obtain ⟨h456, -⟩ := hbig
    clear HPP HPS
    rcases h456 with hk | hk | hk
    · have q4 : (S.k == 4) = true := bt hk
      clear hk
      go_wp2_with fail
      refine (unhide HPC).mono ?_
      rintro e x2 ⟨rfl, hb⟩
      have HB2 := hide (bnext2 (unhide HB1) hb)
      clear hb
      go_wp2_with fail
      go_ret2
      exact ⟨by rw [unhide HE]; rfl, unhide HB2⟩
    · have q4 : (S.k == 4) = false := bn (by omega)
      have q5 : (S.k == 5) = true := bt hk
      clear hk
      go_wp2_with fail
      refine (unhide HPC).mono ?_
      rintro e x2 ⟨rfl, hb⟩
      have HB2 := hide (bnext2 (unhide HB1) hb)
      clear hb
      go_wp2_with fail
      go_ret2
      exact ⟨by rw [unhide HE]; rfl, unhide HB2⟩
    · have q4 : (S.k == 4) = false := bn (by omega)
      have q5 : (S.k == 5) = false := bn (by omega)
      have q6 : (S.k == 6) = true := bt hk
      clear hk
      go_wp2_with fail
      refine (unhide HPC).mono ?_
      rintro e x2 ⟨rfl, hb⟩
      have HB2 := hide (bnext2 (unhide HB1) hb)
      clear hb
      go_wp2_with fail
      go_ret2
      exact ⟨by rw [unhide HE]; rfl, unhide HB2⟩
  case neg =>
  have HRR := hide ((unhide HRV).trans (prV_right (unhide HW0) hbig))
  have hpl : (S.k = 4 ∨ S.k = 5 ∨ S.k = 6) → S.pa.txt.length ≤ 65536 := fun h => by
    rcases Nat.lt_or_ge 65536 S.pa.txt.length with q | q
    · exact absurd ⟨h, q⟩ hbig
    · exact q
  have HPL := hide hpl
  clear hpl hbig
  go_upto_region 5 with fail
  go_cut [28] from 16 to 28 (fun s28 wx => s28 = .bool (decide (S.k = 4 ∨ S.k = 5 ∨ S.k = 6)) ∧ Hid (wx = x1))
  case first =>
    clear HRV HRR HPP HI
    by_cases k4 : S.k = 4
    · have q4 : (S.k == 4) = true := bt k4
      have HD := hide (decide_eq_true (show S.k = 4 ∨ S.k = 5 ∨ S.k = 6 from .inl k4))
      clear k4
      go_wp2_with fail
      go_meet
      case rel => exact ⟨by rw [unhide HD], hide rfl⟩
    by_cases k5 : S.k = 5
    · have q4 : (S.k == 4) = false := bn k4
      have q5 : (S.k == 5) = true := bt k5
      have HD := hide (decide_eq_true (show S.k = 4 ∨ S.k = 5 ∨ S.k = 6 from .inr (.inl k5)))
      clear k4 k5
      go_wp2_with fail
      go_meet
      case rel => exact ⟨by rw [unhide HD], hide rfl⟩
    by_cases k6 : S.k = 6
    · have q4 : (S.k == 4) = false := bn k4
      have q5 : (S.k == 5) = false := bn k5
      have q6 : (S.k == 6) = true := bt k6
      have HD := hide (decide_eq_true (show S.k = 4 ∨ S.k = 5 ∨ S.k = 6 from .inr (.inr k6)))
      clear k4 k5 k6
      go_wp2_with fail
      go_meet
      case rel => exact ⟨by rw [unhide HD], hide rfl⟩
    · have q4 : (S.k == 4) = false := bn k4
      have q5 : (S.k == 5) = false := bn k5
      have q6 : (S.k == 6) = false := bn k6
      have HD := hide (decide_eq_false (show ¬ (S.k = 4 ∨ S.k = 5 ∨ S.k = 6) by omega))
      clear k4 k5 k6
      go_wp2_with fail
      go_meet
      case rel => exact ⟨by rw [unhide HD], hide rfl⟩
  case rest =>
  obtain ⟨rfl, HWX⟩ := hcut
  obtain rfl := unhide HWX
  go_upto_if 28 with fail
  go_cut [5] from 28 to 40 (fun s5 wx => s5 = .string (ptB S) ∧ Hid (Below wc.heap.size wc wx))
  case first =>
    have HPC := hide (unhide HPP wc (unhide HB1))
    clear HPP HI HRV HRR
    by_cases h456 : S.k = 4 ∨ S.k = 5 ∨ S.k = 6
    · have HPT := hide (show ptB S = ⟨#[91]⟩ ++ ⟨S.pa.txt.toArray⟩ ++ ⟨#[93]⟩ from if_pos h456)
      have hps : printSaid S.pa = .tuple #[.string ⟨S.pa.txt.toArray⟩, .int .i64 0] := by
        unfold printSaid
        rw [if_pos ((unhide HRT).pa h456), if_neg (by have := unhide HPL h456; omega)]
      rw [hps] at HPC
      have htl : (⟨S.pa.txt.toArray⟩ : ByteArray).size ≤ 65536 := by rw [show (⟨S.pa.txt.toArray⟩ : ByteArray).size = S.pa.txt.length from List.size_toArray]; exact unhide HPL h456
      clear hps
      generalize (⟨S.pa.txt.toArray⟩ : ByteArray) = tx at *
      have g1 : ¬ 9223372036854775807 < 1 + tx.size := by omega
      have g2 : ¬ 9223372036854775807 < 1 + tx.size + 1 := by omega
      rw [decide_eq_true h456]
      clear h456
      go_wp2_with fail
      refine (unhide HPC).mono ?_
      rintro e x2 ⟨rfl, hb⟩
      have HB2 := hide hb
      clear hb
      go_wp2_with fail
      go_meet
      case rel => exact ⟨by rw [unhide HPT], HB2⟩
    · have HPT := hide (show ptB S = ⟨#[]⟩ from if_neg h456)
      rw [decide_eq_false h456]
      clear h456
      go_wp2_with fail
      go_meet
      case rel => exact ⟨by rw [unhide HPT], Below.refl _ _⟩
  case rest =>
  obtain ⟨rfl, HB2⟩ := hcut
  have HX2 := hide (bnext2 (unhide HB1) (unhide HB2))
  have HR2 := hide (row_below (unhide HR1) (unhide HB2))
  have HPZ : Hid ((ptB S).size ≤ 65538) := hide (by
    unfold ptB
    split
    · rename_i h
      have h1 : (⟨S.pa.txt.toArray⟩ : ByteArray).size = S.pa.txt.length := List.size_toArray
      rw [ByteArray.size_append, ByteArray.size_append, h1]
      have := unhide HPL h
      show 1 + S.pa.txt.length + 1 ≤ _
      omega
    · exact Nat.zero_le _)
  have HPT2 := hide (fun h : S.k = 4 ∨ S.k = 5 ∨ S.k = 6 => (show bA [ptI S] = ptB S by rw [bA_pt]; unfold ptB; rw [if_pos h]))
  clear c0 c1 c12 c13 c14 c15 c16 HPP HPL HB2
  have HTV := hide (fun (h : S.k = 2 ∨ S.k = 3 ∨ S.k = 4 ∨ S.k = 5) W (q : Below w.heap.size w W) => text_any S.va W 1 (unhide HI W q).va ((unhide HRT).va h).1 ((unhide HRT).va h).2 (by decide) (by decide))
  have HTG := hide (fun (h : S.k = 3 ∨ S.k = 5) W (q : Below w.heap.size w W) => text_any S.tg W 1 (unhide HI W q).tg ((unhide HRT).tg h).1 ((unhide HRT).tg h).2 (by decide) (by decide))
  have HZV := hide (fun (h : S.k = 2 ∨ S.k = 3 ∨ S.k = 4 ∨ S.k = 5) => (show (bA S.va.exI).size ≤ 600000000 by
    rw [bA_size]
    have h1 := tx_len S.va (unhide HI w (Below.refl _ _)).va ((unhide HRT).va h).1
    have h2 := ((unhide HRT).va h).2
    omega))
  have HZG := hide (fun (h : S.k = 3 ∨ S.k = 5) => (show (bA S.tg.exI).size ≤ 600000000 by
    rw [bA_size]
    have h1 := tx_len S.tg (unhide HI w (Below.refl _ _)).tg ((unhide HRT).tg h).1
    have h2 := ((unhide HRT).tg h).2
    omega))
  unfold pv at HTV HTG
  rw [exI_one] at HTV HTG
  have hls : S.lab.size ≤ 16 := lab16 (unhide HWY)
  have HCP := hide (fun W (q : Below w.heap.size w W) (h : S.k = 7) => commas_any S.ps W (unhide HI W q).ps ((unhide HRT).df h).2.1 ((unhide HRT).df h).2.2.2.1)
  have HCL := hide (fun W (q : Below w.heap.size w W) (h : S.k = 7) => commas_any S.ls W (unhide HI W q).ls ((unhide HRT).df h).2.2.1 ((unhide HRT).df h).2.2.2.2)
  unfold NL.v at HCP HCL
  obtain ⟨c0, c1, -, -, -, -, -, -, -, -, -, -, -, -, -, -, -, -, -, -, -, -, -, -⟩ := cells24 (unhide HR2)
  go_upto_block 0 with fail
  go_cut [8] from 45 to 123 (fun s8 wx => s8 = .string (hdB S) ∧ Hid ((hdB S).size ≤ 1300000000) ∧ Hid (Below wc.heap.size wc wx))
  case first =>
    have HHD : Hid (hdB S = S.lab ++ bA (bodyI S)) := hide rfl
    have HBO : Hid (bodyI S = if S.k = 2 then bl :: S.va.exI else if S.k = 3 then bl :: (S.tg.exI ++ (bl :: sg 61 :: bl :: S.va.exI)) else if S.k = 4 then bl :: (S.va.exI ++ (bl :: sg 63 :: bl :: [ptI S])) else if S.k = 5 then bl :: (S.tg.exI ++ (bl :: sg 63 :: bl :: ptI S :: bl :: sg 61 :: bl :: S.va.exI)) else if S.k = 6 then bl :: wd S.nm :: bl :: df :: bl :: [ptI S] else if S.k = 7 then bl :: wd tDEF :: bl :: wd S.nm :: sg 40 :: (nmI S.ps.l ++ (sg 41 :: (nmI S.ls.l ++ (bl :: [wd S.en])))) else []) := hide rfl
    have hpz := unhide HPZ
    have hA : Below wc.heap.size wc wc := Below.refl _ _
    clear HI HRV HRR HWY HPZ c0 c1
    generalize hdB S = hd at *
    have hkk : S.k = 1 ∨ S.k = 2 ∨ S.k = 3 ∨ S.k = 4 ∨ S.k = 5 ∨ S.k = 6 ∨ S.k = 7 := by omega
    obtain ⟨c0, c1, c2, c3, c4, c5, c6, c7, c8, c9, c10, c11, -, -, -, -, -, c17, c18, c19, c20, -, -, -⟩ := cells24 (unhide HR2)
    rcases hkk with hk | hk | hk | hk | hk | hk | hk
    · have HE := hide ((unhide HHD).trans (show _ = S.lab by rw [unhide HBO, if_neg (by omega), if_neg (by omega), if_neg (by omega), if_neg (by omega), if_neg (by omega), if_neg (by omega), bA_nil]; exact ByteArray.append_empty))
      have HZ : Hid (hd.size ≤ 1300000000) := hide (by rw [unhide HE]; omega)
      have q2 : (S.k == 2) = false := bn (by omega)
      have q3 : (S.k == 3) = false := bn (by omega)
      have q4 : (S.k == 4) = false := bn (by omega)
      have q5 : (S.k == 5) = false := bn (by omega)
      have q6 : (S.k == 6) = false := bn (by omega)
      have q7 : (S.k == 7) = false := bn (by omega)
      clear hk HTV HTG HCP HCL HZV HZG
      go_wp2_with fail
      go_meet
      case rel => exact ⟨by rw [unhide HE], HZ, Below.refl _ _⟩
    · have HE := hide ((unhide HHD).trans (show _ = S.lab ++ ⟨#[32]⟩ ++ bA S.va.exI by rw [unhide HBO, if_pos hk, bA_2]))
      have HTX := hide (unhide HTV (.inl hk))
      have hx := unhide HZV (.inl hk)
      have q2 : (S.k == 2) = true := bt hk
      clear hk HTV HTG HCP HCL HZV HZG
      generalize bA S.va.exI = x at *
      have HZ : Hid (hd.size ≤ 1300000000) := hide (by rw [unhide HE, ByteArray.size_append, ByteArray.size_append]; show S.lab.size + 1 + x.size ≤ _; omega)
      have g1 : ¬ 9223372036854775807 < S.lab.size + 1 := by omega
      have g2 : ¬ 9223372036854775807 < S.lab.size + 1 + x.size := by omega
      go_wp2_with fail
      refine (unhide HTX _ (unhide HX2)).mono ?_
      rintro e x2 ⟨rfl, hb⟩
      have HB4 := hide hb
      clear hb
      go_wp2_with fail
      go_meet
      case rel => exact ⟨by rw [unhide HE], HZ, HB4⟩
    · have HE := hide ((unhide HHD).trans (show _ = S.lab ++ ⟨#[32]⟩ ++ bA S.tg.exI ++ ⟨#[32, 61, 32]⟩ ++ bA S.va.exI by rw [unhide HBO, if_neg (by omega), if_pos hk, bA_3]))
      have HT1 := hide (unhide HTG (.inl hk))
      have HT2 := hide (unhide HTV (.inr (.inl hk)))
      have hy := unhide HZG (.inl hk)
      have hx := unhide HZV (.inr (.inl hk))
      have q2 : (S.k == 2) = false := bn (by omega)
      have q3 : (S.k == 3) = true := bt hk
      clear hk HTV HTG HCP HCL HZV HZG
      generalize bA S.va.exI = x at *
      generalize bA S.tg.exI = y at *
      have HZ : Hid (hd.size ≤ 1300000000) := hide (by rw [unhide HE]; simp only [ByteArray.size_append]; show S.lab.size + 1 + y.size + 3 + x.size ≤ _; omega)
      have g1 : ¬ 9223372036854775807 < S.lab.size + 1 := by omega
      have g2 : ¬ 9223372036854775807 < S.lab.size + 1 + y.size := by omega
      have g3 : ¬ 9223372036854775807 < S.lab.size + 1 + y.size + 3 := by omega
      have g4 : ¬ 9223372036854775807 < S.lab.size + 1 + y.size + 3 + x.size := by omega
      have HKP : Hid (∀ w' : World, Below wc.heap.size wc w' → (w'.cell? ⟨w.heap.size, 2, none⟩ = some (.int .i64 S.tg.k) ∧ w'.cell? ⟨w.heap.size, 3, none⟩ = some (.string S.tg.t) ∧ w'.cell? ⟨w.heap.size, 4, none⟩ = some (.int .i64 S.tg.n) ∧ w'.cell? ⟨w.heap.size, 5, none⟩ = some (.string S.tg.nm) ∧ w'.cell? ⟨w.heap.size, 6, none⟩ = some (.slice S.tg.xa S.tg.len S.tg.cap) ∧ w'.cell? ⟨w.heap.size, 7, none⟩ = some (.int .i64 S.va.k) ∧ w'.cell? ⟨w.heap.size, 8, none⟩ = some (.string S.va.t) ∧ w'.cell? ⟨w.heap.size, 9, none⟩ = some (.int .i64 S.va.n) ∧ w'.cell? ⟨w.heap.size, 10, none⟩ = some (.string S.va.nm) ∧ w'.cell? ⟨w.heap.size, 11, none⟩ = some (.slice S.va.xa S.va.len S.va.cap))) := hide (fun w' h => ⟨cell_later h c2, cell_later h c3, cell_later h c4, cell_later h c5, cell_later h c6, cell_later h c7, cell_later h c8, cell_later h c9, cell_later h c10, cell_later h c11⟩)
      clear c0 c1 c2 c3 c4 c5 c6 c7 c8 c9 c10 c11 c17 c18 c19 c20
      go_wp2_with fail
      go_region_held3 (fun w' => w'.cell? ⟨w.heap.size, 2, none⟩ = some (.int .i64 S.tg.k) ∧ w'.cell? ⟨w.heap.size, 3, none⟩ = some (.string S.tg.t) ∧ w'.cell? ⟨w.heap.size, 4, none⟩ = some (.int .i64 S.tg.n) ∧ w'.cell? ⟨w.heap.size, 5, none⟩ = some (.string S.tg.nm) ∧ w'.cell? ⟨w.heap.size, 6, none⟩ = some (.slice S.tg.xa S.tg.len S.tg.cap) ∧ w'.cell? ⟨w.heap.size, 7, none⟩ = some (.int .i64 S.va.k) ∧ w'.cell? ⟨w.heap.size, 8, none⟩ = some (.string S.va.t) ∧ w'.cell? ⟨w.heap.size, 9, none⟩ = some (.int .i64 S.va.n) ∧ w'.cell? ⟨w.heap.size, 10, none⟩ = some (.string S.va.nm) ∧ w'.cell? ⟨w.heap.size, 11, none⟩ = some (.slice S.va.xa S.va.len S.va.cap))
        (first | exact unhide HKP _ (unhide HA) | exact unhide HKP _ (unhide HA).drew | exact unhide HKP _ hA | exact unhide HKP _ hA.drew)
        (first
          | (go_at_call_of 28 (Value.agg #[.int .i64 S.tg.k, .string S.tg.t, .int .i64 S.tg.n, .string S.tg.nm, .slice S.tg.xa S.tg.len S.tg.cap]); refine (unhide HT1 _ (bnext2 (unhide HX2) (by first | exact unhide HA | exact (unhide HA).drew | exact hA | exact hA.drew))).mono ?_; rintro e x3 ⟨rfl, hbq⟩; first | (have HA := hide (bnext2 (unhide HA) hbq); clear hbq) | (have HA := hide (bnext2 (unhide HA).drew hbq); clear hbq) | (have HA := hide (bnext2 hA hbq); clear hbq) | (have HA := hide (bnext2 hA.drew hbq); clear hbq))
          | (go_at_call_of 28 (Value.agg #[.int .i64 S.va.k, .string S.va.t, .int .i64 S.va.n, .string S.va.nm, .slice S.va.xa S.va.len S.va.cap]); refine (unhide HT2 _ (bnext2 (unhide HX2) (by first | exact unhide HA | exact (unhide HA).drew | exact hA | exact hA.drew))).mono ?_; rintro e x3 ⟨rfl, hbq⟩; first | (have HA := hide (bnext2 (unhide HA) hbq); clear hbq) | (have HA := hide (bnext2 (unhide HA).drew hbq); clear hbq) | (have HA := hide (bnext2 hA hbq); clear hbq) | (have HA := hide (bnext2 hA.drew hbq); clear hbq)))
      all_goals
        go_wp2_with fail
        go_meet
        case rel => exact ⟨by rw [unhide HE], HZ, by first | exact HA | exact hide (unhide HA).drew⟩
    · have HE := hide ((unhide HHD).trans (show _ = S.lab ++ ⟨#[32]⟩ ++ bA S.va.exI ++ ⟨#[32, 63, 32]⟩ ++ ptB S by rw [unhide HBO, if_neg (by omega), if_neg (by omega), if_pos hk, bA_4, unhide HPT2 (.inl hk)]))
      have HTX := hide (unhide HTV (.inr (.inr (.inl hk))))
      have hx := unhide HZV (.inr (.inr (.inl hk)))
      have q2 : (S.k == 2) = false := bn (by omega)
      have q3 : (S.k == 3) = false := bn (by omega)
      have q4 : (S.k == 4) = true := bt hk
      clear hk HTV HTG HCP HCL HZV HZG
      generalize bA S.va.exI = x at *
      generalize ptB S = p at *
      have HZ : Hid (hd.size ≤ 1300000000) := hide (by rw [unhide HE, ByteArray.size_append, ByteArray.size_append, ByteArray.size_append, ByteArray.size_append]; show S.lab.size + 1 + x.size + 3 + p.size ≤ _; omega)
      have g1 : ¬ 9223372036854775807 < S.lab.size + 1 := by omega
      have g2 : ¬ 9223372036854775807 < S.lab.size + 1 + x.size := by omega
      have g3 : ¬ 9223372036854775807 < S.lab.size + 1 + x.size + 3 := by omega
      have g4 : ¬ 9223372036854775807 < S.lab.size + 1 + x.size + 3 + p.size := by omega
      go_wp2_with fail
      refine (unhide HTX _ (unhide HX2)).mono ?_
      rintro e x2 ⟨rfl, hb⟩
      have HB4 := hide hb
      clear hb
      go_wp2_with fail
      go_meet
      case rel => exact ⟨by rw [unhide HE], HZ, HB4⟩
    · have HE := hide ((unhide HHD).trans (show _ = S.lab ++ ⟨#[32]⟩ ++ bA S.tg.exI ++ ⟨#[32, 63, 32]⟩ ++ ptB S ++ ⟨#[32, 61, 32]⟩ ++ bA S.va.exI by rw [unhide HBO, if_neg (by omega), if_neg (by omega), if_neg (by omega), if_pos hk, bA_5, unhide HPT2 (.inr (.inl hk))]))
      have HT1 := hide (unhide HTG (.inr hk))
      have HT2 := hide (unhide HTV (.inr (.inr (.inr hk))))
      have hy := unhide HZG (.inr hk)
      have hx := unhide HZV (.inr (.inr (.inr hk)))
      have q2 : (S.k == 2) = false := bn (by omega)
      have q3 : (S.k == 3) = false := bn (by omega)
      have q4 : (S.k == 4) = false := bn (by omega)
      have q5 : (S.k == 5) = true := bt hk
      clear hk HTV HTG HCP HCL HZV HZG
      generalize bA S.va.exI = x at *
      generalize bA S.tg.exI = y at *
      generalize ptB S = p at *
      have HZ : Hid (hd.size ≤ 1300000000) := hide (by rw [unhide HE]; simp only [ByteArray.size_append]; show S.lab.size + 1 + y.size + 3 + p.size + 3 + x.size ≤ _; omega)
      have g1 : ¬ 9223372036854775807 < S.lab.size + 1 := by omega
      have g2 : ¬ 9223372036854775807 < S.lab.size + 1 + y.size := by omega
      have g3 : ¬ 9223372036854775807 < S.lab.size + 1 + y.size + 3 := by omega
      have g4 : ¬ 9223372036854775807 < S.lab.size + 1 + y.size + 3 + p.size := by omega
      have g5 : ¬ 9223372036854775807 < S.lab.size + 1 + y.size + 3 + p.size + 3 := by omega
      have g6 : ¬ 9223372036854775807 < S.lab.size + 1 + y.size + 3 + p.size + 3 + x.size := by omega
      have HKP : Hid (∀ w' : World, Below wc.heap.size wc w' → (w'.cell? ⟨w.heap.size, 2, none⟩ = some (.int .i64 S.tg.k) ∧ w'.cell? ⟨w.heap.size, 3, none⟩ = some (.string S.tg.t) ∧ w'.cell? ⟨w.heap.size, 4, none⟩ = some (.int .i64 S.tg.n) ∧ w'.cell? ⟨w.heap.size, 5, none⟩ = some (.string S.tg.nm) ∧ w'.cell? ⟨w.heap.size, 6, none⟩ = some (.slice S.tg.xa S.tg.len S.tg.cap) ∧ w'.cell? ⟨w.heap.size, 7, none⟩ = some (.int .i64 S.va.k) ∧ w'.cell? ⟨w.heap.size, 8, none⟩ = some (.string S.va.t) ∧ w'.cell? ⟨w.heap.size, 9, none⟩ = some (.int .i64 S.va.n) ∧ w'.cell? ⟨w.heap.size, 10, none⟩ = some (.string S.va.nm) ∧ w'.cell? ⟨w.heap.size, 11, none⟩ = some (.slice S.va.xa S.va.len S.va.cap))) := hide (fun w' h => ⟨cell_later h c2, cell_later h c3, cell_later h c4, cell_later h c5, cell_later h c6, cell_later h c7, cell_later h c8, cell_later h c9, cell_later h c10, cell_later h c11⟩)
      clear c0 c1 c2 c3 c4 c5 c6 c7 c8 c9 c10 c11 c17 c18 c19 c20
      go_wp2_with fail
      go_region_held3 (fun w' => w'.cell? ⟨w.heap.size, 2, none⟩ = some (.int .i64 S.tg.k) ∧ w'.cell? ⟨w.heap.size, 3, none⟩ = some (.string S.tg.t) ∧ w'.cell? ⟨w.heap.size, 4, none⟩ = some (.int .i64 S.tg.n) ∧ w'.cell? ⟨w.heap.size, 5, none⟩ = some (.string S.tg.nm) ∧ w'.cell? ⟨w.heap.size, 6, none⟩ = some (.slice S.tg.xa S.tg.len S.tg.cap) ∧ w'.cell? ⟨w.heap.size, 7, none⟩ = some (.int .i64 S.va.k) ∧ w'.cell? ⟨w.heap.size, 8, none⟩ = some (.string S.va.t) ∧ w'.cell? ⟨w.heap.size, 9, none⟩ = some (.int .i64 S.va.n) ∧ w'.cell? ⟨w.heap.size, 10, none⟩ = some (.string S.va.nm) ∧ w'.cell? ⟨w.heap.size, 11, none⟩ = some (.slice S.va.xa S.va.len S.va.cap))
        (first | exact unhide HKP _ (unhide HA) | exact unhide HKP _ (unhide HA).drew | exact unhide HKP _ hA | exact unhide HKP _ hA.drew)
        (first
          | (go_at_call_of 28 (Value.agg #[.int .i64 S.tg.k, .string S.tg.t, .int .i64 S.tg.n, .string S.tg.nm, .slice S.tg.xa S.tg.len S.tg.cap]); refine (unhide HT1 _ (bnext2 (unhide HX2) (by first | exact unhide HA | exact (unhide HA).drew | exact hA | exact hA.drew))).mono ?_; rintro e x3 ⟨rfl, hbq⟩; first | (have HA := hide (bnext2 (unhide HA) hbq); clear hbq) | (have HA := hide (bnext2 (unhide HA).drew hbq); clear hbq) | (have HA := hide (bnext2 hA hbq); clear hbq) | (have HA := hide (bnext2 hA.drew hbq); clear hbq))
          | (go_at_call_of 28 (Value.agg #[.int .i64 S.va.k, .string S.va.t, .int .i64 S.va.n, .string S.va.nm, .slice S.va.xa S.va.len S.va.cap]); refine (unhide HT2 _ (bnext2 (unhide HX2) (by first | exact unhide HA | exact (unhide HA).drew | exact hA | exact hA.drew))).mono ?_; rintro e x3 ⟨rfl, hbq⟩; first | (have HA := hide (bnext2 (unhide HA) hbq); clear hbq) | (have HA := hide (bnext2 (unhide HA).drew hbq); clear hbq) | (have HA := hide (bnext2 hA hbq); clear hbq) | (have HA := hide (bnext2 hA.drew hbq); clear hbq)))
      all_goals
        go_wp2_with fail
        go_meet
        case rel => exact ⟨by rw [unhide HE], HZ, by first | exact HA | exact hide (unhide HA).drew⟩
    · have HE := hide ((unhide HHD).trans (show _ = S.lab ++ ⟨#[32]⟩ ++ S.nm ++ ⟨#[32, 58, 61, 32]⟩ ++ ptB S by rw [unhide HBO, if_neg (by omega), if_neg (by omega), if_neg (by omega), if_neg (by omega), if_pos hk, bA_6, unhide HPT2 (.inr (.inr hk))]))
      have hn := (unhide HRT).nm (.inl hk)
      have q2 : (S.k == 2) = false := bn (by omega)
      have q3 : (S.k == 3) = false := bn (by omega)
      have q4 : (S.k == 4) = false := bn (by omega)
      have q5 : (S.k == 5) = false := bn (by omega)
      have q6 : (S.k == 6) = true := bt hk
      clear hk HTV HTG HCP HCL HZV HZG
      generalize ptB S = p at *
      have HZ : Hid (hd.size ≤ 1300000000) := hide (by rw [unhide HE, ByteArray.size_append, ByteArray.size_append, ByteArray.size_append, ByteArray.size_append]; show S.lab.size + 1 + S.nm.size + 4 + p.size ≤ _; omega)
      have g1 : ¬ 9223372036854775807 < S.lab.size + 1 := by omega
      have g2 : ¬ 9223372036854775807 < S.lab.size + 1 + S.nm.size := by omega
      have g3 : ¬ 9223372036854775807 < S.lab.size + 1 + S.nm.size + 4 := by omega
      have g4 : ¬ 9223372036854775807 < S.lab.size + 1 + S.nm.size + 4 + p.size := by omega
      go_wp2_with fail
      go_meet
      case rel => exact ⟨by rw [unhide HE], HZ, Below.refl _ _⟩
    · have HE := hide ((unhide HHD).trans (show _ = S.lab ++ ⟨#[32, 68, 69, 70, 73, 78, 69, 32]⟩ ++ S.nm ++ ⟨#[40]⟩ ++ bA (nmI S.ps.l) ++ ⟨#[41]⟩ ++ bA (nmI S.ls.l) ++ ⟨#[32]⟩ ++ S.en by rw [unhide HBO, if_neg (by omega), if_neg (by omega), if_neg (by omega), if_neg (by omega), if_neg (by omega), if_pos hk, bA_7]))
      have hn := (unhide HRT).nm (.inr hk)
      obtain ⟨hen, hp8, hl8, hp16, hl16⟩ := (unhide HRT).df hk
      have hpz : (bA (nmI S.ps.l)).size ≤ 136 := by
        have := nm_len hp16 S.ps.l.length (Nat.le_refl _)
        rw [List.take_length] at this
        omega
      have hlz : (bA (nmI S.ls.l)).size ≤ 136 := by
        have := nm_len hl16 S.ls.l.length (Nat.le_refl _)
        rw [List.take_length] at this
        omega
      have HC1 := hide (fun W q => unhide HCP W q hk)
      have HC2 := hide (fun W q => unhide HCL W q hk)
      have d19 : wc.cell? ⟨w.heap.size, 19, none⟩ = some (.slice S.ps.xa S.ps.l.length S.ps.cap) := c19
      have d20 : wc.cell? ⟨w.heap.size, 20, none⟩ = some (.slice S.ls.xa S.ls.l.length S.ls.cap) := c20
      have q2 : (S.k == 2) = false := bn (by omega)
      have q3 : (S.k == 3) = false := bn (by omega)
      have q4 : (S.k == 4) = false := bn (by omega)
      have q5 : (S.k == 5) = false := bn (by omega)
      have q6 : (S.k == 6) = false := bn (by omega)
      have q7 : (S.k == 7) = true := bt hk
      clear hk HTV HTG HCP HCL HZV HZG hp16 hl16 c19 c20
      generalize bA (nmI S.ps.l) = x at *
      generalize bA (nmI S.ls.l) = y at *
      have HZ : Hid (hd.size ≤ 1300000000) := hide (by rw [unhide HE]; simp only [ByteArray.size_append]; show S.lab.size + 8 + S.nm.size + 1 + x.size + 1 + y.size + 1 + S.en.size ≤ _; omega)
      have g1 : ¬ 9223372036854775807 < S.lab.size + 8 := by omega
      have g2 : ¬ 9223372036854775807 < S.lab.size + 8 + S.nm.size := by omega
      have g3 : ¬ 9223372036854775807 < S.lab.size + 8 + S.nm.size + 1 := by omega
      have g4 : ¬ 9223372036854775807 < S.lab.size + 8 + S.nm.size + 1 + x.size := by omega
      have g5 : ¬ 9223372036854775807 < S.lab.size + 8 + S.nm.size + 1 + x.size + 1 := by omega
      have g6 : ¬ 9223372036854775807 < S.lab.size + 8 + S.nm.size + 1 + x.size + 1 + y.size := by omega
      have g7 : ¬ 9223372036854775807 < S.lab.size + 8 + S.nm.size + 1 + x.size + 1 + y.size + 1 := by omega
      have g8 : ¬ 9223372036854775807 < S.lab.size + 8 + S.nm.size + 1 + x.size + 1 + y.size + 1 + S.en.size := by omega
      go_wp2_with fail
      go_quiet (first
        | (go_at_call_of 29 (Value.slice S.ps.xa S.ps.l.length S.ps.cap); exact Calls.quiet_of_same (unhide HC1 _ (below_drewN (unhide HX2) _)))
        | (go_at_call_of 29 (Value.slice S.ls.xa S.ls.l.length S.ls.cap); exact Calls.quiet_of_same (unhide HC2 _ (below_drewN (unhide HX2) _))))
      go_wp2_with fail
      go_meet
      case rel => exact ⟨by rw [unhide HE], HZ, hide (below_drewN (Below.refl _ _) _)⟩
  case rest =>
  obtain ⟨rfl, HZH, HB3⟩ := hcut
  have HX3 := hide (bnext2 (unhide HX2) (unhide HB3))
  have HR3 := hide (row_below (unhide HR2) (unhide HB3))
  clear c0 c1 HTV HTG HZV HZG HCP HCL HPZ HPT2 HB3
  obtain ⟨-, -, -, -, -, -, -, -, -, -, -, -, -, -, -, -, -, -, -, -, -, c21, c22, c23⟩ := cells24 (unhide HR3)
  obtain ⟨ha16, hy16, hn16⟩ := al16 (unhide HWY)
  have HEND := hide (show bA (stI S) = hdB S ++ wy1 S ++ wy2 S from st_bA (unhide HWY))
  have hzh := unhide HZH
  have hz1 : (wy1 S).size ≤ 30 := by
    unfold wy1
    split
    · exact Nat.zero_le _
    · simp only [ByteArray.size_append]; show 3 + S.al.size + 1 ≤ _; omega
  have hz2 : (wy2 S).size ≤ 60 := by
    unfold wy2
    split
    · split
      · exact Nat.zero_le _
      · simp only [ByteArray.size_append]; show 4 + S.no.size + 1 ≤ _; omega
    · split
      · simp only [ByteArray.size_append]; show 4 + S.ye.size + 1 ≤ _; omega
      · simp only [ByteArray.size_append]; show 4 + S.ye.size + 3 + S.no.size + 1 ≤ _; omega
  have HSZ : Hid ((hdB S ++ wy1 S ++ wy2 S).size ≤ 1300000100) := hide (by simp only [ByteArray.size_append]; omega)
  have H1 : Hid (wy1 S = if S.al.size = 0 then ⟨#[]⟩ else ⟨#[32, 58, 40]⟩ ++ S.al ++ ⟨#[41]⟩) := hide rfl
  have H2 : Hid (wy2 S = if S.ye.size = 0 then (if S.no.size = 0 then ⟨#[]⟩ else ⟨#[32, 58, 70, 40]⟩ ++ S.no ++ ⟨#[41]⟩) else (if S.no.size = 0 then ⟨#[32, 58, 83, 40]⟩ ++ S.ye ++ ⟨#[41]⟩ else ⟨#[32, 58, 83, 40]⟩ ++ S.ye ++ ⟨#[41, 70, 40]⟩ ++ S.no ++ ⟨#[41]⟩)) := hide rfl
  have e0 : ∀ x : ByteArray, x ++ (⟨#[]⟩ : ByteArray) = x := fun x => ByteArray.append_empty
  have HE0 := hide e0
  clear e0 HZH
  generalize hdB S = hd at *
  generalize wy1 S = y1 at *
  generalize wy2 S = y2 at *
  have gg1 : ¬ 9223372036854775807 < hd.size + 3 := by omega
  have gg2 : ¬ 9223372036854775807 < hd.size + 3 + S.al.size := by omega
  have gg3 : ¬ 9223372036854775807 < hd.size + 3 + S.al.size + 1 := by omega
  go_upto_if 126 with fail
  go_cut [8] from 124 to 132 (fun s8 wx => s8 = .string (hd ++ y1) ∧ Hid (wx = wc))
  case first =>
    clear HRR HRV HI HEND HSZ
    cases ha : S.al.toList.isEmpty
    · have hsz : S.al.size ≠ 0 := by rw [isEmpty_iff] at ha; exact of_decide_eq_false ha
      have HY := hide ((unhide H1).trans (if_neg hsz))
      clear hsz
      go_wp2_with fail
      go_meet
      case rel => exact ⟨by rw [unhide HY, ← ByteArray.append_assoc, ← ByteArray.append_assoc], hide rfl⟩
    · have hsz : S.al.size = 0 := by rw [isEmpty_iff] at ha; exact of_decide_eq_true ha
      have HY := hide ((unhide H1).trans (if_pos hsz))
      clear hsz
      go_wp2_with fail
      go_meet
      case rel => exact ⟨by rw [unhide HY, unhide HE0], hide rfl⟩
  case rest =>
  obtain ⟨rfl, HW⟩ := hcut
  obtain rfl := unhide HW
  clear gg1 gg2 gg3 HW
  have hz3 : (hd ++ y1).size ≤ 1300000030 := by rw [ByteArray.size_append]; omega
  generalize hd ++ y1 = h1 at *
  have gg1 : ¬ 9223372036854775807 < h1.size + 4 := by omega
  have gg2 : ¬ 9223372036854775807 < h1.size + 4 + S.ye.size := by omega
  have gg3 : ¬ 9223372036854775807 < h1.size + 4 + S.ye.size + 3 := by omega
  have gg4 : ¬ 9223372036854775807 < h1.size + 4 + S.ye.size + 3 + S.no.size := by omega
  have gg5 : ¬ 9223372036854775807 < h1.size + 4 + S.ye.size + 3 + S.no.size + 1 := by omega
  have gg6 : ¬ 9223372036854775807 < h1.size + 4 + S.ye.size + 1 := by omega
  have gg7 : ¬ 9223372036854775807 < h1.size + 4 + S.no.size := by omega
  have gg8 : ¬ 9223372036854775807 < h1.size + 4 + S.no.size + 1 := by omega
  go_upto_region 26 with fail
  go_cut [140] from 133 to 140 (fun s wx => s = .bool (!S.ye.toList.isEmpty && !S.no.toList.isEmpty) ∧ Hid (wx = wc))
  case first =>
    clear HRR HRV HI HEND HSZ
    cases hy : S.ye.toList.isEmpty
    · cases hn : S.no.toList.isEmpty
      · go_wp2_with fail
        go_meet
        case rel => exact ⟨by rw [hy, hn]; rfl, hide rfl⟩
      · go_wp2_with fail
        go_meet
        case rel => exact ⟨by rw [hy, hn]; rfl, hide rfl⟩
    · go_wp2_with fail
      go_meet
      case rel => exact ⟨by rw [hy]; rfl, hide rfl⟩
  case rest =>
  obtain ⟨rfl, HW⟩ := hcut
  obtain rfl := unhide HW
  clear HW
  go_upto_if 140 with fail
  go_cut [8] from 140 to 168 (fun s8 wx => s8 = .string (h1 ++ y2) ∧ Hid (wx = wc))
  case first =>
    clear HRR HRV HI HEND HSZ
    cases hy : S.ye.toList.isEmpty
    · have hys : S.ye.size ≠ 0 := by rw [isEmpty_iff] at hy; exact of_decide_eq_false hy
      cases hn : S.no.toList.isEmpty
      · have hns : S.no.size ≠ 0 := by rw [isEmpty_iff] at hn; exact of_decide_eq_false hn
        have HY := hide ((unhide H2).trans ((if_neg hys).trans (if_neg hns)))
        clear hys hns
        go_wp2_with fail
        go_meet
        case rel => exact ⟨by rw [unhide HY]; simp only [ByteArray.append_assoc], hide rfl⟩
      · have hns : S.no.size = 0 := by rw [isEmpty_iff] at hn; exact of_decide_eq_true hn
        have HY := hide ((unhide H2).trans ((if_neg hys).trans (if_pos hns)))
        clear hys hns
        go_wp2_with fail
        go_meet
        case rel => exact ⟨by rw [unhide HY]; simp only [ByteArray.append_assoc], hide rfl⟩
    · have hys : S.ye.size = 0 := by rw [isEmpty_iff] at hy; exact of_decide_eq_true hy
      cases hn : S.no.toList.isEmpty
      · have hns : S.no.size ≠ 0 := by rw [isEmpty_iff] at hn; exact of_decide_eq_false hn
        have HY := hide ((unhide H2).trans ((if_pos hys).trans (if_neg hns)))
        clear hys hns
        go_wp2_with fail
        go_meet
        case rel => exact ⟨by rw [unhide HY]; simp only [ByteArray.append_assoc], hide rfl⟩
      · have hns : S.no.size = 0 := by rw [isEmpty_iff] at hn; exact of_decide_eq_true hn
        have HY := hide ((unhide H2).trans ((if_pos hys).trans (if_pos hns)))
        clear hys hns
        go_wp2_with fail
        go_meet
        case rel => exact ⟨by rw [unhide HY, unhide HE0], hide rfl⟩
  case rest =>
  obtain ⟨rfl, HW⟩ := hcut
  obtain rfl := unhide HW
  clear HW gg1 gg2 gg3 gg4 gg5 gg6 gg7 gg8 c21 c22 c23
  rw [← unhide HEND] at HSZ ⊢
  have hsz := unhide HSZ
  have HLEN := hide (bA_size (stI S))
  have HDT : Hid ((bA (stI S)).data.toList = flt (stI S)) := hide rfl
  obtain ⟨s, hs⟩ : ∃ s, s = bA (stI S) := ⟨_, rfl⟩
  rw [← hs] at hsz HLEN HDT HRR ⊢
  clear HSZ HEND hs
  generalize flt (stI S) = fl at *
  have hcv := fun W => run_bytes_of_string (P := Tryz.prog) W 9 50 5 s Tryz.underlying9 Tryz.underlying50 Tryz.underlying5
  go_wp2_with fail
  generalize grownCap wc s.size 0 5 = G
  obtain ⟨W0, hW0⟩ : ∃ W0, W0 = (wc.alloc (.cells (bytesRow s G) 5 ((bytesRow s G).size, (bytesRow s G).size + 1))).drew := ⟨_, rfl⟩
  rw [← hW0]
  have HQ := hide (show W0.heap[wc.heap.size]? = some (.cells (bytesRow s G) 5 ((bytesRow s G).size, (bytesRow s G).size + 1)) by rw [hW0, heap_drew]; exact at_new rfl)
  have HQB := hide (show Below wc.heap.size wc W0 by rw [hW0]; exact ((Below.refl _ _).alloc (Nat.le_refl _) _).drew)
  have HB := hide (bytesRow_at s G)
  clear hW0 hcv
  have HX9 := hide (bnext2 (unhide HX3) (unhide HQB))
  generalize bytesRow s G = RW at *
  go_loopw [172] (fun i wl => ∃ k : Nat, k ≤ s.size ∧ i = .int .i64 (k : Int) ∧ Hid (∀ x ∈ s.data.toList.take k, x ≠ 10) ∧ Hid (wl = W0)) (fun i _ => s.size - (intOf i).toNat)
  case atStart => exact ⟨0, by omega, rfl, fun x hx => by simp at hx, rfl⟩
  case round =>
    obtain ⟨k, hk, rfl, HN, HW⟩ := hrel
    obtain rfl := unhide HW
    rcases Nat.lt_or_ge k s.size with hlt | hge
    · have c2 : wr.cell? ⟨wc.heap.size, k, none⟩ = some (.int .u8 (s[k].toNat : Int)) := by
        rw [cell_of_row wr _ _ _ _ _ (unhide HQ), unhide HB k hlt]; rfl
      have HTK := hide (show s.data.toList.take (k + 1) = s.data.toList.take k ++ [s[k]] from take_byte s k hlt)
      have HMM := hide (show s[k] ∈ s.data.toList from mem_byte s k hlt)
      have hkk : (k : Int) < (s.size : Int) := by omega
      generalize s[k] = x at *
      by_cases h10 : x = 10
      · have e10 : ((x.toNat : Int) == 10) = true := by rw [h10]; rfl
        have HE := hide ((unhide HRR).trans (if_pos (show nl10 fl = true by
          unfold nl10
          rw [List.contains_iff_mem, ← unhide HDT, ← h10]
          exact unhide HMM)))
        clear h10
        go_wp2_with fail
        go_ret2
        exact ⟨by rw [unhide HE]; rfl, unhide HX9⟩
      · have e10 : ((x.toNat : Int) == 10) = false := by
          rw [beq_eq_false_iff_ne]
          intro e
          apply h10
          apply UInt8.toNat_inj.1
          show x.toNat = 10
          omega
        have HN2 := hide (show ∀ y ∈ s.data.toList.take (k + 1), y ≠ 10 from fun y hy => by
          rw [unhide HTK] at hy
          rcases List.mem_append.1 hy with hy | hy
          · exact unhide HN y hy
          · obtain rfl := List.mem_singleton.1 hy
            exact h10)
        clear h10
        go_wp2_with fail
        exact ⟨⟨k + 1, by omega, by go_num, HN2, hide trivial⟩, by simp [intOf]; omega⟩
    · obtain rfl : k = s.size := by omega
      have hno : ¬ nl10 fl = true := fun q => by
        unfold nl10 at q
        rw [List.contains_iff_mem, ← unhide HDT] at q
        have h := unhide HN 10 (by rw [List.take_of_length_le (by show s.data.toList.length ≤ s.size; exact Nat.le_refl _)]; exact q)
        exact h rfl
      have HRR := hide ((unhide HRR).trans (if_neg hno))
      clear hno
      by_cases h2 : 2000 < fl.length
      · have HE := hide ((unhide HRR).trans (if_pos h2))
        have h2' : (2000 : Int) < (s.size : Int) := by have := unhide HLEN; omega
        clear h2
        go_wp2_with fail
        go_ret2
        exact ⟨by rw [unhide HE]; rfl, unhide HX9⟩
      · have HE := hide ((unhide HRR).trans (if_neg h2))
        have h2' : ¬ (2000 : Int) < (s.size : Int) := by have := unhide HLEN; omega
        clear h2
        go_wp2_with fail
        go_ret2
        exact ⟨by rw [unhide HE]; rfl, unhide HX9⟩
end Go.Proofs.YtpphjddljngkmaaGreatDoor
