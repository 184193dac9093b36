/- The writer of lines: statements. -/
import Derived.Test.YtpphjddljngkmaaGreatDoorWrKM
import Derived.Test.YtpphjddljngkmaaGreatDoorRegionSinkM
namespace Go.Proofs.YtpphjddljngkmaaGreatDoor
open Go.RowKit

def tEqB : ByteArray := ⟨#[32, 61, 32]⟩
def tQuB : ByteArray := ⟨#[32, 63, 32]⟩
def tDfB : ByteArray := ⟨#[32, 58, 61, 32]⟩
theorem stSize : (Tryz.prog.info? 33).map (·.size) = some 24 := by kernel_rfl
theorem named_le {t : ByteArray} (h : t.size ≠ 0 → named t = true) : t.size ≤ 16 := by
  by_cases q : t.size = 0
  · omega
  · exact (named_word (h q)).2.1
theorem fits_cnt {T : PT} (h : T.fits = true) : T.cnt ≤ 4096 := by
  unfold PT.fits at h
  rw [Bool.and_eq_true] at h
  exact of_decide_eq_true h.1
set_option maxRecDepth 100000 in
set_option maxHeartbeats 8000000 in
theorem stm_1 (S : SV) (pt : ByteArray) {W w : World} {B z : Nat} {v : Value} {o : List UInt8} {f : Bool} (hk : S.k = 1) (hE : EnvW W) (hb : Below W.heap.size W w) (hz : W.heap.size ≤ z) (hW : WrI B z w v o f) (hIn : S.In W) (hwr : S.wrong = 0) (ho : max o.length 140000 + 500000 ≤ 9000000) :
    Calls Tryz.prog 26 #[.pointer (some ⟨z, 0, none⟩), S.v, .string pt] w fun e w' => WPost B z w v o (flt (stI S)) f 500000 e w' := by
  have hzl : z < w.heap.size := (Array.getElem?_eq_some_iff.1 hW.blk).1
  have hnz : w.heap.size ≠ z := by omega
  obtain ⟨hway, hknd⟩ := wrong_way hwr
  have hwl := named_le hway.lab
  have hwa := named_le hway.al
  have hwy := named_le hway.ye
  have hwn := named_le hway.no
  obtain ⟨C, hC⟩ : ∃ C, C = S.cells := ⟨_, rfl⟩
  have hsv : S.v = .agg C := by rw [hC]; rfl
  have HSV := hide hsv
  have HC24 : Hid (C.size = 24) := hide (by rw [hC]; rfl)
  have HCtg : Hid (C[2]? = some (.int .i64 S.tg.k) ∧ C[3]? = some (.string S.tg.t) ∧ C[4]? = some (.int .i64 S.tg.n) ∧ C[5]? = some (.string S.tg.nm) ∧ C[6]? = some (.slice S.tg.xa S.tg.len S.tg.cap)) := hide (by rw [hC]; exact ⟨rfl, rfl, rfl, rfl, rfl⟩)
  have HCva : Hid (C[7]? = some (.int .i64 S.va.k) ∧ C[8]? = some (.string S.va.t) ∧ C[9]? = some (.int .i64 S.va.n) ∧ C[10]? = some (.string S.va.nm) ∧ C[11]? = some (.slice S.va.xa S.va.len S.va.cap)) := hide (by rw [hC]; exact ⟨rfl, rfl, rfl, rfl, rfl⟩)
  have HCnm : Hid (C[17]? = some (.string S.nm) ∧ C[18]? = some (.string S.en) ∧ C[19]? = some S.ps.v ∧ C[20]? = some S.ls.v) := hide (by rw [hC]; exact ⟨rfl, rfl, rfl, rfl⟩)
  have hc0 : C[0]? = some (.string S.lab) := by rw [hC]; rfl
  have hc1 : C[1]? = some (.int .i64 S.k) := by rw [hC]; rfl
  have HC1 := hide hc1
  rw [hsv]
  obtain ⟨w1, hw1⟩ : ∃ w1, w1 = w.alloc (.cells C 33) := ⟨_, rfl⟩
  have hal : Below w.heap.size w w1 := by rw [hw1]; exact ba _
  have hbx : w1.heap[w.heap.size]? = some (.cells C 33 (0, 0)) := by rw [hw1]; exact at_new rfl
  have H1 := hide ((Wn.start hb hW).below hal)
  have HBX := hide hbx
  have HS1 : Hid (w1.heap.size = w.heap.size + 1) := hide (by rw [hw1]; simp)
  have HW1 : Hid (w.alloc (.cells C 33) = w1) := hide (hw1.symm)
  have HZ := hide (And.intro hE hz)
  have HIN := hide hIn
  have HLB : Hid (flt (if S.lab.size = 0 then [] else [wd S.lab]) = S.lab.data.toList) := hide (by
    by_cases q : S.lab.size = 0
    · rw [if_pos q]; exact (List.eq_nil_of_length_eq_zero (by rw [tlen]; exact q)).symm
    · rw [if_neg q]; exact List.append_nil _)
  have c0 := cellC hbx hc0
  have c1 := cellC hbx hc1
  rw [hw1] at c0 c1
  clear hE hb hW hal hbx hw1 hC hsv hIn hwr hway hc0 hc1
  rw [hk] at c1 HC1
  have HI : Hid (flt (stI S) = S.lab.data.toList ++ ([] ++ flt (waysI S))) := hide (by
    unfold stI bodyI
    rw [flt_app, flt_app, unhide HLB, hk]
    rfl)
  clear hknd hk HLB
  have HP1 : Hid (Calls Tryz.prog 42 #[.pointer (some ⟨z, 0, none⟩), .slice (some ⟨w1.heap.size, 0, none⟩) 1 1] (w1.alloc (.cells #[.string S.lab] 9)) _) := hide ((unhide H1).put (unhide HZ).1 (unhide HZ).2 (by omega) [S.lab] (by simp) (fun t ht => by simp only [List.mem_cons, List.not_mem_nil, or_false] at ht; subst ht; omega) 16 (by show (cat [S.lab]).length ≤ 16; unfold cat; simp only [List.flatMap_cons, List.flatMap_nil, List.length_append, List.length_nil, tlen]; omega))
  rw [unhide HS1] at HP1
  go_enter Tryz.func26, Tryz.ntmps26
  go_wp2_with fail
  rw [unhide HW1]
  refine (unhide HP1).mono ?_
  rintro e w2 ⟨rfl, v2, o2, f2, h2, hx2⟩
  have HBX2 := hide (hx2.keep (unhide H1).wr (unhide HBX) (by decide) hnz)
  have H2 := hide h2
  clear h2 hx2 HP1 H1
  clear c0 c1
  have c1 := cellC (unhide HBX2) (unhide HC1)
  have HK2 := hide (ways_any S (unhide HZ).1 (unhide H2).bel (unhide HZ).2 (unhide H2).wr hwa hwy hwn ((unhide H2).len2 (by omega)))
  rw [unhide HSV] at HK2
  go_wp2_with (first
    | (refine wpList_load_row rfl 33 _ rfl w.heap.size rfl 33 C (0, 0) _ (unhide HBX2) Tryz.underlying33 rfl (stSize.trans (by rw [unhide HC24])) ?_)
    | fail)
  refine (unhide HK2).mono ?_
  rintro e w3 ⟨rfl, hst⟩
  obtain ⟨v3, o3, f3, h3, -⟩ := (unhide H2).sub (unhide HZ).2 hst
  have HF := hide (h3.done (t := flt (stI S)) (c := 500000) (by rw [unhide HI]; rw [cat_one]; show [] ++ S.lab.data.toList ++ flt (waysI S) = _; simp) (by omega))
  clear hst h3 HK2 H2
  go_wp2_with fail
  go_end0
  exact ⟨rfl, unhide HF⟩
set_option maxRecDepth 100000 in
set_option maxHeartbeats 8000000 in
theorem stm_2 (S : SV) (pt : ByteArray) {W w : World} {B z : Nat} {v : Value} {o : List UInt8} {f : Bool} (hk : S.k = 2) (hE : EnvW W) (hb : Below W.heap.size W w) (hz : W.heap.size ≤ z) (hW : WrI B z w v o f) (hIn : S.In W) (hwr : S.wrong = 0) (ho : max o.length 140000 + 500000 ≤ 9000000) :
    Calls Tryz.prog 26 #[.pointer (some ⟨z, 0, none⟩), S.v, .string pt] w fun e w' => WPost B z w v o (flt (stI S)) f 500000 e w' := by
  have hzl : z < w.heap.size := (Array.getElem?_eq_some_iff.1 hW.blk).1
  have hnz : w.heap.size ≠ z := by omega
  obtain ⟨hway, hknd⟩ := wrong_way hwr
  have hwl := named_le hway.lab
  have hwa := named_le hway.al
  have hwy := named_le hway.ye
  have hwn := named_le hway.no
  obtain ⟨C, hC⟩ : ∃ C, C = S.cells := ⟨_, rfl⟩
  have hsv : S.v = .agg C := by rw [hC]; rfl
  have HSV := hide hsv
  have HC24 : Hid (C.size = 24) := hide (by rw [hC]; rfl)
  have HCtg : Hid (C[2]? = some (.int .i64 S.tg.k) ∧ C[3]? = some (.string S.tg.t) ∧ C[4]? = some (.int .i64 S.tg.n) ∧ C[5]? = some (.string S.tg.nm) ∧ C[6]? = some (.slice S.tg.xa S.tg.len S.tg.cap)) := hide (by rw [hC]; exact ⟨rfl, rfl, rfl, rfl, rfl⟩)
  have HCva : Hid (C[7]? = some (.int .i64 S.va.k) ∧ C[8]? = some (.string S.va.t) ∧ C[9]? = some (.int .i64 S.va.n) ∧ C[10]? = some (.string S.va.nm) ∧ C[11]? = some (.slice S.va.xa S.va.len S.va.cap)) := hide (by rw [hC]; exact ⟨rfl, rfl, rfl, rfl, rfl⟩)
  have HCnm : Hid (C[17]? = some (.string S.nm) ∧ C[18]? = some (.string S.en) ∧ C[19]? = some S.ps.v ∧ C[20]? = some S.ls.v) := hide (by rw [hC]; exact ⟨rfl, rfl, rfl, rfl⟩)
  have hc0 : C[0]? = some (.string S.lab) := by rw [hC]; rfl
  have hc1 : C[1]? = some (.int .i64 S.k) := by rw [hC]; rfl
  have HC1 := hide hc1
  rw [hsv]
  obtain ⟨w1, hw1⟩ : ∃ w1, w1 = w.alloc (.cells C 33) := ⟨_, rfl⟩
  have hal : Below w.heap.size w w1 := by rw [hw1]; exact ba _
  have hbx : w1.heap[w.heap.size]? = some (.cells C 33 (0, 0)) := by rw [hw1]; exact at_new rfl
  have H1 := hide ((Wn.start hb hW).below hal)
  have HBX := hide hbx
  have HS1 : Hid (w1.heap.size = w.heap.size + 1) := hide (by rw [hw1]; simp)
  have HW1 : Hid (w.alloc (.cells C 33) = w1) := hide (hw1.symm)
  have HZ := hide (And.intro hE hz)
  have HIN := hide hIn
  have HLB : Hid (flt (if S.lab.size = 0 then [] else [wd S.lab]) = S.lab.data.toList) := hide (by
    by_cases q : S.lab.size = 0
    · rw [if_pos q]; exact (List.eq_nil_of_length_eq_zero (by rw [tlen]; exact q)).symm
    · rw [if_neg q]; exact List.append_nil _)
  have c0 := cellC hbx hc0
  have c1 := cellC hbx hc1
  rw [hw1] at c0 c1
  clear hE hb hW hal hbx hw1 hC hsv hIn hwr hway hc0 hc1
  rw [hk] at c1 HC1
  have hva : S.va.wrongX = 0 := by
    unfold SV.kndE at hknd
    rw [hk] at hknd
    exact hknd
  have hb_va := (wrongX_nil hva).2
  have hn_va := fits_cnt (wrongX_nil hva).1
  clear hva
  have HI : Hid (flt (stI S) = S.lab.data.toList ++ (([32] ++ flt (S.va.atl 0)) ++ flt (waysI S))) := hide (by
    unfold stI bodyI
    rw [flt_app, flt_app, unhide HLB, hk]
    show _ ++ (flt (bl :: S.va.exI) ++ _) = _; rw [flt_cons, atl_any]; rfl)
  clear hknd hk HLB
  have HP1 : Hid (Calls Tryz.prog 42 #[.pointer (some ⟨z, 0, none⟩), .slice (some ⟨w1.heap.size, 0, none⟩) 1 1] (w1.alloc (.cells #[.string S.lab] 9)) _) := hide ((unhide H1).put (unhide HZ).1 (unhide HZ).2 (by omega) [S.lab] (by simp) (fun t ht => by simp only [List.mem_cons, List.not_mem_nil, or_false] at ht; subst ht; omega) 16 (by show (cat [S.lab]).length ≤ 16; unfold cat; simp only [List.flatMap_cons, List.flatMap_nil, List.length_append, List.length_nil, tlen]; omega))
  rw [unhide HS1] at HP1
  go_enter Tryz.func26, Tryz.ntmps26
  go_wp2_with fail
  rw [unhide HW1]
  refine (unhide HP1).mono ?_
  rintro e w2 ⟨rfl, v2, o2, f2, h2, hx2⟩
  have HBX2 := hide (hx2.keep (unhide H1).wr (unhide HBX) (by decide) hnz)
  have H2 := hide h2
  clear h2 hx2 HP1 H1
  clear c0 c1
  have c1 := cellC (unhide HBX2) (unhide HC1)
  have e32 : (sgn 32).size = 1 := rfl
  have HP2 : Hid (Calls Tryz.prog 42 #[.pointer (some ⟨z, 0, none⟩), .slice (some ⟨w2.heap.size, 0, none⟩) 1 1] (w2.alloc (.cells #[.string ⟨#[32]⟩] 9)) _) := hide ((unhide H2).put (unhide HZ).1 (unhide HZ).2 (by omega) [sgn 32] (by simp) (fun t ht => by simp only [List.mem_cons, List.not_mem_nil, or_false] at ht; subst ht; omega) 1 (by show (cat [sgn 32]).length ≤ 1; unfold cat; simp only [List.flatMap_cons, List.flatMap_nil, List.length_append, List.length_nil, tlen]; omega))
  go_wp2_with fail
  refine (unhide HP2).mono ?_
  rintro e w3 ⟨rfl, v3, o3, f3, h3, hx3⟩
  have HBX3 := hide (hx3.keep (unhide H2).wr (unhide HBX2) (by decide) hnz)
  have H3 := hide h3
  clear h3 hx3 HP2 H2
  clear c1
  have c1 := cellC (unhide HBX3) (unhide HC1)
  have HK3 : Hid (Calls Tryz.prog 43 #[.pointer (some ⟨z, 0, none⟩), .agg #[.int .i64 S.va.k, .string S.va.t, .int .i64 S.va.n, .string S.va.nm, .slice S.va.xa S.va.len S.va.cap], .int .i64 0] w3 fun e w' => WPost B z w3 v3 o3 (flt (S.va.atl 0)) f3 (40 * S.va.cnt) e w') := hide (expr_all S.va W w3 B z v3 o3 f3 0 (unhide HZ).1 (unhide HIN).va (unhide H3).bel (unhide HZ).2 (unhide H3).wr hb_va ((unhide H3).len2 (by omega)))
  obtain ⟨m0, m1, m2, m3, m4⟩ := unhide HCva
  have g0 := cellC (unhide HBX3) m0
  have g1 := cellC (unhide HBX3) m1
  have g2 := cellC (unhide HBX3) m2
  have g3 := cellC (unhide HBX3) m3
  have g4 := cellC (unhide HBX3) m4
  clear m0 m1 m2 m3 m4
  go_wp2_with fail
  refine (unhide HK3).mono ?_
  rintro e w4 ⟨rfl, hst⟩
  obtain ⟨v4, o4, f4, h4, hx4⟩ := (unhide H3).sub (unhide HZ).2 hst
  have HBX4 := hide (hx4.keep (unhide H3).wr (unhide HBX3) (by decide) hnz)
  have H4 := hide h4
  clear hst h4 hx4 HK3 H3 g0 g1 g2 g3 g4
  clear c1
  have HK4 := hide (ways_any S (unhide HZ).1 (unhide H4).bel (unhide HZ).2 (unhide H4).wr hwa hwy hwn ((unhide H4).len2 (by omega)))
  rw [unhide HSV] at HK4
  go_wp2_with (first
    | (refine wpList_load_row rfl 33 _ rfl w.heap.size rfl 33 C (0, 0) _ (unhide HBX4) Tryz.underlying33 rfl (stSize.trans (by rw [unhide HC24])) ?_)
    | fail)
  refine (unhide HK4).mono ?_
  rintro e w5 ⟨rfl, hst⟩
  obtain ⟨v5, o5, f5, h5, -⟩ := (unhide H4).sub (unhide HZ).2 hst
  have HF := hide (h5.done (t := flt (stI S)) (c := 500000) (by rw [unhide HI]; rw [cat_one, cat_one]; show [] ++ S.lab.data.toList ++ [32] ++ flt (S.va.atl 0) ++ flt (waysI S) = _; simp) (by omega))
  clear hst h5 HK4 H4
  go_wp2_with fail
  go_end0
  exact ⟨rfl, unhide HF⟩
set_option maxRecDepth 100000 in
set_option maxHeartbeats 8000000 in
theorem stm_3 (S : SV) (pt : ByteArray) {W w : World} {B z : Nat} {v : Value} {o : List UInt8} {f : Bool} (hk : S.k = 3) (hE : EnvW W) (hb : Below W.heap.size W w) (hz : W.heap.size ≤ z) (hW : WrI B z w v o f) (hIn : S.In W) (hwr : S.wrong = 0) (ho : max o.length 140000 + 500000 ≤ 9000000) :
    Calls Tryz.prog 26 #[.pointer (some ⟨z, 0, none⟩), S.v, .string pt] w fun e w' => WPost B z w v o (flt (stI S)) f 500000 e w' := by
  have hzl : z < w.heap.size := (Array.getElem?_eq_some_iff.1 hW.blk).1
  have hnz : w.heap.size ≠ z := by omega
  obtain ⟨hway, hknd⟩ := wrong_way hwr
  have hwl := named_le hway.lab
  have hwa := named_le hway.al
  have hwy := named_le hway.ye
  have hwn := named_le hway.no
  obtain ⟨C, hC⟩ : ∃ C, C = S.cells := ⟨_, rfl⟩
  have hsv : S.v = .agg C := by rw [hC]; rfl
  have HSV := hide hsv
  have HC24 : Hid (C.size = 24) := hide (by rw [hC]; rfl)
  have HCtg : Hid (C[2]? = some (.int .i64 S.tg.k) ∧ C[3]? = some (.string S.tg.t) ∧ C[4]? = some (.int .i64 S.tg.n) ∧ C[5]? = some (.string S.tg.nm) ∧ C[6]? = some (.slice S.tg.xa S.tg.len S.tg.cap)) := hide (by rw [hC]; exact ⟨rfl, rfl, rfl, rfl, rfl⟩)
  have HCva : Hid (C[7]? = some (.int .i64 S.va.k) ∧ C[8]? = some (.string S.va.t) ∧ C[9]? = some (.int .i64 S.va.n) ∧ C[10]? = some (.string S.va.nm) ∧ C[11]? = some (.slice S.va.xa S.va.len S.va.cap)) := hide (by rw [hC]; exact ⟨rfl, rfl, rfl, rfl, rfl⟩)
  have HCnm : Hid (C[17]? = some (.string S.nm) ∧ C[18]? = some (.string S.en) ∧ C[19]? = some S.ps.v ∧ C[20]? = some S.ls.v) := hide (by rw [hC]; exact ⟨rfl, rfl, rfl, rfl⟩)
  have hc0 : C[0]? = some (.string S.lab) := by rw [hC]; rfl
  have hc1 : C[1]? = some (.int .i64 S.k) := by rw [hC]; rfl
  have HC1 := hide hc1
  rw [hsv]
  obtain ⟨w1, hw1⟩ : ∃ w1, w1 = w.alloc (.cells C 33) := ⟨_, rfl⟩
  have hal : Below w.heap.size w w1 := by rw [hw1]; exact ba _
  have hbx : w1.heap[w.heap.size]? = some (.cells C 33 (0, 0)) := by rw [hw1]; exact at_new rfl
  have H1 := hide ((Wn.start hb hW).below hal)
  have HBX := hide hbx
  have HS1 : Hid (w1.heap.size = w.heap.size + 1) := hide (by rw [hw1]; simp)
  have HW1 : Hid (w.alloc (.cells C 33) = w1) := hide (hw1.symm)
  have HZ := hide (And.intro hE hz)
  have HIN := hide hIn
  have HLB : Hid (flt (if S.lab.size = 0 then [] else [wd S.lab]) = S.lab.data.toList) := hide (by
    by_cases q : S.lab.size = 0
    · rw [if_pos q]; exact (List.eq_nil_of_length_eq_zero (by rw [tlen]; exact q)).symm
    · rw [if_neg q]; exact List.append_nil _)
  have c0 := cellC hbx hc0
  have c1 := cellC hbx hc1
  rw [hw1] at c0 c1
  clear hE hb hW hal hbx hw1 hC hsv hIn hwr hway hc0 hc1
  rw [hk] at c1 HC1
  have hq : fst0 [tgE S.tg, S.va.wrongX] = 0 := by
    unfold SV.kndE at hknd
    rw [hk] at hknd
    exact hknd
  have htx := (tg_nil (fst0_cons hq).1).1
  have hva := (fst0_cons (fst0_cons hq).2).1
  have hb_va := (wrongX_nil hva).2
  have hn_va := fits_cnt (wrongX_nil hva).1
  have hb_tg := (wrongX_nil htx).2
  have hn_tg := fits_cnt (wrongX_nil htx).1
  clear hq htx hva
  have e3 : tEqB.size = 3 := rfl
  have HI : Hid (flt (stI S) = S.lab.data.toList ++ (([32] ++ (flt (S.tg.atl 0) ++ ([32, 61, 32] ++ flt (S.va.atl 0)))) ++ flt (waysI S))) := hide (by
    unfold stI bodyI
    rw [flt_app, flt_app, unhide HLB, hk]
    show _ ++ (flt (bl :: (S.tg.exI ++ (bl :: sg 61 :: bl :: S.va.exI))) ++ _) = _; rw [flt_cons, flt_app, flt_cons, flt_cons, flt_cons, atl_any, atl_any]; rfl)
  clear hknd hk HLB
  have HP1 : Hid (Calls Tryz.prog 42 #[.pointer (some ⟨z, 0, none⟩), .slice (some ⟨w1.heap.size, 0, none⟩) 1 1] (w1.alloc (.cells #[.string S.lab] 9)) _) := hide ((unhide H1).put (unhide HZ).1 (unhide HZ).2 (by omega) [S.lab] (by simp) (fun t ht => by simp only [List.mem_cons, List.not_mem_nil, or_false] at ht; subst ht; omega) 16 (by show (cat [S.lab]).length ≤ 16; unfold cat; simp only [List.flatMap_cons, List.flatMap_nil, List.length_append, List.length_nil, tlen]; omega))
  rw [unhide HS1] at HP1
  go_enter Tryz.func26, Tryz.ntmps26
  go_wp2_with fail
  rw [unhide HW1]
  refine (unhide HP1).mono ?_
  rintro e w2 ⟨rfl, v2, o2, f2, h2, hx2⟩
  have HBX2 := hide (hx2.keep (unhide H1).wr (unhide HBX) (by decide) hnz)
  have H2 := hide h2
  clear h2 hx2 HP1 H1
  clear c0 c1
  have c1 := cellC (unhide HBX2) (unhide HC1)
  have e32 : (sgn 32).size = 1 := rfl
  have HP2 : Hid (Calls Tryz.prog 42 #[.pointer (some ⟨z, 0, none⟩), .slice (some ⟨w2.heap.size, 0, none⟩) 1 1] (w2.alloc (.cells #[.string ⟨#[32]⟩] 9)) _) := hide ((unhide H2).put (unhide HZ).1 (unhide HZ).2 (by omega) [sgn 32] (by simp) (fun t ht => by simp only [List.mem_cons, List.not_mem_nil, or_false] at ht; subst ht; omega) 1 (by show (cat [sgn 32]).length ≤ 1; unfold cat; simp only [List.flatMap_cons, List.flatMap_nil, List.length_append, List.length_nil, tlen]; omega))
  go_wp2_with fail
  refine (unhide HP2).mono ?_
  rintro e w3 ⟨rfl, v3, o3, f3, h3, hx3⟩
  have HBX3 := hide (hx3.keep (unhide H2).wr (unhide HBX2) (by decide) hnz)
  have H3 := hide h3
  clear h3 hx3 HP2 H2
  clear c1
  have c1 := cellC (unhide HBX3) (unhide HC1)
  have HK3 : Hid (Calls Tryz.prog 43 #[.pointer (some ⟨z, 0, none⟩), .agg #[.int .i64 S.tg.k, .string S.tg.t, .int .i64 S.tg.n, .string S.tg.nm, .slice S.tg.xa S.tg.len S.tg.cap], .int .i64 0] w3 fun e w' => WPost B z w3 v3 o3 (flt (S.tg.atl 0)) f3 (40 * S.tg.cnt) e w') := hide (expr_all S.tg W w3 B z v3 o3 f3 0 (unhide HZ).1 (unhide HIN).tg (unhide H3).bel (unhide HZ).2 (unhide H3).wr hb_tg ((unhide H3).len2 (by omega)))
  obtain ⟨m0, m1, m2, m3, m4⟩ := unhide HCtg
  have g0 := cellC (unhide HBX3) m0
  have g1 := cellC (unhide HBX3) m1
  have g2 := cellC (unhide HBX3) m2
  have g3 := cellC (unhide HBX3) m3
  have g4 := cellC (unhide HBX3) m4
  clear m0 m1 m2 m3 m4
  go_wp2_with fail
  refine (unhide HK3).mono ?_
  rintro e w4 ⟨rfl, hst⟩
  obtain ⟨v4, o4, f4, h4, hx4⟩ := (unhide H3).sub (unhide HZ).2 hst
  have HBX4 := hide (hx4.keep (unhide H3).wr (unhide HBX3) (by decide) hnz)
  have H4 := hide h4
  clear hst h4 hx4 HK3 H3 g0 g1 g2 g3 g4
  clear c1
  have HP4 : Hid (Calls Tryz.prog 42 #[.pointer (some ⟨z, 0, none⟩), .slice (some ⟨w4.heap.size, 0, none⟩) 1 1] (w4.alloc (.cells #[.string ⟨#[32, 61, 32]⟩] 9)) _) := hide ((unhide H4).put (unhide HZ).1 (unhide HZ).2 (by omega) [tEqB] (by simp) (fun t ht => by simp only [List.mem_cons, List.not_mem_nil, or_false] at ht; subst ht; omega) 3 (by show (cat [tEqB]).length ≤ 3; unfold cat; simp only [List.flatMap_cons, List.flatMap_nil, List.length_append, List.length_nil, tlen]; omega))
  go_wp2_with fail
  refine (unhide HP4).mono ?_
  rintro e w5 ⟨rfl, v5, o5, f5, h5, hx5⟩
  have HBX5 := hide (hx5.keep (unhide H4).wr (unhide HBX4) (by decide) hnz)
  have H5 := hide h5
  clear h5 hx5 HP4 H4
  have HK5 : Hid (Calls Tryz.prog 43 #[.pointer (some ⟨z, 0, none⟩), .agg #[.int .i64 S.va.k, .string S.va.t, .int .i64 S.va.n, .string S.va.nm, .slice S.va.xa S.va.len S.va.cap], .int .i64 0] w5 fun e w' => WPost B z w5 v5 o5 (flt (S.va.atl 0)) f5 (40 * S.va.cnt) e w') := hide (expr_all S.va W w5 B z v5 o5 f5 0 (unhide HZ).1 (unhide HIN).va (unhide H5).bel (unhide HZ).2 (unhide H5).wr hb_va ((unhide H5).len2 (by omega)))
  obtain ⟨m0, m1, m2, m3, m4⟩ := unhide HCva
  have g0 := cellC (unhide HBX5) m0
  have g1 := cellC (unhide HBX5) m1
  have g2 := cellC (unhide HBX5) m2
  have g3 := cellC (unhide HBX5) m3
  have g4 := cellC (unhide HBX5) m4
  clear m0 m1 m2 m3 m4
  go_wp2_with fail
  refine (unhide HK5).mono ?_
  rintro e w6 ⟨rfl, hst⟩
  obtain ⟨v6, o6, f6, h6, hx6⟩ := (unhide H5).sub (unhide HZ).2 hst
  have HBX6 := hide (hx6.keep (unhide H5).wr (unhide HBX5) (by decide) hnz)
  have H6 := hide h6
  clear hst h6 hx6 HK5 H5 g0 g1 g2 g3 g4
  have HK6 := hide (ways_any S (unhide HZ).1 (unhide H6).bel (unhide HZ).2 (unhide H6).wr hwa hwy hwn ((unhide H6).len2 (by omega)))
  rw [unhide HSV] at HK6
  go_wp2_with (first
    | (refine wpList_load_row rfl 33 _ rfl w.heap.size rfl 33 C (0, 0) _ (unhide HBX6) Tryz.underlying33 rfl (stSize.trans (by rw [unhide HC24])) ?_)
    | fail)
  refine (unhide HK6).mono ?_
  rintro e w7 ⟨rfl, hst⟩
  obtain ⟨v7, o7, f7, h7, -⟩ := (unhide H6).sub (unhide HZ).2 hst
  have HF := hide (h7.done (t := flt (stI S)) (c := 500000) (by rw [unhide HI]; rw [cat_one, cat_one, cat_one]; show [] ++ S.lab.data.toList ++ [32] ++ flt (S.tg.atl 0) ++ [32, 61, 32] ++ flt (S.va.atl 0) ++ flt (waysI S) = _; simp) (by omega))
  clear hst h7 HK6 H6
  go_wp2_with fail
  go_end0
  exact ⟨rfl, unhide HF⟩
set_option maxRecDepth 100000 in
set_option maxHeartbeats 8000000 in
theorem stm_4 (S : SV) (pt : ByteArray) {W w : World} {B z : Nat} {v : Value} {o : List UInt8} {f : Bool} (hk : S.k = 4) (hE : EnvW W) (hb : Below W.heap.size W w) (hz : W.heap.size ≤ z) (hW : WrI B z w v o f) (hIn : S.In W) (hwr : S.wrong = 0) (hp : pt.data.toList = 91 :: (S.pa.txt ++ [93])) (hps : pt.size ≤ 65538) (ho : max o.length 140000 + 500000 ≤ 9000000) :
    Calls Tryz.prog 26 #[.pointer (some ⟨z, 0, none⟩), S.v, .string pt] w fun e w' => WPost B z w v o (flt (stI S)) f 500000 e w' := by
  have hzl : z < w.heap.size := (Array.getElem?_eq_some_iff.1 hW.blk).1
  have hnz : w.heap.size ≠ z := by omega
  obtain ⟨hway, hknd⟩ := wrong_way hwr
  have hwl := named_le hway.lab
  have hwa := named_le hway.al
  have hwy := named_le hway.ye
  have hwn := named_le hway.no
  obtain ⟨C, hC⟩ : ∃ C, C = S.cells := ⟨_, rfl⟩
  have hsv : S.v = .agg C := by rw [hC]; rfl
  have HSV := hide hsv
  have HC24 : Hid (C.size = 24) := hide (by rw [hC]; rfl)
  have HCtg : Hid (C[2]? = some (.int .i64 S.tg.k) ∧ C[3]? = some (.string S.tg.t) ∧ C[4]? = some (.int .i64 S.tg.n) ∧ C[5]? = some (.string S.tg.nm) ∧ C[6]? = some (.slice S.tg.xa S.tg.len S.tg.cap)) := hide (by rw [hC]; exact ⟨rfl, rfl, rfl, rfl, rfl⟩)
  have HCva : Hid (C[7]? = some (.int .i64 S.va.k) ∧ C[8]? = some (.string S.va.t) ∧ C[9]? = some (.int .i64 S.va.n) ∧ C[10]? = some (.string S.va.nm) ∧ C[11]? = some (.slice S.va.xa S.va.len S.va.cap)) := hide (by rw [hC]; exact ⟨rfl, rfl, rfl, rfl, rfl⟩)
  have HCnm : Hid (C[17]? = some (.string S.nm) ∧ C[18]? = some (.string S.en) ∧ C[19]? = some S.ps.v ∧ C[20]? = some S.ls.v) := hide (by rw [hC]; exact ⟨rfl, rfl, rfl, rfl⟩)
  have hc0 : C[0]? = some (.string S.lab) := by rw [hC]; rfl
  have hc1 : C[1]? = some (.int .i64 S.k) := by rw [hC]; rfl
  have HC1 := hide hc1
  rw [hsv]
  obtain ⟨w1, hw1⟩ : ∃ w1, w1 = w.alloc (.cells C 33) := ⟨_, rfl⟩
  have hal : Below w.heap.size w w1 := by rw [hw1]; exact ba _
  have hbx : w1.heap[w.heap.size]? = some (.cells C 33 (0, 0)) := by rw [hw1]; exact at_new rfl
  have H1 := hide ((Wn.start hb hW).below hal)
  have HBX := hide hbx
  have HS1 : Hid (w1.heap.size = w.heap.size + 1) := hide (by rw [hw1]; simp)
  have HW1 : Hid (w.alloc (.cells C 33) = w1) := hide (hw1.symm)
  have HZ := hide (And.intro hE hz)
  have HIN := hide hIn
  have HLB : Hid (flt (if S.lab.size = 0 then [] else [wd S.lab]) = S.lab.data.toList) := hide (by
    by_cases q : S.lab.size = 0
    · rw [if_pos q]; exact (List.eq_nil_of_length_eq_zero (by rw [tlen]; exact q)).symm
    · rw [if_neg q]; exact List.append_nil _)
  have c0 := cellC hbx hc0
  have c1 := cellC hbx hc1
  rw [hw1] at c0 c1
  clear hE hb hW hal hbx hw1 hC hsv hIn hwr hway hc0 hc1
  rw [hk] at c1 HC1
  have hq : fst0 [S.va.wrongX, S.pa.wrong] = 0 := by
    unfold SV.kndE at hknd
    rw [hk] at hknd
    exact hknd
  have hva := (fst0_cons hq).1
  have hb_va := (wrongX_nil hva).2
  have hn_va := fits_cnt (wrongX_nil hva).1
  clear hq hva
  have e3 : tQuB.size = 3 := rfl
  obtain ⟨cP, hcP⟩ : ∃ cP : Nat, cP = 65541 := ⟨_, rfl⟩
  have HI : Hid (flt (stI S) = S.lab.data.toList ++ (([32] ++ (flt (S.va.atl 0) ++ ([32, 63, 32] ++ pt.data.toList))) ++ flt (waysI S))) := hide (by
    unfold stI bodyI
    rw [flt_app, flt_app, unhide HLB, hk]
    show _ ++ (flt (bl :: (S.va.exI ++ (bl :: sg 63 :: bl :: [ptI S]))) ++ _) = _; rw [flt_cons, flt_app, flt_cons, flt_cons, flt_cons, flt_cons, atl_any, hp]; show _ ++ (([32] ++ (flt S.va.exI ++ ([32] ++ ([63] ++ ([32] ++ ((91 :: (S.pa.txt ++ [93])) ++ [])))))) ++ _) = _; simp)
  clear hknd hk HLB
  have HP1 : Hid (Calls Tryz.prog 42 #[.pointer (some ⟨z, 0, none⟩), .slice (some ⟨w1.heap.size, 0, none⟩) 1 1] (w1.alloc (.cells #[.string S.lab] 9)) _) := hide ((unhide H1).put (unhide HZ).1 (unhide HZ).2 (by omega) [S.lab] (by simp) (fun t ht => by simp only [List.mem_cons, List.not_mem_nil, or_false] at ht; subst ht; omega) 16 (by show (cat [S.lab]).length ≤ 16; unfold cat; simp only [List.flatMap_cons, List.flatMap_nil, List.length_append, List.length_nil, tlen]; omega))
  rw [unhide HS1] at HP1
  go_enter Tryz.func26, Tryz.ntmps26
  go_wp2_with fail
  rw [unhide HW1]
  refine (unhide HP1).mono ?_
  rintro e w2 ⟨rfl, v2, o2, f2, h2, hx2⟩
  have HBX2 := hide (hx2.keep (unhide H1).wr (unhide HBX) (by decide) hnz)
  have H2 := hide h2
  clear h2 hx2 HP1 H1
  clear c0 c1
  have c1 := cellC (unhide HBX2) (unhide HC1)
  have e32 : (sgn 32).size = 1 := rfl
  have HP2 : Hid (Calls Tryz.prog 42 #[.pointer (some ⟨z, 0, none⟩), .slice (some ⟨w2.heap.size, 0, none⟩) 1 1] (w2.alloc (.cells #[.string ⟨#[32]⟩] 9)) _) := hide ((unhide H2).put (unhide HZ).1 (unhide HZ).2 (by omega) [sgn 32] (by simp) (fun t ht => by simp only [List.mem_cons, List.not_mem_nil, or_false] at ht; subst ht; omega) 1 (by show (cat [sgn 32]).length ≤ 1; unfold cat; simp only [List.flatMap_cons, List.flatMap_nil, List.length_append, List.length_nil, tlen]; omega))
  go_wp2_with fail
  refine (unhide HP2).mono ?_
  rintro e w3 ⟨rfl, v3, o3, f3, h3, hx3⟩
  have HBX3 := hide (hx3.keep (unhide H2).wr (unhide HBX2) (by decide) hnz)
  have H3 := hide h3
  clear h3 hx3 HP2 H2
  clear c1
  have c1 := cellC (unhide HBX3) (unhide HC1)
  have HK3 : Hid (Calls Tryz.prog 43 #[.pointer (some ⟨z, 0, none⟩), .agg #[.int .i64 S.va.k, .string S.va.t, .int .i64 S.va.n, .string S.va.nm, .slice S.va.xa S.va.len S.va.cap], .int .i64 0] w3 fun e w' => WPost B z w3 v3 o3 (flt (S.va.atl 0)) f3 (40 * S.va.cnt) e w') := hide (expr_all S.va W w3 B z v3 o3 f3 0 (unhide HZ).1 (unhide HIN).va (unhide H3).bel (unhide HZ).2 (unhide H3).wr hb_va ((unhide H3).len2 (by omega)))
  obtain ⟨m0, m1, m2, m3, m4⟩ := unhide HCva
  have g0 := cellC (unhide HBX3) m0
  have g1 := cellC (unhide HBX3) m1
  have g2 := cellC (unhide HBX3) m2
  have g3 := cellC (unhide HBX3) m3
  have g4 := cellC (unhide HBX3) m4
  clear m0 m1 m2 m3 m4
  go_wp2_with fail
  refine (unhide HK3).mono ?_
  rintro e w4 ⟨rfl, hst⟩
  obtain ⟨v4, o4, f4, h4, hx4⟩ := (unhide H3).sub (unhide HZ).2 hst
  have HBX4 := hide (hx4.keep (unhide H3).wr (unhide HBX3) (by decide) hnz)
  have H4 := hide h4
  clear hst h4 hx4 HK3 H3 g0 g1 g2 g3 g4
  clear c1
  have HP4 : Hid (Calls Tryz.prog 42 #[.pointer (some ⟨z, 0, none⟩), .slice (some ⟨w4.heap.size, 0, none⟩) 2 2] (w4.alloc (.cells #[.string ⟨#[32, 63, 32]⟩, .string pt] 9)) _) := hide ((unhide H4).put (unhide HZ).1 (unhide HZ).2 (by omega) [tQuB, pt] (by simp) (fun t ht => by simp only [List.mem_cons, List.not_mem_nil, or_false] at ht; rcases ht with rfl | rfl <;> omega) cP (by show (cat [tQuB, pt]).length ≤ cP; unfold cat; simp only [List.flatMap_cons, List.flatMap_nil, List.length_append, List.length_nil, tlen]; omega))
  go_wp2_with fail
  refine (unhide HP4).mono ?_
  rintro e w5 ⟨rfl, v5, o5, f5, h5, hx5⟩
  have HBX5 := hide (hx5.keep (unhide H4).wr (unhide HBX4) (by decide) hnz)
  have H5 := hide h5
  clear h5 hx5 HP4 H4
  have HK5 := hide (ways_any S (unhide HZ).1 (unhide H5).bel (unhide HZ).2 (unhide H5).wr hwa hwy hwn ((unhide H5).len2 (by omega)))
  rw [unhide HSV] at HK5
  go_wp2_with (first
    | (refine wpList_load_row rfl 33 _ rfl w.heap.size rfl 33 C (0, 0) _ (unhide HBX5) Tryz.underlying33 rfl (stSize.trans (by rw [unhide HC24])) ?_)
    | fail)
  refine (unhide HK5).mono ?_
  rintro e w6 ⟨rfl, hst⟩
  obtain ⟨v6, o6, f6, h6, -⟩ := (unhide H5).sub (unhide HZ).2 hst
  have HF := hide (h6.done (t := flt (stI S)) (c := 500000) (by rw [unhide HI]; rw [cat_one, cat_one, cat_cons, cat_one]; show [] ++ S.lab.data.toList ++ [32] ++ flt (S.va.atl 0) ++ ([32, 63, 32] ++ pt.data.toList) ++ flt (waysI S) = _; simp) (by omega))
  clear hst h6 HK5 H5
  go_wp2_with fail
  go_end0
  exact ⟨rfl, unhide HF⟩
set_option maxRecDepth 100000 in
set_option maxHeartbeats 8000000 in
theorem stm_5 (S : SV) (pt : ByteArray) {W w : World} {B z : Nat} {v : Value} {o : List UInt8} {f : Bool} (hk : S.k = 5) (hE : EnvW W) (hb : Below W.heap.size W w) (hz : W.heap.size ≤ z) (hW : WrI B z w v o f) (hIn : S.In W) (hwr : S.wrong = 0) (hp : pt.data.toList = 91 :: (S.pa.txt ++ [93])) (hps : pt.size ≤ 65538) (ho : max o.length 140000 + 500000 ≤ 9000000) :
    Calls Tryz.prog 26 #[.pointer (some ⟨z, 0, none⟩), S.v, .string pt] w fun e w' => WPost B z w v o (flt (stI S)) f 500000 e w' := by
  have hzl : z < w.heap.size := (Array.getElem?_eq_some_iff.1 hW.blk).1
  have hnz : w.heap.size ≠ z := by omega
  obtain ⟨hway, hknd⟩ := wrong_way hwr
  have hwl := named_le hway.lab
  have hwa := named_le hway.al
  have hwy := named_le hway.ye
  have hwn := named_le hway.no
  obtain ⟨C, hC⟩ : ∃ C, C = S.cells := ⟨_, rfl⟩
  have hsv : S.v = .agg C := by rw [hC]; rfl
  have HSV := hide hsv
  have HC24 : Hid (C.size = 24) := hide (by rw [hC]; rfl)
  have HCtg : Hid (C[2]? = some (.int .i64 S.tg.k) ∧ C[3]? = some (.string S.tg.t) ∧ C[4]? = some (.int .i64 S.tg.n) ∧ C[5]? = some (.string S.tg.nm) ∧ C[6]? = some (.slice S.tg.xa S.tg.len S.tg.cap)) := hide (by rw [hC]; exact ⟨rfl, rfl, rfl, rfl, rfl⟩)
  have HCva : Hid (C[7]? = some (.int .i64 S.va.k) ∧ C[8]? = some (.string S.va.t) ∧ C[9]? = some (.int .i64 S.va.n) ∧ C[10]? = some (.string S.va.nm) ∧ C[11]? = some (.slice S.va.xa S.va.len S.va.cap)) := hide (by rw [hC]; exact ⟨rfl, rfl, rfl, rfl, rfl⟩)
  have HCnm : Hid (C[17]? = some (.string S.nm) ∧ C[18]? = some (.string S.en) ∧ C[19]? = some S.ps.v ∧ C[20]? = some S.ls.v) := hide (by rw [hC]; exact ⟨rfl, rfl, rfl, rfl⟩)
  have hc0 : C[0]? = some (.string S.lab) := by rw [hC]; rfl
  have hc1 : C[1]? = some (.int .i64 S.k) := by rw [hC]; rfl
  have HC1 := hide hc1
  rw [hsv]
  obtain ⟨w1, hw1⟩ : ∃ w1, w1 = w.alloc (.cells C 33) := ⟨_, rfl⟩
  have hal : Below w.heap.size w w1 := by rw [hw1]; exact ba _
  have hbx : w1.heap[w.heap.size]? = some (.cells C 33 (0, 0)) := by rw [hw1]; exact at_new rfl
  have H1 := hide ((Wn.start hb hW).below hal)
  have HBX := hide hbx
  have HS1 : Hid (w1.heap.size = w.heap.size + 1) := hide (by rw [hw1]; simp)
  have HW1 : Hid (w.alloc (.cells C 33) = w1) := hide (hw1.symm)
  have HZ := hide (And.intro hE hz)
  have HIN := hide hIn
  have HLB : Hid (flt (if S.lab.size = 0 then [] else [wd S.lab]) = S.lab.data.toList) := hide (by
    by_cases q : S.lab.size = 0
    · rw [if_pos q]; exact (List.eq_nil_of_length_eq_zero (by rw [tlen]; exact q)).symm
    · rw [if_neg q]; exact List.append_nil _)
  have c0 := cellC hbx hc0
  have c1 := cellC hbx hc1
  rw [hw1] at c0 c1
  clear hE hb hW hal hbx hw1 hC hsv hIn hwr hway hc0 hc1
  rw [hk] at c1 HC1
  have hq : fst0 [tgE S.tg, S.pa.wrong, S.va.wrongX] = 0 := by
    unfold SV.kndE at hknd
    rw [hk] at hknd
    exact hknd
  have htx := (tg_nil (fst0_cons hq).1).1
  have hva := (fst0_cons (fst0_cons (fst0_cons hq).2).2).1
  have hb_va := (wrongX_nil hva).2
  have hn_va := fits_cnt (wrongX_nil hva).1
  have hb_tg := (wrongX_nil htx).2
  have hn_tg := fits_cnt (wrongX_nil htx).1
  clear hq htx hva
  have e3 : tQuB.size = 3 := rfl
  have e4 : tEqB.size = 3 := rfl
  have HI : Hid (flt (stI S) = S.lab.data.toList ++ (([32] ++ (flt (S.tg.atl 0) ++ (([32, 63, 32] ++ (pt.data.toList ++ [32, 61, 32])) ++ flt (S.va.atl 0)))) ++ flt (waysI S))) := hide (by
    unfold stI bodyI
    rw [flt_app, flt_app, unhide HLB, hk]
    show _ ++ (flt (bl :: (S.tg.exI ++ (bl :: sg 63 :: bl :: ptI S :: bl :: sg 61 :: bl :: S.va.exI))) ++ _) = _; rw [flt_cons, flt_app, flt_cons, flt_cons, flt_cons, flt_cons, flt_cons, flt_cons, flt_cons, atl_any, atl_any, hp]; show _ ++ (([32] ++ (flt S.tg.exI ++ ([32] ++ ([63] ++ ([32] ++ ((91 :: (S.pa.txt ++ [93])) ++ ([32] ++ ([61] ++ ([32] ++ flt S.va.exI))))))))) ++ _) = _; simp)
  clear hknd hk HLB
  have HP1 : Hid (Calls Tryz.prog 42 #[.pointer (some ⟨z, 0, none⟩), .slice (some ⟨w1.heap.size, 0, none⟩) 1 1] (w1.alloc (.cells #[.string S.lab] 9)) _) := hide ((unhide H1).put (unhide HZ).1 (unhide HZ).2 (by omega) [S.lab] (by simp) (fun t ht => by simp only [List.mem_cons, List.not_mem_nil, or_false] at ht; subst ht; omega) 16 (by show (cat [S.lab]).length ≤ 16; unfold cat; simp only [List.flatMap_cons, List.flatMap_nil, List.length_append, List.length_nil, tlen]; omega))
  rw [unhide HS1] at HP1
  go_enter Tryz.func26, Tryz.ntmps26
  go_wp2_with fail
  rw [unhide HW1]
  refine (unhide HP1).mono ?_
  rintro e w2 ⟨rfl, v2, o2, f2, h2, hx2⟩
  have HBX2 := hide (hx2.keep (unhide H1).wr (unhide HBX) (by decide) hnz)
  have H2 := hide h2
  clear h2 hx2 HP1 H1
  clear c0 c1
  have c1 := cellC (unhide HBX2) (unhide HC1)
  have e32 : (sgn 32).size = 1 := rfl
  have HP2 : Hid (Calls Tryz.prog 42 #[.pointer (some ⟨z, 0, none⟩), .slice (some ⟨w2.heap.size, 0, none⟩) 1 1] (w2.alloc (.cells #[.string ⟨#[32]⟩] 9)) _) := hide ((unhide H2).put (unhide HZ).1 (unhide HZ).2 (by omega) [sgn 32] (by simp) (fun t ht => by simp only [List.mem_cons, List.not_mem_nil, or_false] at ht; subst ht; omega) 1 (by show (cat [sgn 32]).length ≤ 1; unfold cat; simp only [List.flatMap_cons, List.flatMap_nil, List.length_append, List.length_nil, tlen]; omega))
  go_wp2_with fail
  refine (unhide HP2).mono ?_
  rintro e w3 ⟨rfl, v3, o3, f3, h3, hx3⟩
  have HBX3 := hide (hx3.keep (unhide H2).wr (unhide HBX2) (by decide) hnz)
  have H3 := hide h3
  clear h3 hx3 HP2 H2
  clear c1
  have c1 := cellC (unhide HBX3) (unhide HC1)
  have HK3 : Hid (Calls Tryz.prog 43 #[.pointer (some ⟨z, 0, none⟩), .agg #[.int .i64 S.tg.k, .string S.tg.t, .int .i64 S.tg.n, .string S.tg.nm, .slice S.tg.xa S.tg.len S.tg.cap], .int .i64 0] w3 fun e w' => WPost B z w3 v3 o3 (flt (S.tg.atl 0)) f3 (40 * S.tg.cnt) e w') := hide (expr_all S.tg W w3 B z v3 o3 f3 0 (unhide HZ).1 (unhide HIN).tg (unhide H3).bel (unhide HZ).2 (unhide H3).wr hb_tg ((unhide H3).len2 (by omega)))
  obtain ⟨m0, m1, m2, m3, m4⟩ := unhide HCtg
  have g0 := cellC (unhide HBX3) m0
  have g1 := cellC (unhide HBX3) m1
  have g2 := cellC (unhide HBX3) m2
  have g3 := cellC (unhide HBX3) m3
  have g4 := cellC (unhide HBX3) m4
  clear m0 m1 m2 m3 m4
  go_wp2_with fail
  refine (unhide HK3).mono ?_
  rintro e w4 ⟨rfl, hst⟩
  obtain ⟨v4, o4, f4, h4, hx4⟩ := (unhide H3).sub (unhide HZ).2 hst
  have HBX4 := hide (hx4.keep (unhide H3).wr (unhide HBX3) (by decide) hnz)
  have H4 := hide h4
  clear hst h4 hx4 HK3 H3 g0 g1 g2 g3 g4
  clear c1
  have HP4 : Hid (Calls Tryz.prog 42 #[.pointer (some ⟨z, 0, none⟩), .slice (some ⟨w4.heap.size, 0, none⟩) 3 3] (w4.alloc (.cells #[.string ⟨#[32, 63, 32]⟩, .string pt, .string ⟨#[32, 61, 32]⟩] 9)) _) := hide ((unhide H4).put (unhide HZ).1 (unhide HZ).2 (by omega) [tQuB, pt, tEqB] (by simp) (fun t ht => by simp only [List.mem_cons, List.not_mem_nil, or_false] at ht; rcases ht with rfl | rfl | rfl <;> omega) 65544 (by show (cat [tQuB, pt, tEqB]).length ≤ 65544; unfold cat; simp only [List.flatMap_cons, List.flatMap_nil, List.length_append, List.length_nil, tlen]; omega))
  go_wp2_with fail
  refine (unhide HP4).mono ?_
  rintro e w5 ⟨rfl, v5, o5, f5, h5, hx5⟩
  have HBX5 := hide (hx5.keep (unhide H4).wr (unhide HBX4) (by decide) hnz)
  have H5 := hide h5
  clear h5 hx5 HP4 H4
  have HK5 : Hid (Calls Tryz.prog 43 #[.pointer (some ⟨z, 0, none⟩), .agg #[.int .i64 S.va.k, .string S.va.t, .int .i64 S.va.n, .string S.va.nm, .slice S.va.xa S.va.len S.va.cap], .int .i64 0] w5 fun e w' => WPost B z w5 v5 o5 (flt (S.va.atl 0)) f5 (40 * S.va.cnt) e w') := hide (expr_all S.va W w5 B z v5 o5 f5 0 (unhide HZ).1 (unhide HIN).va (unhide H5).bel (unhide HZ).2 (unhide H5).wr hb_va ((unhide H5).len2 (by omega)))
  obtain ⟨m0, m1, m2, m3, m4⟩ := unhide HCva
  have g0 := cellC (unhide HBX5) m0
  have g1 := cellC (unhide HBX5) m1
  have g2 := cellC (unhide HBX5) m2
  have g3 := cellC (unhide HBX5) m3
  have g4 := cellC (unhide HBX5) m4
  clear m0 m1 m2 m3 m4
  go_wp2_with fail
  refine (unhide HK5).mono ?_
  rintro e w6 ⟨rfl, hst⟩
  obtain ⟨v6, o6, f6, h6, hx6⟩ := (unhide H5).sub (unhide HZ).2 hst
  have HBX6 := hide (hx6.keep (unhide H5).wr (unhide HBX5) (by decide) hnz)
  have H6 := hide h6
  clear hst h6 hx6 HK5 H5 g0 g1 g2 g3 g4
  have HK6 := hide (ways_any S (unhide HZ).1 (unhide H6).bel (unhide HZ).2 (unhide H6).wr hwa hwy hwn ((unhide H6).len2 (by omega)))
  rw [unhide HSV] at HK6
  go_wp2_with (first
    | (refine wpList_load_row rfl 33 _ rfl w.heap.size rfl 33 C (0, 0) _ (unhide HBX6) Tryz.underlying33 rfl (stSize.trans (by rw [unhide HC24])) ?_)
    | fail)
  refine (unhide HK6).mono ?_
  rintro e w7 ⟨rfl, hst⟩
  obtain ⟨v7, o7, f7, h7, -⟩ := (unhide H6).sub (unhide HZ).2 hst
  have HF := hide (h7.done (t := flt (stI S)) (c := 500000) (by rw [unhide HI]; rw [cat_one, cat_one, cat_cons, cat_cons, cat_one]; show [] ++ S.lab.data.toList ++ [32] ++ flt (S.tg.atl 0) ++ ([32, 63, 32] ++ (pt.data.toList ++ [32, 61, 32])) ++ flt (S.va.atl 0) ++ flt (waysI S) = _; simp) (by omega))
  clear hst h7 HK6 H6
  go_wp2_with fail
  go_end0
  exact ⟨rfl, unhide HF⟩
set_option maxRecDepth 100000 in
set_option maxHeartbeats 8000000 in
theorem stm_6 (S : SV) (pt : ByteArray) {W w : World} {B z : Nat} {v : Value} {o : List UInt8} {f : Bool} (hk : S.k = 6) (hE : EnvW W) (hb : Below W.heap.size W w) (hz : W.heap.size ≤ z) (hW : WrI B z w v o f) (hIn : S.In W) (hwr : S.wrong = 0) (hp : pt.data.toList = 91 :: (S.pa.txt ++ [93])) (hps : pt.size ≤ 65538) (ho : max o.length 140000 + 500000 ≤ 9000000) :
    Calls Tryz.prog 26 #[.pointer (some ⟨z, 0, none⟩), S.v, .string pt] w fun e w' => WPost B z w v o (flt (stI S)) f 500000 e w' := by
  have hzl : z < w.heap.size := (Array.getElem?_eq_some_iff.1 hW.blk).1
  have hnz : w.heap.size ≠ z := by omega
  obtain ⟨hway, hknd⟩ := wrong_way hwr
  have hwl := named_le hway.lab
  have hwa := named_le hway.al
  have hwy := named_le hway.ye
  have hwn := named_le hway.no
  obtain ⟨C, hC⟩ : ∃ C, C = S.cells := ⟨_, rfl⟩
  have hsv : S.v = .agg C := by rw [hC]; rfl
  have HSV := hide hsv
  have HC24 : Hid (C.size = 24) := hide (by rw [hC]; rfl)
  have HCtg : Hid (C[2]? = some (.int .i64 S.tg.k) ∧ C[3]? = some (.string S.tg.t) ∧ C[4]? = some (.int .i64 S.tg.n) ∧ C[5]? = some (.string S.tg.nm) ∧ C[6]? = some (.slice S.tg.xa S.tg.len S.tg.cap)) := hide (by rw [hC]; exact ⟨rfl, rfl, rfl, rfl, rfl⟩)
  have HCva : Hid (C[7]? = some (.int .i64 S.va.k) ∧ C[8]? = some (.string S.va.t) ∧ C[9]? = some (.int .i64 S.va.n) ∧ C[10]? = some (.string S.va.nm) ∧ C[11]? = some (.slice S.va.xa S.va.len S.va.cap)) := hide (by rw [hC]; exact ⟨rfl, rfl, rfl, rfl, rfl⟩)
  have HCnm : Hid (C[17]? = some (.string S.nm) ∧ C[18]? = some (.string S.en) ∧ C[19]? = some S.ps.v ∧ C[20]? = some S.ls.v) := hide (by rw [hC]; exact ⟨rfl, rfl, rfl, rfl⟩)
  have hc0 : C[0]? = some (.string S.lab) := by rw [hC]; rfl
  have hc1 : C[1]? = some (.int .i64 S.k) := by rw [hC]; rfl
  have HC1 := hide hc1
  rw [hsv]
  obtain ⟨w1, hw1⟩ : ∃ w1, w1 = w.alloc (.cells C 33) := ⟨_, rfl⟩
  have hal : Below w.heap.size w w1 := by rw [hw1]; exact ba _
  have hbx : w1.heap[w.heap.size]? = some (.cells C 33 (0, 0)) := by rw [hw1]; exact at_new rfl
  have H1 := hide ((Wn.start hb hW).below hal)
  have HBX := hide hbx
  have HS1 : Hid (w1.heap.size = w.heap.size + 1) := hide (by rw [hw1]; simp)
  have HW1 : Hid (w.alloc (.cells C 33) = w1) := hide (hw1.symm)
  have HZ := hide (And.intro hE hz)
  have HIN := hide hIn
  have HLB : Hid (flt (if S.lab.size = 0 then [] else [wd S.lab]) = S.lab.data.toList) := hide (by
    by_cases q : S.lab.size = 0
    · rw [if_pos q]; exact (List.eq_nil_of_length_eq_zero (by rw [tlen]; exact q)).symm
    · rw [if_neg q]; exact List.append_nil _)
  have c0 := cellC hbx hc0
  have c1 := cellC hbx hc1
  rw [hw1] at c0 c1
  clear hE hb hW hal hbx hw1 hC hsv hIn hwr hway hc0 hc1
  rw [hk] at c1 HC1
  have hq : fst0 [nmsE [S.nm], S.pa.wrong] = 0 := by
    unfold SV.kndE at hknd
    rw [hk] at hknd
    exact hknd
  have hnm := (named_word (nms_nil (fst0_cons hq).1 S.nm (by simp))).2.1
  clear hq
  have e3 : tDfB.size = 4 := rfl
  have HI : Hid (flt (stI S) = S.lab.data.toList ++ (([32] ++ (S.nm.data.toList ++ ([32, 58, 61, 32] ++ pt.data.toList))) ++ flt (waysI S))) := hide (by
    unfold stI bodyI
    rw [flt_app, flt_app, unhide HLB, hk]
    show _ ++ (flt (bl :: wd S.nm :: bl :: df :: bl :: [ptI S]) ++ _) = _; rw [flt_cons, flt_cons, flt_cons, flt_cons, flt_cons, flt_cons, hp]; show _ ++ (([32] ++ (S.nm.data.toList ++ ([32] ++ ([58, 61] ++ ([32] ++ ((91 :: (S.pa.txt ++ [93])) ++ [])))))) ++ _) = _; simp)
  clear hknd hk HLB
  have HP1 : Hid (Calls Tryz.prog 42 #[.pointer (some ⟨z, 0, none⟩), .slice (some ⟨w1.heap.size, 0, none⟩) 1 1] (w1.alloc (.cells #[.string S.lab] 9)) _) := hide ((unhide H1).put (unhide HZ).1 (unhide HZ).2 (by omega) [S.lab] (by simp) (fun t ht => by simp only [List.mem_cons, List.not_mem_nil, or_false] at ht; subst ht; omega) 16 (by show (cat [S.lab]).length ≤ 16; unfold cat; simp only [List.flatMap_cons, List.flatMap_nil, List.length_append, List.length_nil, tlen]; omega))
  rw [unhide HS1] at HP1
  go_enter Tryz.func26, Tryz.ntmps26
  go_wp2_with fail
  rw [unhide HW1]
  refine (unhide HP1).mono ?_
  rintro e w2 ⟨rfl, v2, o2, f2, h2, hx2⟩
  have HBX2 := hide (hx2.keep (unhide H1).wr (unhide HBX) (by decide) hnz)
  have H2 := hide h2
  clear h2 hx2 HP1 H1
  clear c0 c1
  have c1 := cellC (unhide HBX2) (unhide HC1)
  have e32 : (sgn 32).size = 1 := rfl
  have HP2 : Hid (Calls Tryz.prog 42 #[.pointer (some ⟨z, 0, none⟩), .slice (some ⟨w2.heap.size, 0, none⟩) 1 1] (w2.alloc (.cells #[.string ⟨#[32]⟩] 9)) _) := hide ((unhide H2).put (unhide HZ).1 (unhide HZ).2 (by omega) [sgn 32] (by simp) (fun t ht => by simp only [List.mem_cons, List.not_mem_nil, or_false] at ht; subst ht; omega) 1 (by show (cat [sgn 32]).length ≤ 1; unfold cat; simp only [List.flatMap_cons, List.flatMap_nil, List.length_append, List.length_nil, tlen]; omega))
  go_wp2_with fail
  refine (unhide HP2).mono ?_
  rintro e w3 ⟨rfl, v3, o3, f3, h3, hx3⟩
  have HBX3 := hide (hx3.keep (unhide H2).wr (unhide HBX2) (by decide) hnz)
  have H3 := hide h3
  clear h3 hx3 HP2 H2
  clear c1
  have c1 := cellC (unhide HBX3) (unhide HC1)
  have HP3 : Hid (Calls Tryz.prog 42 #[.pointer (some ⟨z, 0, none⟩), .slice (some ⟨w3.heap.size, 0, none⟩) 3 3] (w3.alloc (.cells #[.string S.nm, .string ⟨#[32, 58, 61, 32]⟩, .string pt] 9)) _) := hide ((unhide H3).put (unhide HZ).1 (unhide HZ).2 (by omega) [S.nm, tDfB, pt] (by simp) (fun t ht => by simp only [List.mem_cons, List.not_mem_nil, or_false] at ht; rcases ht with rfl | rfl | rfl <;> omega) 65558 (by show (cat [S.nm, tDfB, pt]).length ≤ 65558; unfold cat; simp only [List.flatMap_cons, List.flatMap_nil, List.length_append, List.length_nil, tlen]; omega))
  have c17 := cellC (unhide HBX3) (unhide HCnm).1
  go_wp2_with fail
  refine (unhide HP3).mono ?_
  rintro e w4 ⟨rfl, v4, o4, f4, h4, hx4⟩
  have HBX4 := hide (hx4.keep (unhide H3).wr (unhide HBX3) (by decide) hnz)
  have H4 := hide h4
  clear h4 hx4 HP3 H3
  clear c17
  clear c1
  have HK4 := hide (ways_any S (unhide HZ).1 (unhide H4).bel (unhide HZ).2 (unhide H4).wr hwa hwy hwn ((unhide H4).len2 (by omega)))
  rw [unhide HSV] at HK4
  go_wp2_with (first
    | (refine wpList_load_row rfl 33 _ rfl w.heap.size rfl 33 C (0, 0) _ (unhide HBX4) Tryz.underlying33 rfl (stSize.trans (by rw [unhide HC24])) ?_)
    | fail)
  refine (unhide HK4).mono ?_
  rintro e w5 ⟨rfl, hst⟩
  obtain ⟨v5, o5, f5, h5, -⟩ := (unhide H4).sub (unhide HZ).2 hst
  have HF := hide (h5.done (t := flt (stI S)) (c := 500000) (by rw [unhide HI]; rw [cat_one, cat_one, cat_cons, cat_cons, cat_one]; show [] ++ S.lab.data.toList ++ [32] ++ (S.nm.data.toList ++ ([32, 58, 61, 32] ++ pt.data.toList)) ++ flt (waysI S) = _; simp) (by omega))
  clear hst h5 HK4 H4
  go_wp2_with fail
  go_end0
  exact ⟨rfl, unhide HF⟩
end Go.Proofs.YtpphjddljngkmaaGreatDoor
