/- The writer of lines: definitions; every statement. -/
import Derived.Test.YtpphjddljngkmaaGreatDoorWrLP
namespace Go.Proofs.YtpphjddljngkmaaGreatDoor
open Go.RowKit

def tDefB : ByteArray := ⟨#[68, 69, 70, 73, 78, 69, 32]⟩
theorem nmJ_list (l : List ByteArray) : (nmJ l).data.toList = flt (nmI l) := by unfold nmJ; simp
set_option maxRecDepth 100000 in
set_option maxHeartbeats 8000000 in
theorem stm_7 (S : SV) (pt : ByteArray) {W w : World} {B z : Nat} {v : Value} {o : List UInt8} {f : Bool} (hk : S.k = 7) (hE : EnvW W) (hb : Below W.heap.size W w) (hz : W.heap.size ≤ z) (hW : WrI B z w v o f) (hIn : S.In W) (hwr : S.wrong = 0) (ho : max o.length 140000 + 500000 ≤ 9000000) :
    Calls Tryz.prog 26 #[.pointer (some ⟨z, 0, none⟩), S.v, .string pt] w fun e w' => WPost B z w v o (flt (stI S)) f 500000 e w' := by
  have hzl : z < w.heap.size := (Array.getElem?_eq_some_iff.1 hW.blk).1
  have hnz : w.heap.size ≠ z := by omega
  obtain ⟨hway, hknd⟩ := wrong_way hwr
  have hwl := named_le hway.lab
  have hwa := named_le hway.al
  have hwy := named_le hway.ye
  have hwn := named_le hway.no
  obtain ⟨C, hC⟩ : ∃ C, C = S.cells := ⟨_, rfl⟩
  have hsv : S.v = .agg C := by rw [hC]; rfl
  have HSV := hide hsv
  have HC24 : Hid (C.size = 24) := hide (by rw [hC]; rfl)
  have HCtg : Hid (C[2]? = some (.int .i64 S.tg.k) ∧ C[3]? = some (.string S.tg.t) ∧ C[4]? = some (.int .i64 S.tg.n) ∧ C[5]? = some (.string S.tg.nm) ∧ C[6]? = some (.slice S.tg.xa S.tg.len S.tg.cap)) := hide (by rw [hC]; exact ⟨rfl, rfl, rfl, rfl, rfl⟩)
  have HCva : Hid (C[7]? = some (.int .i64 S.va.k) ∧ C[8]? = some (.string S.va.t) ∧ C[9]? = some (.int .i64 S.va.n) ∧ C[10]? = some (.string S.va.nm) ∧ C[11]? = some (.slice S.va.xa S.va.len S.va.cap)) := hide (by rw [hC]; exact ⟨rfl, rfl, rfl, rfl, rfl⟩)
  have HCnm : Hid (C[17]? = some (.string S.nm) ∧ C[18]? = some (.string S.en) ∧ C[19]? = some S.ps.v ∧ C[20]? = some S.ls.v) := hide (by rw [hC]; exact ⟨rfl, rfl, rfl, rfl⟩)
  have hc0 : C[0]? = some (.string S.lab) := by rw [hC]; rfl
  have hc1 : C[1]? = some (.int .i64 S.k) := by rw [hC]; rfl
  have HC1 := hide hc1
  rw [hsv]
  obtain ⟨w1, hw1⟩ : ∃ w1, w1 = w.alloc (.cells C 33) := ⟨_, rfl⟩
  have hal : Below w.heap.size w w1 := by rw [hw1]; exact ba _
  have hbx : w1.heap[w.heap.size]? = some (.cells C 33 (0, 0)) := by rw [hw1]; exact at_new rfl
  have H1 := hide ((Wn.start hb hW).below hal)
  have HBX := hide hbx
  have HS1 : Hid (w1.heap.size = w.heap.size + 1) := hide (by rw [hw1]; simp)
  have HW1 : Hid (w.alloc (.cells C 33) = w1) := hide (hw1.symm)
  have HZ := hide (And.intro hE hz)
  have HIN := hide hIn
  have HLB : Hid (flt (if S.lab.size = 0 then [] else [wd S.lab]) = S.lab.data.toList) := hide (by
    by_cases q : S.lab.size = 0
    · rw [if_pos q]; exact (List.eq_nil_of_length_eq_zero (by rw [tlen]; exact q)).symm
    · rw [if_neg q]; exact List.append_nil _)
  have c0 := cellC hbx hc0
  have c1 := cellC hbx hc1
  rw [hw1] at c0 c1
  clear hE hb hW hal hbx hw1 hC hsv hIn hwr hway hc0 hc1
  rw [hk] at c1 HC1
  have hq : fst0 [nmsE [S.nm, S.en], nmsE S.ps.l, nmsE S.ls.l] = 0 ∧ ¬ (8 < S.ps.l.length ∨ 8 < S.ls.l.length) := by
    unfold SV.kndE at hknd
    rw [hk] at hknd
    have hknd : S.dfE = 0 := hknd
    unfold SV.dfE at hknd
    by_cases q : fst0 [nmsE [S.nm, S.en], nmsE S.ps.l, nmsE S.ls.l] = 0 ∧ (8 < S.ps.l.length ∨ 8 < S.ls.l.length)
    · rw [if_pos q] at hknd; omega
    · rw [if_neg q] at hknd; exact ⟨hknd, fun z => q ⟨hknd, z⟩⟩
  have hn1 := (fst0_cons hq.1).1
  have hnm := (named_word (nms_nil hn1 S.nm (by simp))).2.1
  have hen := (named_word (nms_nil hn1 S.en (by simp))).2.1
  have hn2 := nms_nil (fst0_cons (fst0_cons hq.1).2).1
  have hn3 := nms_nil (fst0_cons (fst0_cons (fst0_cons hq.1).2).2).1
  have hps : ∀ x ∈ S.ps.l, x.size ≤ 16 := fun x hx => (named_word (hn2 x hx)).2.1
  have hls : ∀ x ∈ S.ls.l, x.size ≤ 16 := fun x hx => (named_word (hn3 x hx)).2.1
  have h8 := hq.2
  have hjp : (nmJ S.ps.l).size ≤ 136 := by have := nmJ_len S.ps.l hps; rw [← tlen, nmJ_list]; omega
  have hjl : (nmJ S.ls.l).size ≤ 136 := by have := nmJ_len S.ls.l hls; rw [← tlen, nmJ_list]; omega
  have HJP := hide (fun (W1 : World) (h : Below W.heap.size W W1) => show Calls Tryz.prog 44 #[.slice S.ps.xa S.ps.l.length S.ps.cap, .string ⟨#[44]⟩] W1 fun e w' => e = .returned (.string (nmJ S.ps.l)) ∧ Below W1.heap.size W1 w' from join_any S.ps W1 ((unhide HIN).ps.later h) hps (by omega))
  have HJL := hide (fun (W1 : World) (h : Below W.heap.size W W1) => show Calls Tryz.prog 44 #[.slice S.ls.xa S.ls.l.length S.ls.cap, .string ⟨#[44]⟩] W1 fun e w' => e = .returned (.string (nmJ S.ls.l)) ∧ Below W1.heap.size W1 w' from join_any S.ls W1 ((unhide HIN).ls.later h) hls (by omega))
  have e7 : tDefB.size = 7 := rfl
  have e40 : (sgn 40).size = 1 := rfl
  have e41 : (sgn 41).size = 1 := rfl
  have e32 : (sgn 32).size = 1 := rfl
  clear hq hn1 hn2 hn3 hps hls
  unfold NL.v at HCnm
  have HI : Hid (flt (stI S) = S.lab.data.toList ++ (([32] ++ ([68, 69, 70, 73, 78, 69, 32] ++ (S.nm.data.toList ++ ([40] ++ (flt (nmI S.ps.l) ++ ([41] ++ (flt (nmI S.ls.l) ++ ([32] ++ S.en.data.toList)))))))) ++ flt (waysI S))) := hide (by
    unfold stI bodyI
    rw [flt_app, flt_app, unhide HLB, hk]
    show _ ++ (flt (bl :: wd tDEF :: bl :: wd S.nm :: sg 40 :: (nmI S.ps.l ++ (sg 41 :: (nmI S.ls.l ++ (bl :: [wd S.en]))))) ++ _) = _
    rw [flt_cons, flt_cons, flt_cons, flt_cons, flt_cons, flt_app, flt_cons, flt_app, flt_cons, flt_cons]
    show _ ++ (([32] ++ ([68, 69, 70, 73, 78, 69] ++ ([32] ++ (S.nm.data.toList ++ ([40] ++ (flt (nmI S.ps.l) ++ ([41] ++ (flt (nmI S.ls.l) ++ ([32] ++ (S.en.data.toList ++ []))))))))) ) ++ _) = _
    simp)
  have HJ1 := hide (nmJ_list S.ps.l)
  have HJ2 := hide (nmJ_list S.ls.l)
  generalize nmJ S.ps.l = jp at *
  generalize nmJ S.ls.l = jl at *
  clear hknd hk HLB
  have HP1 : Hid (Calls Tryz.prog 42 #[.pointer (some ⟨z, 0, none⟩), .slice (some ⟨w1.heap.size, 0, none⟩) 1 1] (w1.alloc (.cells #[.string S.lab] 9)) _) := hide ((unhide H1).put (unhide HZ).1 (unhide HZ).2 (by omega) [S.lab] (by simp) (fun t ht => by simp only [List.mem_cons, List.not_mem_nil, or_false] at ht; subst ht; omega) 16 (by show (cat [S.lab]).length ≤ 16; unfold cat; simp only [List.flatMap_cons, List.flatMap_nil, List.length_append, List.length_nil, tlen]; omega))
  rw [unhide HS1] at HP1
  go_enter Tryz.func26, Tryz.ntmps26
  go_wp2_with fail
  rw [unhide HW1]
  refine (unhide HP1).mono ?_
  rintro e w2 ⟨rfl, v2, o2, f2, h2, hx2⟩
  have HBX2 := hide (hx2.keep (unhide H1).wr (unhide HBX) (by decide) hnz)
  have H2 := hide h2
  clear h2 hx2 HP1 H1
  clear c0 c1
  have c1 := cellC (unhide HBX2) (unhide HC1)
  have HP2 : Hid (Calls Tryz.prog 42 #[.pointer (some ⟨z, 0, none⟩), .slice (some ⟨w2.heap.size, 0, none⟩) 1 1] (w2.alloc (.cells #[.string ⟨#[32]⟩] 9)) _) := hide ((unhide H2).put (unhide HZ).1 (unhide HZ).2 (by omega) [sgn 32] (by simp) (fun t ht => by simp only [List.mem_cons, List.not_mem_nil, or_false] at ht; subst ht; omega) 1 (by show (cat [sgn 32]).length ≤ 1; unfold cat; simp only [List.flatMap_cons, List.flatMap_nil, List.length_append, List.length_nil, tlen]; omega))
  go_wp2_with fail
  refine (unhide HP2).mono ?_
  rintro e w3 ⟨rfl, v3, o3, f3, h3, hx3⟩
  have HBX3 := hide (hx3.keep (unhide H2).wr (unhide HBX2) (by decide) hnz)
  have H3 := hide h3
  clear h3 hx3 HP2 H2
  clear c1
  have c1 := cellC (unhide HBX3) (unhide HC1)
  go_wp2_with fail
  clear c1
  obtain ⟨S0, hS0⟩ : ∃ S0 : World → Prop, S0 = fun W1 => W1.cell? ⟨w.heap.size, 17, none⟩ = some (.string S.nm) ∧ W1.cell? ⟨w.heap.size, 18, none⟩ = some (.string S.en) ∧ W1.cell? ⟨w.heap.size, 19, none⟩ = some (.slice S.ps.xa S.ps.l.length S.ps.cap) ∧ W1.cell? ⟨w.heap.size, 20, none⟩ = some (.slice S.ls.xa S.ls.l.length S.ls.cap) := ⟨_, rfl⟩
  have HS0 := hide hS0
  have HKE : Hid (∀ W1 : World, W1.heap[w.heap.size]? = some (.cells C 33 (0, 0)) → S0 W1) := hide (fun W1 h => by rw [hS0]; exact ⟨cellC h (unhide HCnm).1, cellC h (unhide HCnm).2.1, cellC h (unhide HCnm).2.2.1, cellC h (unhide HCnm).2.2.2⟩)
  have h3d := (unhide H3).below (Below.refl _ _).drew
  have HBX5 := hide (row_below (unhide HBX3) (Below.refl _ _).drew)
  have hS0w : S0 w3.drew := unhide HKE _ (unhide HBX5)
  have HD3 := hide h3d
  clear hS0 h3d
  refine startQ 12 S0 ?_
  intro F
  refine takeR F 0 HS0 hS0w ?_
  (try simp only [List.getElem_toArray, List.getElem_cons_zero])
  (try go_frame)
  refine takeR F 1 HS0 hS0w ?_
  (try simp only [List.getElem_toArray, List.getElem_cons_succ, List.getElem_cons_zero])
  (try go_frame)
  refine takeR F 2 HS0 hS0w ?_
  (try simp only [List.getElem_toArray, List.getElem_cons_succ, List.getElem_cons_zero])
  (try go_frame)
  refine takeR F 3 HS0 hS0w ?_
  (try simp only [List.getElem_toArray, List.getElem_cons_succ, List.getElem_cons_zero])
  (try go_frame)
  refine takeR F 4 HS0 hS0w ?_
  (try simp only [List.getElem_toArray, List.getElem_cons_succ, List.getElem_cons_zero])
  (try go_frame)
  refine takeR F 6 HS0 hS0w ?_
  (try simp only [List.getElem_toArray, List.getElem_cons_succ, List.getElem_cons_zero])
  (try go_frame)
  refine takeR F 7 HS0 hS0w ?_
  (try simp only [List.getElem_toArray, List.getElem_cons_succ, List.getElem_cons_zero])
  (try go_frame)
  refine takeR F 9 HS0 hS0w ?_
  (try simp only [List.getElem_toArray, List.getElem_cons_succ, List.getElem_cons_zero])
  (try go_frame)
  refine takeR F 10 HS0 hS0w ?_
  (try simp only [List.getElem_toArray, List.getElem_cons_succ, List.getElem_cons_zero])
  (try go_frame)
  refine stepQ 5 (fun K2 hK2 => ?_)
  go_simp
  refine (unhide HJP _ (unhide HD3).bel).mono ?_
  rintro e w5 ⟨rfl, hb5⟩
  refine hK2 _ _ (unhide HKE _ (row_below (unhide HBX5) hb5)) ?_
  (try simp only [List.getElem_toArray, List.getElem_cons_succ, List.getElem_cons_zero])
  (try go_frame)
  refine stepQ 8 (fun K3 hK3 => ?_)
  go_simp
  refine (unhide HJL _ ((unhide HD3).below hb5).bel).mono ?_
  rintro e w6 ⟨rfl, hb6⟩
  have HB6 := hide (bnext hb5 hb6)
  have H6 := hide ((unhide HD3).below (unhide HB6))
  refine hK3 _ _ (unhide HKE _ (row_below (unhide HBX5) (unhide HB6))) ?_
  (try simp only [List.getElem_toArray, List.getElem_cons_succ, List.getElem_cons_zero])
  (try go_frame)
  clear hK3 K3 hb5 hb6 HD3
  -- both are joined: the row of texts, then put
  have hS0w : S0 w6 := unhide HKE _ (row_below (unhide HBX5) (unhide HB6))
  refine stepQ 11 (fun K3 hK3 => ?_)
  go_simp
  refine hK3 _ _ (unhide HKE _ (row_below (row_below (unhide HBX5) (unhide HB6)) (ba _))) ?_
  (try simp only [List.getElem_toArray, List.getElem_cons_succ, List.getElem_cons_zero])
  (try go_frame)
  have HP6 : Hid (Calls Tryz.prog 42 #[.pointer (some ⟨z, 0, none⟩), .slice (some ⟨w6.heap.size, 0, none⟩) 8 8] (w6.alloc (.cells #[.string ⟨#[68, 69, 70, 73, 78, 69, 32]⟩, .string S.nm, .string ⟨#[40]⟩, .string jp, .string ⟨#[41]⟩, .string jl, .string ⟨#[32]⟩, .string S.en] 9)) _) := hide ((unhide H6).put (unhide HZ).1 (unhide HZ).2 (by omega) [tDefB, S.nm, sgn 40, jp, sgn 41, jl, sgn 32, S.en] (by simp) (fun t ht => by simp only [List.mem_cons, List.not_mem_nil, or_false] at ht; rcases ht with rfl | rfl | rfl | rfl | rfl | rfl | rfl | rfl <;> omega) 400 (by show (cat [tDefB, S.nm, sgn 40, jp, sgn 41, jl, sgn 32, S.en]).length ≤ 400; unfold cat; simp only [List.flatMap_cons, List.flatMap_nil, List.length_append, List.length_nil, tlen]; omega))
  refine lastE (by kernel_rfl) rfl (by kernel_rfl) (fun K4 hK4 => ?_)
  go_simp
  refine (unhide HP6).mono ?_
  rintro e w4 ⟨rfl, v4, o4, f4, h4, hx4⟩
  have HBX4 := hide (hx4.keep (unhide H6).wr (row_below (unhide HBX5) (unhide HB6)) (by decide) hnz)
  have H4 := hide h4
  refine hK4 _ _ ?_
  (try simp only [List.getElem_toArray, List.getElem_cons_succ, List.getElem_cons_zero])
  (try go_frame)
  clear hK4 K4 hK3 K3 hK2 K2 F hS0w HS0 HKE h4 hx4 HP6 H6 HB6 HBX5
  have HK4 := hide (ways_any S (unhide HZ).1 (unhide H4).bel (unhide HZ).2 (unhide H4).wr hwa hwy hwn ((unhide H4).len2 (by omega)))
  rw [unhide HSV] at HK4
  go_wp2_with (first
    | (refine wpList_load_row rfl 33 _ rfl w.heap.size rfl 33 C (0, 0) _ (unhide HBX4) Tryz.underlying33 rfl (stSize.trans (by rw [unhide HC24])) ?_)
    | fail)
  refine (unhide HK4).mono ?_
  rintro e w5 ⟨rfl, hst⟩
  obtain ⟨v5, o5, f5, h5, -⟩ := (unhide H4).sub (unhide HZ).2 hst
  have HF := hide (h5.done (t := flt (stI S)) (c := 500000) (by rw [unhide HI]; rw [cat_one, cat_one, cat_cons, cat_cons, cat_cons, cat_cons, cat_cons, cat_cons, cat_cons, cat_one]; show [] ++ S.lab.data.toList ++ [32] ++ ([68, 69, 70, 73, 78, 69, 32] ++ (S.nm.data.toList ++ ([40] ++ (jp.data.toList ++ ([41] ++ (jl.data.toList ++ ([32] ++ S.en.data.toList))))))) ++ flt (waysI S) = _; rw [unhide HJ1, unhide HJ2]; simp) (by omega))
  clear hst h5 HK4 H4
  go_wp2_with fail
  go_end0
  exact ⟨rfl, unhide HF⟩
/-- Every statement that is right. -/
theorem stm_any2 (S : SV) (pt : ByteArray) {W w : World} {B z : Nat} {v : Value} {o : List UInt8} {f : Bool} (hE : EnvW W) (hb : Below W.heap.size W w) (hz : W.heap.size ≤ z) (hW : WrI B z w v o f) (hIn : S.In W) (hwr : S.wrong = 0) (hp : S.k = 4 ∨ S.k = 5 ∨ S.k = 6 → pt.data.toList = 91 :: (S.pa.txt ++ [93]) ∧ pt.size ≤ 65538) (ho : max o.length 140000 + 500000 ≤ 9000000) :
    Calls Tryz.prog 26 #[.pointer (some ⟨z, 0, none⟩), S.v, .string pt] w fun e w' => WPost B z w v o (flt (stI S)) f 500000 e w' := by
  obtain ⟨-, hk⟩ := wrong_way hwr
  have hc : S.k = 1 ∨ S.k = 2 ∨ S.k = 3 ∨ S.k = 4 ∨ S.k = 5 ∨ S.k = 6 ∨ S.k = 7 := by
    unfold SV.kndE at hk
    by_cases h1 : S.k = 1
    · exact .inl h1
    · by_cases h2 : S.k = 2
      · exact .inr (.inl h2)
      · by_cases h3 : S.k = 3
        · exact .inr (.inr (.inl h3))
        · by_cases h4 : S.k = 4
          · exact .inr (.inr (.inr (.inl h4)))
          · by_cases h5 : S.k = 5
            · exact .inr (.inr (.inr (.inr (.inl h5))))
            · by_cases h6 : S.k = 6
              · exact .inr (.inr (.inr (.inr (.inr (.inl h6)))))
              · by_cases h7 : S.k = 7
                · exact .inr (.inr (.inr (.inr (.inr (.inr h7)))))
                · rw [if_neg h1, if_neg h2, if_neg h4, if_neg h3, if_neg h5, if_neg h6, if_neg h7] at hk
                  omega
  rcases hc with h | h | h | h | h | h | h
  · exact stm_1 S pt h hE hb hz hW hIn hwr ho
  · exact stm_2 S pt h hE hb hz hW hIn hwr ho
  · exact stm_3 S pt h hE hb hz hW hIn hwr ho
  · exact stm_4 S pt h hE hb hz hW hIn hwr (hp (.inl h)).1 (hp (.inl h)).2 ho
  · exact stm_5 S pt h hE hb hz hW hIn hwr (hp (.inr (.inl h))).1 (hp (.inr (.inl h))).2 ho
  · exact stm_6 S pt h hE hb hz hW hIn hwr (hp (.inr (.inr h))).1 (hp (.inr (.inr h))).2 ho
  · exact stm_7 S pt h hE hb hz hW hIn hwr ho
end Go.Proofs.YtpphjddljngkmaaGreatDoor
