/- The document's Wrong of a statement: its labels, and where it goes on. -/
import Derived.Test.YtpphjddljngkmaaGreatDoorRefStBM
import Derived.Test.YtpphjddljngkmaaGreatDoorRefWrong4M
import Derived.Deep.RegionHeld3
import Derived.Deep.Cut
import Derived.Deep.CutRange
import Derived.Deep.QuietTactic
namespace Go.Proofs.YtpphjddljngkmaaGreatDoor
open Go.RowKit

theorem empty_add (a b : ByteArray) : (a ++ b).toList.isEmpty = (a.toList.isEmpty && b.toList.isEmpty) := by
  rw [ByteArray.toList_eq, ByteArray.toList_eq, ByteArray.toList_eq, ByteArray.toList_data_append]
  cases a.data.toList <;> cases b.data.toList <;> rfl
theorem okl_le {t : ByteArray} (h : okL t = true) : t.size ≤ 16 := by
  unfold okL at h
  rw [Bool.or_eq_true] at h
  rcases h with h | h
  · by_cases h0 : t.size = 0
    · omega
    · rw [isEmpty_false t h0] at h; cases h
  · unfold named at h
    rw [Bool.and_eq_true, decide_eq_true_eq] at h
    exact h.1
theorem cells24 {S : SV} {W : World} {g : Nat} {t : TypeId} (h : W.heap[g]? = some (.cells #[.string S.lab, .int .i64 S.k, .int .i64 S.tg.k, .string S.tg.t, .int .i64 S.tg.n, .string S.tg.nm, .slice S.tg.xa S.tg.len S.tg.cap, .int .i64 S.va.k, .string S.va.t, .int .i64 S.va.n, .string S.va.nm, .slice S.va.xa S.va.len S.va.cap, .int .i64 S.pa.k, .string S.pa.t, .int .i64 S.pa.n, .string S.pa.nm, .slice S.pa.xa S.pa.len S.pa.cap, .string S.nm, .string S.en, .slice S.ps.xa S.ps.l.length S.ps.cap, .slice S.ls.xa S.ls.l.length S.ls.cap, .string S.al, .string S.ye, .string S.no] t (0, 0))) :
    W.cell? ⟨g, 0, none⟩ = some (.string S.lab) ∧ W.cell? ⟨g, 1, none⟩ = some (.int .i64 S.k) ∧ W.cell? ⟨g, 2, none⟩ = some (.int .i64 S.tg.k) ∧ W.cell? ⟨g, 3, none⟩ = some (.string S.tg.t) ∧ W.cell? ⟨g, 4, none⟩ = some (.int .i64 S.tg.n) ∧ W.cell? ⟨g, 5, none⟩ = some (.string S.tg.nm) ∧ W.cell? ⟨g, 6, none⟩ = some (.slice S.tg.xa S.tg.len S.tg.cap) ∧ W.cell? ⟨g, 7, none⟩ = some (.int .i64 S.va.k) ∧ W.cell? ⟨g, 8, none⟩ = some (.string S.va.t) ∧ W.cell? ⟨g, 9, none⟩ = some (.int .i64 S.va.n) ∧ W.cell? ⟨g, 10, none⟩ = some (.string S.va.nm) ∧ W.cell? ⟨g, 11, none⟩ = some (.slice S.va.xa S.va.len S.va.cap) ∧ W.cell? ⟨g, 12, none⟩ = some (.int .i64 S.pa.k) ∧ W.cell? ⟨g, 13, none⟩ = some (.string S.pa.t) ∧ W.cell? ⟨g, 14, none⟩ = some (.int .i64 S.pa.n) ∧ W.cell? ⟨g, 15, none⟩ = some (.string S.pa.nm) ∧ W.cell? ⟨g, 16, none⟩ = some (.slice S.pa.xa S.pa.len S.pa.cap) ∧ W.cell? ⟨g, 17, none⟩ = some (.string S.nm) ∧ W.cell? ⟨g, 18, none⟩ = some (.string S.en) ∧ W.cell? ⟨g, 19, none⟩ = some (.slice S.ps.xa S.ps.l.length S.ps.cap) ∧ W.cell? ⟨g, 20, none⟩ = some (.slice S.ls.xa S.ls.l.length S.ls.cap) ∧ W.cell? ⟨g, 21, none⟩ = some (.string S.al) ∧ W.cell? ⟨g, 22, none⟩ = some (.string S.ye) ∧ W.cell? ⟨g, 23, none⟩ = some (.string S.no) := ⟨cr h, cr h, cr h, cr h, cr h, cr h, cr h, cr h, cr h, cr h, cr h, cr h, cr h, cr h, cr h, cr h, cr h, cr h, cr h, cr h, cr h, cr h, cr h, cr h⟩
theorem cells24k {S : SV} {W : World} {g : Nat} {t : TypeId} {k : Int} (h : W.heap[g]? = some (.cells #[.string S.lab, .int .i64 k, .int .i64 S.tg.k, .string S.tg.t, .int .i64 S.tg.n, .string S.tg.nm, .slice S.tg.xa S.tg.len S.tg.cap, .int .i64 S.va.k, .string S.va.t, .int .i64 S.va.n, .string S.va.nm, .slice S.va.xa S.va.len S.va.cap, .int .i64 S.pa.k, .string S.pa.t, .int .i64 S.pa.n, .string S.pa.nm, .slice S.pa.xa S.pa.len S.pa.cap, .string S.nm, .string S.en, .slice S.ps.xa S.ps.l.length S.ps.cap, .slice S.ls.xa S.ls.l.length S.ls.cap, .string S.al, .string S.ye, .string S.no] t (0, 0))) :
    W.cell? ⟨g, 0, none⟩ = some (.string S.lab) ∧ W.cell? ⟨g, 1, none⟩ = some (.int .i64 k) ∧ W.cell? ⟨g, 2, none⟩ = some (.int .i64 S.tg.k) ∧ W.cell? ⟨g, 3, none⟩ = some (.string S.tg.t) ∧ W.cell? ⟨g, 4, none⟩ = some (.int .i64 S.tg.n) ∧ W.cell? ⟨g, 5, none⟩ = some (.string S.tg.nm) ∧ W.cell? ⟨g, 6, none⟩ = some (.slice S.tg.xa S.tg.len S.tg.cap) ∧ W.cell? ⟨g, 7, none⟩ = some (.int .i64 S.va.k) ∧ W.cell? ⟨g, 8, none⟩ = some (.string S.va.t) ∧ W.cell? ⟨g, 9, none⟩ = some (.int .i64 S.va.n) ∧ W.cell? ⟨g, 10, none⟩ = some (.string S.va.nm) ∧ W.cell? ⟨g, 11, none⟩ = some (.slice S.va.xa S.va.len S.va.cap) ∧ W.cell? ⟨g, 12, none⟩ = some (.int .i64 S.pa.k) ∧ W.cell? ⟨g, 13, none⟩ = some (.string S.pa.t) ∧ W.cell? ⟨g, 14, none⟩ = some (.int .i64 S.pa.n) ∧ W.cell? ⟨g, 15, none⟩ = some (.string S.pa.nm) ∧ W.cell? ⟨g, 16, none⟩ = some (.slice S.pa.xa S.pa.len S.pa.cap) ∧ W.cell? ⟨g, 17, none⟩ = some (.string S.nm) ∧ W.cell? ⟨g, 18, none⟩ = some (.string S.en) ∧ W.cell? ⟨g, 19, none⟩ = some (.slice S.ps.xa S.ps.l.length S.ps.cap) ∧ W.cell? ⟨g, 20, none⟩ = some (.slice S.ls.xa S.ls.l.length S.ls.cap) ∧ W.cell? ⟨g, 21, none⟩ = some (.string S.al) ∧ W.cell? ⟨g, 22, none⟩ = some (.string S.ye) ∧ W.cell? ⟨g, 23, none⟩ = some (.string S.no) := ⟨cr h, cr h, cr h, cr h, cr h, cr h, cr h, cr h, cr h, cr h, cr h, cr h, cr h, cr h, cr h, cr h, cr h, cr h, cr h, cr h, cr h, cr h, cr h, cr h⟩
theorem tgE_rest {T : PT} (h : T.wrongX = 0) : tgE T = if isPl T.k = true then 0 else 8 := by unfold tgE; rw [if_neg (by rw [h]; decide)]
theorem tgE_ends {T : PT} (h : T.wrongX ≠ 0) : tgE T = T.wrongX := by unfold tgE; rw [if_pos h]
theorem fst0_one (x : Int) : fst0 [x] = x := by show (if x = 0 then 0 else x) = x; by_cases h : x = 0; rw [if_pos h, h]; rw [if_neg h]
theorem fst0_nm7 {t : ByteArray} {l : List Int} (h : named t = false) : fst0 (nmsE [t] :: l) = 7 := by
  have e : nmsE [t] = 7 := by unfold nmsE; rw [List.all_cons, h]; rfl
  show (if nmsE [t] = 0 then _ else _) = _
  rw [e]; rfl
theorem dfE_7 {S : SV} (h : ((S.nm :: (S.ps.l ++ S.ls.l)) ++ [S.en]).all named = false) : S.dfE = 7 := by
  have e : fst0 [nmsE [S.nm, S.en], nmsE S.ps.l, nmsE S.ls.l] = 7 := by
    unfold nmsE
    simp only [List.all_cons, List.all_append, List.all_nil, Bool.and_true, List.cons_append] at h ⊢
    cases h1 : named S.nm <;> cases h2 : named S.en <;> cases h3 : S.ps.l.all named <;> cases h4 : S.ls.l.all named <;> simp [h1, h2, h3, h4, fst0] at h ⊢
  unfold SV.dfE
  rw [e]
  rfl
theorem dfE_0 {S : SV} (h : ((S.nm :: (S.ps.l ++ S.ls.l)) ++ [S.en]).all named = true) : S.dfE = if 8 < S.ps.l.length ∨ 8 < S.ls.l.length then 5 else 0 := by
  have e : fst0 [nmsE [S.nm, S.en], nmsE S.ps.l, nmsE S.ls.l] = 0 := by
    unfold nmsE
    simp only [List.all_cons, List.all_append, List.all_nil, Bool.and_true, List.cons_append, Bool.and_eq_true] at h ⊢
    simp [h.1, h.2.1.1, h.2.1.2, h.2.2, fst0]
  unfold SV.dfE
  rw [e]
  by_cases h8 : 8 < S.ps.l.length ∨ 8 < S.ls.l.length
  · rw [if_pos ⟨rfl, h8⟩, if_pos h8]
  · rw [if_neg (fun x => h8 x.2), if_neg h8]
theorem fst0_nm0 {t : ByteArray} {l : List Int} (h : named t = true) : fst0 (nmsE [t] :: l) = fst0 l := by
  have e : nmsE [t] = 0 := by unfold nmsE; rw [List.all_cons, h]; rfl
  show (if nmsE [t] = 0 then _ else _) = _
  rw [if_pos e]
set_option maxRecDepth 100000 in
set_option maxHeartbeats 16000000 in
theorem refStmt_any (S : SV) (w : World) (hS : S.In w) (hN : S.pa.cnt ≤ 1048576 ∧ S.ps.l.length + S.ls.l.length ≤ 7000000000000) :
    Calls Tryz.prog 7 #[S.v] w fun e w' => e = .returned (.int .i64 S.wrong) ∧ Below w.heap.size w w' := by
  have HI := hide hS
  have HPN := hide hN
  have htx := hS.txt
  clear hS hN
  unfold SV.v SV.cells NL.v
  go_enter Tryz.func7, Tryz.ntmps7
  go_wp2_with fail
  obtain ⟨w1, hw1⟩ : ∃ w1, w1 = (w.alloc (.cells #[.string S.lab, .int .i64 S.k, .int .i64 S.tg.k, .string S.tg.t, .int .i64 S.tg.n, .string S.tg.nm, .slice S.tg.xa S.tg.len S.tg.cap, .int .i64 S.va.k, .string S.va.t, .int .i64 S.va.n, .string S.va.nm, .slice S.va.xa S.va.len S.va.cap, .int .i64 S.pa.k, .string S.pa.t, .int .i64 S.pa.n, .string S.pa.nm, .slice S.pa.xa S.pa.len S.pa.cap, .string S.nm, .string S.en, .slice S.ps.xa S.ps.l.length S.ps.cap, .slice S.ls.xa S.ls.l.length S.ls.cap, .string S.al, .string S.ye, .string S.no] 33)).alloc (.cells #[.string S.lab, .string S.al, .string S.ye, .string S.no] 9) := ⟨_, rfl⟩
  rw [← hw1]
  have hb1 : Below w.heap.size w w1 := by rw [hw1]; exact (ba _).alloc (by rw [World.size_alloc]; omega) _
  have hsz1 : w1.heap.size = w.heap.size + 1 + 1 := by rw [hw1, World.size_alloc, World.size_alloc]
  have hr1 : w1.heap[w.heap.size]? = some (.cells #[.string S.lab, .int .i64 S.k, .int .i64 S.tg.k, .string S.tg.t, .int .i64 S.tg.n, .string S.tg.nm, .slice S.tg.xa S.tg.len S.tg.cap, .int .i64 S.va.k, .string S.va.t, .int .i64 S.va.n, .string S.va.nm, .slice S.va.xa S.va.len S.va.cap, .int .i64 S.pa.k, .string S.pa.t, .int .i64 S.pa.n, .string S.pa.nm, .slice S.pa.xa S.pa.len S.pa.cap, .string S.nm, .string S.en, .slice S.ps.xa S.ps.l.length S.ps.cap, .slice S.ls.xa S.ls.l.length S.ls.cap, .string S.al, .string S.ye, .string S.no] 33 (0, 0)) := by rw [hw1]; exact at_old (by rw [World.size_alloc]; omega) (at_new rfl)
  have hl1 : w1.heap[w.heap.size + 1]? = some (.cells #[.string S.lab, .string S.al, .string S.ye, .string S.no] 9 (0, 0)) := by rw [hw1]; exact at_new (by rw [World.size_alloc])
  have HB1 := hide hb1
  have HR1 := hide hr1
  have HC : Hid (∀ i t, S.lbl[i]? = some t → w1.cell? ⟨w.heap.size + 1, i, none⟩ = some (.string t) ∧ t.size ≤ maxLen) := hide (fun i t ht => by
    rw [cell_of_row _ _ _ _ _ _ hl1]
    match i, ht with
    | 0, ht => obtain rfl : S.lab = t := by simpa [SV.lbl] using ht
               exact ⟨rfl, htx.1⟩
    | 1, ht => obtain rfl : S.al = t := by simpa [SV.lbl] using ht
               exact ⟨rfl, htx.2.2.2.1⟩
    | 2, ht => obtain rfl : S.ye = t := by simpa [SV.lbl] using ht
               exact ⟨rfl, htx.2.2.2.2.1⟩
    | 3, ht => obtain rfl : S.no = t := by simpa [SV.lbl] using ht
               exact ⟨rfl, htx.2.2.2.2.2⟩
    | i + 4, ht => simp [SV.lbl] at ht)
  have HW : Hid (S.wrong = if S.lbl.all okL = true then (if S.al.toList.isEmpty = false ∧ (S.ye.toList.isEmpty = false ∨ S.no.toList.isEmpty = false) then 8 else S.kndE) else 7) := hide (rfl)
  have HLL : Hid (S.lbl.length = 4) := hide (rfl)
  have HSZ1 := hide hsz1
  have HLB : Hid (S.lbl = [S.lab, S.al, S.ye, S.no]) := hide rfl
  clear hw1 hb1 hr1 hl1 htx hsz1
  generalize S.lbl = LL at *
  go_loopw [21] (fun i wr => ∃ k : Nat, k ≤ 4 ∧ i = .int .i64 (k : Int) ∧ Hid ((LL.take k).all okL = true) ∧ Hid (Below w1.heap.size w1 wr)) (fun i _ => 4 - (intOf i).toNat)
  case atStart => exact ⟨0, by omega, rfl, rfl, Below.refl _ _⟩
  case round =>
    obtain ⟨k, hk, rfl, HT, HBR⟩ := hrel
    rcases Nat.lt_or_ge k 4 with hlt | hge
    · obtain ⟨t, ht⟩ : ∃ t, LL[k]? = some t := ⟨LL[k]'(by have := unhide HLL; omega), List.getElem?_eq_getElem _⟩
      obtain ⟨ct, hts⟩ := unhide HC k t ht
      have ct := cell_later (unhide HBR) ct
      have HNA := hide (refNamed_any t wr hts)
      have HS1 := hide (fun h => okl_take (unhide HT) ht h)
      have HS0 := hide (fun h => okl_not ht h)
      clear ht hts
      have hg : (k : Int) < 4 := by omega
      have hix := sl_idx (g := w.heap.size + 1) (o := 0) (cap := 4) (i := k) (n := 4) Tryz.underlying31 size_strS hlt
      rw [Nat.zero_add] at hix
      cases hemp : t.toList.isEmpty
      · cases hq : named t
        · have HE : Hid (S.wrong = 7) := hide (by rw [unhide HW, unhide HS0 (by unfold okL; rw [hemp, hq]; rfl), if_neg (by decide)])
          rw [hq] at HNA
          clear hq HS1 HS0
          go_wp2_with fail
          refine (unhide HNA).mono ?_
          rintro e w2 ⟨rfl, hb2⟩
          have HB2 := hide (bnext2 (unhide HB1) (bnext2 (unhide HBR) hb2))
          clear hb2
          go_wp2_with fail
          go_ret
          exact ⟨by rw [unhide HE]; rfl, unhide HB2⟩
        · have HA := hide (unhide HS1 (by unfold okL; rw [hq, Bool.or_true]))
          rw [hq] at HNA
          clear hq HS1 HS0
          go_wp2_with fail
          refine (unhide HNA).mono ?_
          rintro e w2 ⟨rfl, hb2⟩
          have HB2 := hide (bnext2 (unhide HBR) hb2)
          clear hb2
          go_wp2_with fail
          exact ⟨⟨k + 1, by omega, by go_num, HA, HB2⟩, by simp [intOf]; omega⟩
      · have HA := hide (unhide HS1 (by unfold okL; rw [hemp, Bool.true_or]))
        clear HS1 HS0
        go_wp2_with fail
        exact ⟨⟨k + 1, by omega, by go_num, HA, HBR⟩, by simp [intOf]; omega⟩
    · obtain rfl : k = 4 := by omega
      have HSM : Hid (∀ t ∈ LL, okL t = true) := hide (by
        have h := unhide HT
        rw [← unhide HLL, List.take_length] at h
        exact fun t ht => List.all_eq_true.1 h t ht)
      have HW2 : Hid (S.wrong = if S.al.toList.isEmpty = false ∧ (S.ye.toList.isEmpty = false ∨ S.no.toList.isEmpty = false) then 8 else S.kndE) := hide (by
        have h := unhide HT
        rw [← unhide HLL, List.take_length] at h
        rw [unhide HW, if_pos h])
      have hye : S.ye.size ≤ 16 := okl_le (unhide HSM _ (by rw [unhide HLB]; simp))
      have hno : S.no.size ≤ 16 := okl_le (unhide HSM _ (by rw [unhide HLB]; simp))
      clear HW HT HC HLL hk hge HSM HLB
      have HRR := hide (row_below (unhide HR1) (unhide HBR))
      have HKR := hide (bnext2 (unhide HB1) (unhide HBR))
      obtain ⟨bb, hbb⟩ : ∃ bb : Bool, bb = (!S.al.toList.isEmpty && (!S.ye.toList.isEmpty || !S.no.toList.isEmpty)) := ⟨_, rfl⟩
      have HE0 : Hid (S.wrong = if bb = true then 8 else S.kndE) := hide (by rw [unhide HW2, hbb]; cases S.al.toList.isEmpty <;> cases S.ye.toList.isEmpty <;> cases S.no.toList.isEmpty <;> simp)
      have HBB := hide hbb
      clear hbb HW2
      obtain ⟨-, c1, -, -, -, -, -, -, -, -, -, -, -, -, -, -, -, -, -, -, -, c21, c22, c23⟩ := cells24 (unhide HRR)
      go_upto_region 7 with fail
      go_cut [43] from 33 (fun s wx => s = .bool bb ∧ wr = wx)
      case first =>
        have hbb := unhide HBB
        have hct := empty_add S.ye S.no
        clear HBB HE0
        cases ha : S.al.toList.isEmpty <;> cases hy : S.ye.toList.isEmpty <;> cases hn : S.no.toList.isEmpty <;> (rw [ha, hy, hn] at hbb; rw [hy, hn] at hct; simp only [Bool.and_true, Bool.and_false] at hct; go_wp2_with fail; go_meet; case rel => exact ⟨by rw [hbb]; rfl, rfl⟩)
      case rest =>
        obtain ⟨rfl, rfl⟩ := hcut
        clear HBB
        cases bb
        · have HE : Hid (S.wrong = S.kndE) := hide (by rw [unhide HE0, if_neg (by decide)])
          clear HE0
          have HKK : Hid (S.k = 1 ∨ S.k = 2 ∨ S.k = 4 ∨ S.k = 3 ∨ S.k = 5 ∨ S.k = 6 ∨ S.k = 7 ∨ (S.k < 1 ∨ 7 < S.k)) := hide (by omega)
          rcases unhide HKK with HK | HK | HK | HK | HK | HK | HK | HK
          · replace HK := hide HK
            clear HKK
            as_aux_lemma =>
              have hk := unhide HK
              have HE : Hid (S.wrong = 0) := hide (by rw [unhide HE, SV.kndE, if_pos hk])
              rw [hk] at HRR
              clear c1 c21 c22 c23 hk
              obtain ⟨c0, c1, c2, c3, c4, c5, c6, c7, c8, c9, c10, c11, c12, c13, c14, c15, c16, c17, c18, c19, c20, c21, c22, c23⟩ := cells24k (unhide HRR)
              go_wp2_with fail
              go_ret
              exact ⟨by rw [unhide HE]; rfl, unhide HKR⟩
          · replace HK := hide HK
            clear HKK
            as_aux_lemma =>
              have hk := unhide HK
              have HE : Hid (S.wrong = S.va.wrongX) := hide (by rw [unhide HE, SV.kndE, if_neg (by omega), if_pos hk])
              have HVA := hide (fun W (h : Below wr.heap.size wr W) => refExpr_any S.va W (PT.In.later h (PT.In.later (unhide HKR) (unhide HI).va)))
              rw [hk] at HRR
              clear c1 c21 c22 c23 hk
              obtain ⟨c0, c1, c2, c3, c4, c5, c6, c7, c8, c9, c10, c11, c12, c13, c14, c15, c16, c17, c18, c19, c20, c21, c22, c23⟩ := cells24k (unhide HRR)
              have hA : Below wr.heap.size wr wr := Below.refl _ _
              unfold pv at HVA
              go_wp2_with fail
              refine (unhide HVA wr hA).mono ?_
              rintro e x1 ⟨rfl, hb⟩
              have hA := bnext hA hb
              obtain ⟨c0, c1, c2, c3, c4, c5, c6, c7, c8, c9, c10, c11, c12, c13, c14, c15, c16, c17, c18, c19, c20, c21, c22, c23⟩ := cells24k (row_below (unhide HRR) hA)
              clear hb
              by_cases he : S.va.wrongX = 0
              · have HE : Hid (S.wrong = 0) := hide ((unhide HE).trans he)
                rw [he]
                clear he
                go_wp2_with fail
                go_ret
                exact ⟨by rw [unhide HE]; rfl, bnext2 (unhide HKR) hA⟩
              · have HE : Hid (S.wrong = S.va.wrongX) := hide (unhide HE)
                have hne : (S.va.wrongX != 0) = true := by rw [bne_iff_ne]; exact he
                clear he
                go_wp2_with fail
                go_ret
                exact ⟨by rw [unhide HE]; rfl, bnext2 (unhide HKR) hA⟩
          · replace HK := hide HK
            clear HKK
            as_aux_lemma =>
              have hk := unhide HK
              have HE : Hid (S.wrong = fst0 [S.va.wrongX, S.pa.wrong]) := hide (by rw [unhide HE, SV.kndE, if_neg (by omega), if_neg (by omega), if_pos hk])
              have HVA := hide (fun W (h : Below wr.heap.size wr W) => refExpr_any S.va W (PT.In.later h (PT.In.later (unhide HKR) (unhide HI).va)))
              have HPA := hide (fun W (h : Below wr.heap.size wr W) => refWrong_any S.pa W (PT.In.later h (PT.In.later (unhide HKR) (unhide HI).pa)) (unhide HPN).1)
              rw [hk] at HRR
              clear c1 c21 c22 c23 hk
              obtain ⟨c0, c1, c2, c3, c4, c5, c6, c7, c8, c9, c10, c11, c12, c13, c14, c15, c16, c17, c18, c19, c20, c21, c22, c23⟩ := cells24k (unhide HRR)
              have hA : Below wr.heap.size wr wr := Below.refl _ _
              unfold pv at HVA HPA
              go_wp2_with fail
              refine (unhide HVA wr hA).mono ?_
              rintro e x1 ⟨rfl, hb⟩
              have hA := bnext hA hb
              obtain ⟨c0, c1, c2, c3, c4, c5, c6, c7, c8, c9, c10, c11, c12, c13, c14, c15, c16, c17, c18, c19, c20, c21, c22, c23⟩ := cells24k (row_below (unhide HRR) hA)
              clear hb
              by_cases he : S.va.wrongX = 0
              · have HE : Hid (S.wrong = fst0 [S.pa.wrong]) := hide ((unhide HE).trans (if_pos he))
                rw [he]
                clear he
                go_wp2_with fail
                refine (unhide HPA x1 hA).mono ?_
                rintro e x2 ⟨rfl, hb⟩
                have hA := bnext hA hb
                obtain ⟨c0, c1, c2, c3, c4, c5, c6, c7, c8, c9, c10, c11, c12, c13, c14, c15, c16, c17, c18, c19, c20, c21, c22, c23⟩ := cells24k (row_below (unhide HRR) hA)
                clear hb
                by_cases he : S.pa.wrong = 0
                · have HE : Hid (S.wrong = 0) := hide (by rw [unhide HE]; exact if_pos he)
                  rw [he]
                  clear he
                  go_wp2_with fail
                  go_ret
                  exact ⟨by rw [unhide HE]; rfl, bnext2 (unhide HKR) hA⟩
                · have HE : Hid (S.wrong = S.pa.wrong) := hide (by rw [unhide HE]; exact if_neg he)
                  have hne : (S.pa.wrong != 0) = true := by rw [bne_iff_ne]; exact he
                  clear he
                  go_wp2_with fail
                  go_ret
                  exact ⟨by rw [unhide HE]; rfl, bnext2 (unhide HKR) hA⟩
              · have HE : Hid (S.wrong = S.va.wrongX) := hide (by rw [unhide HE]; exact if_neg he)
                have hne : (S.va.wrongX != 0) = true := by rw [bne_iff_ne]; exact he
                clear he
                go_wp2_with fail
                go_ret
                exact ⟨by rw [unhide HE]; rfl, bnext2 (unhide HKR) hA⟩
          · replace HK := hide HK
            clear HKK
            as_aux_lemma =>
              have hk := unhide HK
              have HE : Hid (S.wrong = fst0 [tgE S.tg, S.va.wrongX]) := hide (by rw [unhide HE, SV.kndE, if_neg (by omega), if_neg (by omega), if_neg (by omega), if_pos hk])
              have HTG := hide (fun W (h : Below wr.heap.size wr W) => refExpr_any S.tg W (PT.In.later h (PT.In.later (unhide HKR) (unhide HI).tg)))
              have HTA := hide (fun W => refTarget_any S.tg W)
              have HVA := hide (fun W (h : Below wr.heap.size wr W) => refExpr_any S.va W (PT.In.later h (PT.In.later (unhide HKR) (unhide HI).va)))
              rw [hk] at HRR
              clear c1 c21 c22 c23 hk
              obtain ⟨c0, c1, c2, c3, c4, c5, c6, c7, c8, c9, c10, c11, c12, c13, c14, c15, c16, c17, c18, c19, c20, c21, c22, c23⟩ := cells24k (unhide HRR)
              have hA : Below wr.heap.size wr wr := Below.refl _ _
              unfold pv at HTG HTA HVA
              go_wp2_with fail
              refine (unhide HTG wr hA).mono ?_
              rintro e x1 ⟨rfl, hb⟩
              have hA := bnext hA hb
              obtain ⟨c0, c1, c2, c3, c4, c5, c6, c7, c8, c9, c10, c11, c12, c13, c14, c15, c16, c17, c18, c19, c20, c21, c22, c23⟩ := cells24k (row_below (unhide HRR) hA)
              clear hb
              by_cases he : S.tg.wrongX = 0
              · have HT0 := hide (tgE_rest he)
                rw [he]
                clear he
                go_wp2_with fail
                refine (unhide HTA x1).mono ?_
                rintro e x2 ⟨rfl, hb⟩
                have hA := bnext2 hA hb
                obtain ⟨c0, c1, c2, c3, c4, c5, c6, c7, c8, c9, c10, c11, c12, c13, c14, c15, c16, c17, c18, c19, c20, c21, c22, c23⟩ := cells24k (row_below (unhide HRR) hA)
                clear hb
                cases hp : isPl S.tg.k
                · have HE : Hid (S.wrong = 8) := hide (by rw [unhide HE]; exact (if_neg (by rw [unhide HT0, hp]; decide)).trans (by rw [unhide HT0, hp]; rfl))
                  clear hp
                  go_wp2_with fail
                  go_ret
                  exact ⟨by rw [unhide HE]; rfl, bnext2 (unhide HKR) hA⟩
                · have HE : Hid (S.wrong = S.va.wrongX) := hide (by rw [unhide HE]; exact (if_pos (by rw [unhide HT0, hp]; rfl)).trans (fst0_one _))
                  clear hp
                  go_wp2_with fail
                  refine (unhide HVA x2 hA).mono ?_
                  rintro e x3 ⟨rfl, hb⟩
                  have hA := bnext hA hb
                  obtain ⟨c0, c1, c2, c3, c4, c5, c6, c7, c8, c9, c10, c11, c12, c13, c14, c15, c16, c17, c18, c19, c20, c21, c22, c23⟩ := cells24k (row_below (unhide HRR) hA)
                  clear hb
                  go_wp2_with fail
                  go_ret
                  exact ⟨by rw [unhide HE]; rfl, bnext2 (unhide HKR) hA⟩
              · have HE : Hid (S.wrong = S.tg.wrongX) := hide (by rw [unhide HE]; exact (if_neg (by rw [tgE_ends he]; exact he)).trans (tgE_ends he))
                have hne : (S.tg.wrongX != 0) = true := by rw [bne_iff_ne]; exact he
                clear he
                go_wp2_with fail
                go_ret
                exact ⟨by rw [unhide HE]; rfl, bnext2 (unhide HKR) hA⟩
          · replace HK := hide HK
            clear HKK
            as_aux_lemma =>
              have hk := unhide HK
              have HE : Hid (S.wrong = fst0 [tgE S.tg, S.pa.wrong, S.va.wrongX]) := hide (by rw [unhide HE, SV.kndE, if_neg (by omega), if_neg (by omega), if_neg (by omega), if_neg (by omega), if_pos hk])
              have HTG := hide (fun W (h : Below wr.heap.size wr W) => refExpr_any S.tg W (PT.In.later h (PT.In.later (unhide HKR) (unhide HI).tg)))
              have HTA := hide (fun W => refTarget_any S.tg W)
              have HPA := hide (fun W (h : Below wr.heap.size wr W) => refWrong_any S.pa W (PT.In.later h (PT.In.later (unhide HKR) (unhide HI).pa)) (unhide HPN).1)
              have HVA := hide (fun W (h : Below wr.heap.size wr W) => refExpr_any S.va W (PT.In.later h (PT.In.later (unhide HKR) (unhide HI).va)))
              rw [hk] at HRR
              clear c1 c21 c22 c23 hk
              obtain ⟨c0, c1, c2, c3, c4, c5, c6, c7, c8, c9, c10, c11, c12, c13, c14, c15, c16, c17, c18, c19, c20, c21, c22, c23⟩ := cells24k (unhide HRR)
              have hA : Below wr.heap.size wr wr := Below.refl _ _
              unfold pv at HTG HTA HPA HVA
              go_wp2_with fail
              refine (unhide HTG wr hA).mono ?_
              rintro e x1 ⟨rfl, hb⟩
              have hA := bnext hA hb
              obtain ⟨c0, c1, c2, c3, c4, c5, c6, c7, c8, c9, c10, c11, c12, c13, c14, c15, c16, c17, c18, c19, c20, c21, c22, c23⟩ := cells24k (row_below (unhide HRR) hA)
              clear hb
              by_cases he : S.tg.wrongX = 0
              · have HT0 := hide (tgE_rest he)
                rw [he]
                clear he
                go_wp2_with fail
                refine (unhide HTA x1).mono ?_
                rintro e x2 ⟨rfl, hb⟩
                have hA := bnext2 hA hb
                obtain ⟨c0, c1, c2, c3, c4, c5, c6, c7, c8, c9, c10, c11, c12, c13, c14, c15, c16, c17, c18, c19, c20, c21, c22, c23⟩ := cells24k (row_below (unhide HRR) hA)
                clear hb
                cases hp : isPl S.tg.k
                · have HE : Hid (S.wrong = 8) := hide (by rw [unhide HE]; exact (if_neg (by rw [unhide HT0, hp]; decide)).trans (by rw [unhide HT0, hp]; rfl))
                  clear hp
                  go_wp2_with fail
                  go_ret
                  exact ⟨by rw [unhide HE]; rfl, bnext2 (unhide HKR) hA⟩
                · have HE : Hid (S.wrong = fst0 [S.pa.wrong, S.va.wrongX]) := hide (by rw [unhide HE]; exact if_pos (by rw [unhide HT0, hp]; rfl))
                  clear hp
                  go_wp2_with fail
                  refine (unhide HPA x2 hA).mono ?_
                  rintro e x3 ⟨rfl, hb⟩
                  have hA := bnext hA hb
                  obtain ⟨c0, c1, c2, c3, c4, c5, c6, c7, c8, c9, c10, c11, c12, c13, c14, c15, c16, c17, c18, c19, c20, c21, c22, c23⟩ := cells24k (row_below (unhide HRR) hA)
                  clear hb
                  by_cases he : S.pa.wrong = 0
                  · have HE : Hid (S.wrong = fst0 [S.va.wrongX]) := hide (by rw [unhide HE]; exact if_pos he)
                    rw [he]
                    clear he
                    go_wp2_with fail
                    refine (unhide HVA x3 hA).mono ?_
                    rintro e x4 ⟨rfl, hb⟩
                    have hA := bnext hA hb
                    obtain ⟨c0, c1, c2, c3, c4, c5, c6, c7, c8, c9, c10, c11, c12, c13, c14, c15, c16, c17, c18, c19, c20, c21, c22, c23⟩ := cells24k (row_below (unhide HRR) hA)
                    clear hb
                    go_wp2_with fail
                    go_ret
                    exact ⟨by rw [unhide HE, fst0_one]; rfl, bnext2 (unhide HKR) hA⟩
                  · have HE : Hid (S.wrong = S.pa.wrong) := hide (by rw [unhide HE]; exact if_neg he)
                    have hne : (S.pa.wrong != 0) = true := by rw [bne_iff_ne]; exact he
                    clear he
                    go_wp2_with fail
                    go_ret
                    exact ⟨by rw [unhide HE]; rfl, bnext2 (unhide HKR) hA⟩
              · have HE : Hid (S.wrong = S.tg.wrongX) := hide (by rw [unhide HE]; exact (if_neg (by rw [tgE_ends he]; exact he)).trans (tgE_ends he))
                have hne : (S.tg.wrongX != 0) = true := by rw [bne_iff_ne]; exact he
                clear he
                go_wp2_with fail
                go_ret
                exact ⟨by rw [unhide HE]; rfl, bnext2 (unhide HKR) hA⟩
          · replace HK := hide HK
            clear HKK
            as_aux_lemma =>
              have hk := unhide HK
              have HE : Hid (S.wrong = fst0 [nmsE [S.nm], S.pa.wrong]) := hide (by rw [unhide HE, SV.kndE, if_neg (by omega), if_neg (by omega), if_neg (by omega), if_neg (by omega), if_neg (by omega), if_pos hk])
              have HNN := hide (fun W => refNamed_any S.nm W (unhide HI).txt.2.1)
              have HPA := hide (fun W (h : Below wr.heap.size wr W) => refWrong_any S.pa W (PT.In.later h (PT.In.later (unhide HKR) (unhide HI).pa)) (unhide HPN).1)
              rw [hk] at HRR
              clear c1 c21 c22 c23 hk
              obtain ⟨c0, c1, c2, c3, c4, c5, c6, c7, c8, c9, c10, c11, c12, c13, c14, c15, c16, c17, c18, c19, c20, c21, c22, c23⟩ := cells24k (unhide HRR)
              have hA : Below wr.heap.size wr wr := Below.refl _ _
              unfold pv at HPA
              go_wp2_with fail
              refine (unhide HNN wr).mono ?_
              rintro e x1 ⟨rfl, hb⟩
              have hA := bnext2 hA hb
              obtain ⟨c0, c1, c2, c3, c4, c5, c6, c7, c8, c9, c10, c11, c12, c13, c14, c15, c16, c17, c18, c19, c20, c21, c22, c23⟩ := cells24k (row_below (unhide HRR) hA)
              clear hb
              cases hp : named S.nm
              · have HE : Hid (S.wrong = 7) := hide (by rw [unhide HE]; exact fst0_nm7 hp)
                clear hp
                go_wp2_with fail
                go_ret
                exact ⟨by rw [unhide HE]; rfl, bnext2 (unhide HKR) hA⟩
              · have HE : Hid (S.wrong = fst0 [S.pa.wrong]) := hide (by rw [unhide HE]; exact fst0_nm0 hp)
                clear hp
                go_wp2_with fail
                refine (unhide HPA x1 hA).mono ?_
                rintro e x2 ⟨rfl, hb⟩
                have hA := bnext hA hb
                obtain ⟨c0, c1, c2, c3, c4, c5, c6, c7, c8, c9, c10, c11, c12, c13, c14, c15, c16, c17, c18, c19, c20, c21, c22, c23⟩ := cells24k (row_below (unhide HRR) hA)
                clear hb
                by_cases he : S.pa.wrong = 0
                · have HE : Hid (S.wrong = 0) := hide (by rw [unhide HE]; exact if_pos he)
                  rw [he]
                  clear he
                  go_wp2_with fail
                  go_ret
                  exact ⟨by rw [unhide HE]; rfl, bnext2 (unhide HKR) hA⟩
                · have HE : Hid (S.wrong = S.pa.wrong) := hide (by rw [unhide HE]; exact if_neg he)
                  have hne : (S.pa.wrong != 0) = true := by rw [bne_iff_ne]; exact he
                  clear he
                  go_wp2_with fail
                  go_ret
                  exact ⟨by rw [unhide HE]; rfl, bnext2 (unhide HKR) hA⟩
          · replace HK := hide HK
            clear HKK
            as_aux_lemma =>
              have hk := unhide HK
              have HE : Hid (S.wrong = S.dfE) := hide (by rw [unhide HE, SV.kndE, if_neg (by omega), if_neg (by omega), if_neg (by omega), if_neg (by omega), if_neg (by omega), if_neg (by omega), if_pos hk])
              have HNN := hide (fun W => refNamed_any S.nm W (unhide HI).txt.2.1)
              rw [hk] at HRR
              clear c1 c21 c22 c23 hk
              obtain ⟨c0, c1, c2, c3, c4, c5, c6, c7, c8, c9, c10, c11, c12, c13, c14, c15, c16, c17, c18, c19, c20, c21, c22, c23⟩ := cells24k (unhide HRR)
              go_wp2_with fail
              refine (unhide HNN wr).mono ?_
              rintro e x1 ⟨rfl, hb⟩
              have HX := hide (bnext2 (unhide HKR) hb)
              have HR2 := hide (row_below (unhide HRR) hb)
              have HIX := hide ((unhide HI).later (unhide HX))
              obtain ⟨c0, c1, c2, c3, c4, c5, c6, c7, c8, c9, c10, c11, c12, c13, c14, c15, c16, c17, c18, c19, c20, c21, c22, c23⟩ := cells24k (unhide HR2)
              clear hb
              cases hp : named S.nm
              · have HE : Hid (S.wrong = 7) := hide (by rw [unhide HE]; exact dfE_7 (by rw [List.cons_append, List.all_cons, hp]; rfl))
                clear hp
                go_wp2_with fail
                go_ret
                exact ⟨by rw [unhide HE]; rfl, unhide HX⟩
              · have HP := hide hp
                clear hp
                obtain ⟨NL, hNL⟩ : ∃ NL, NL = S.ps.l ++ S.ls.l ++ [S.en] := ⟨_, rfl⟩
                have HNL := hide hNL
                have HLN : Hid (NL.length = S.ps.l.length + S.ls.l.length + 1) := hide (by rw [hNL]; simp only [List.length_append, List.length_cons, List.length_nil])
                clear hNL
                go_upto_region 31 with fail
                go_cut [135, 136, 137] from 125 (fun s135 s136 s137 wx => s137 = .int .i64 0 ∧ s136 = .int .i64 (NL.length : Int) ∧ ∃ g cap, s135 = .slice (some ⟨g, 0, none⟩) NL.length cap ∧ Hid (NL.length ≤ cap ∧ cap ≤ maxLen) ∧ Hid (wx.ownsRow x1.heap.size 9 1 (.slice (some ⟨g, 0, none⟩) NL.length cap) NL.length (strs NL)) ∧ Hid (Below x1.heap.size x1 wx))
                case first =>
                  have hA : Below x1.heap.size x1 x1 := Below.refl _ _
                  have HKP : Hid (∀ w' : World, Below x1.heap.size x1 w' → (w'.cell? ⟨w.heap.size, 18, none⟩ = some (.string S.en) ∧ w'.cell? ⟨w.heap.size, 19, none⟩ = some (.slice S.ps.xa S.ps.l.length S.ps.cap) ∧ w'.cell? ⟨w.heap.size, 20, none⟩ = some (.slice S.ls.xa S.ls.l.length S.ls.cap))) := hide (fun w' h => ⟨cell_later h c18, cell_later h c19, cell_later h c20⟩)
                  go_wp2_with fail
                  go_region_held3 (fun w' => w'.cell? ⟨w.heap.size, 18, none⟩ = some (.string S.en) ∧ w'.cell? ⟨w.heap.size, 19, none⟩ = some (.slice S.ps.xa S.ps.l.length S.ps.cap) ∧ w'.cell? ⟨w.heap.size, 20, none⟩ = some (.slice S.ls.xa S.ls.l.length S.ls.cap))
                    (first | exact unhide HKP _ (unhide HA).below | exact unhide HKP _ ((unhide HA).lay (en := S.en) rfl).below | exact unhide HKP _ hA | exact unhide HKP _ hA.drew | exact unhide HKP _ (hA.alloc (Nat.le_refl _) _) | exact unhide HKP _ (hA.alloc (Nat.le_refl _) _).drew | exact unhide HKP _ ((hA.alloc (Nat.le_refl _) _).alloc (by rw [World.size_alloc]; omega) _) | exact unhide HKP _ ((hA.alloc (Nat.le_refl _) _).alloc (by rw [World.size_alloc]; omega) _).drew)
                    (first
                      | (refine wp_append_nl (B := x1.heap.size) (w0 := x1) (n := 0) (xs := []) (r := 0) (en := S.en) (b := false) _ _ rfl rfl rfl (by first | exact (Ap.start (Below.refl x1.heap.size x1) (Nat.le_refl _) rfl 0) | exact ((Ap.start (Below.refl x1.heap.size x1) (Nat.le_refl _) rfl 0)).drew | exact ((Ap.start (Below.refl x1.heap.size x1) (Nat.le_refl _) rfl 0)).drew.drew | exact ((Ap.start (Below.refl x1.heap.size x1) (Nat.le_refl _) rfl 0)).drew.drew.drew) S.ps rfl (fun W h => (unhide HIX).ps.later h) (by have := (unhide HPN).2; omega) ?_; intro v7 w7 q; have HA := hide q; clear q)
                      | (refine wp_append_nl (B := x1.heap.size) (w0 := x1) (n := 0) (xs := []) (r := x1.heap.size) (en := S.en) (b := true) _ _ rfl rfl rfl (by first | exact (Ap.start2 (Below.refl x1.heap.size x1) (Nat.le_refl _) rfl rfl) | exact ((Ap.start2 (Below.refl x1.heap.size x1) (Nat.le_refl _) rfl rfl)).drew | exact ((Ap.start2 (Below.refl x1.heap.size x1) (Nat.le_refl _) rfl rfl)).drew.drew | exact ((Ap.start2 (Below.refl x1.heap.size x1) (Nat.le_refl _) rfl rfl)).drew.drew.drew) S.ps rfl (fun W h => (unhide HIX).ps.later h) (by have := (unhide HPN).2; omega) ?_; intro v7 w7 q; have HA := hide q; clear q)
                      | (refine wp_append_nl (B := x1.heap.size) (w0 := x1) (n := 0) (xs := []) (r := (x1.heap.size + 1)) (en := S.en) (b := true) _ _ rfl rfl rfl (by first | exact ((Ap.start (Below.refl x1.heap.size x1) (Nat.le_refl _) rfl 0).lay (by rw [World.size_alloc])) | exact (((Ap.start (Below.refl x1.heap.size x1) (Nat.le_refl _) rfl 0).lay (by rw [World.size_alloc]))).drew | exact (((Ap.start (Below.refl x1.heap.size x1) (Nat.le_refl _) rfl 0).lay (by rw [World.size_alloc]))).drew.drew | exact (((Ap.start (Below.refl x1.heap.size x1) (Nat.le_refl _) rfl 0).lay (by rw [World.size_alloc]))).drew.drew.drew) S.ps rfl (fun W h => (unhide HIX).ps.later h) (by have := (unhide HPN).2; omega) ?_; intro v7 w7 q; have HA := hide q; clear q)
                      | (refine wp_append_nl _ _ rfl rfl rfl (unhide HA) S.ls rfl (fun W h => (unhide HIX).ls.later h) (by have := (unhide HPN).2; omega) ?_; intro v7 w7 q; have HA := hide q; clear q)
                      | (refine wp_append_nl _ _ rfl rfl rfl ((unhide HA).lay rfl) S.ls rfl (fun W h => (unhide HIX).ls.later h) (by have := (unhide HPN).2; omega) ?_; intro v7 w7 q; have HA := hide q; clear q)
                      | (refine wp_append_en _ _ rfl rfl rfl rfl (unhide HA) (unhide HI).txt.2.2.1 (by have := (unhide HPN).2; omega) ?_; intro g7 cap7 w7 hc1 hc2 q; have HA := hide q; have HCAP := hide (And.intro hc1 hc2); clear q hc1 hc2)
                      | (refine wp_append_en _ _ rfl rfl rfl rfl ((unhide HA).lay rfl) (unhide HI).txt.2.2.1 (by have := (unhide HPN).2; omega) ?_; intro g7 cap7 w7 hc1 hc2 q; have HA := hide q; have HCAP := hide (And.intro hc1 hc2); clear q hc1 hc2))
                  all_goals
                    have HAZ := hide (show Ap x1.heap.size x1 _ (.slice (some ⟨g7, 0, none⟩) NL.length cap7) NL.length NL _ S.en true by
                      have h := unhide HA
                      rw [List.nil_append, ← unhide HNL] at h
                      rw [unhide HLN]
                      rw [Nat.zero_add] at h
                      exact h)
                    have hL := unhide HLN
                    have HCZ := hide (show NL.length ≤ cap7 ∧ cap7 ≤ maxLen by have := unhide HCAP; omega)
                    clear HA HCAP
                    go_wp2_with fail
                    go_meet
                    case rel => exact ⟨rfl, by rw [hL]; first | rfl | (rw [Nat.zero_add]; rfl) | go_num, g7, cap7, by rw [hL, Nat.zero_add], HCZ, (unhide HAZ).own, (unhide HAZ).below⟩
                case rest =>
                obtain ⟨rfl, rfl, g, cap, rfl, HCZ, HO, HBY⟩ := hcut
                have HTS : Hid (∀ t ∈ NL, t.size ≤ maxLen) := hide (by
                  intro t ht
                  rw [unhide HNL, List.mem_append, List.mem_append, List.mem_singleton] at ht
                  rcases ht with (ht | ht) | ht
                  · obtain ⟨i, hi⟩ := List.getElem?_of_mem ht
                    exact ((unhide HI).ps.cell i t hi).2
                  · obtain ⟨i, hi⟩ := List.getElem?_of_mem ht
                    exact ((unhide HI).ls.cell i t hi).2
                  · rw [ht]; exact (unhide HI).txt.2.2.1)
                have HD7 : Hid (NL.all named = false → S.wrong = 7) := hide (fun h => by
                  rw [unhide HE]
                  refine dfE_7 ?_
                  rw [List.cons_append, ← unhide HNL, List.all_cons, h, Bool.and_false])
                have HD0 : Hid (NL.all named = true → S.wrong = if 8 < S.ps.l.length ∨ 8 < S.ls.l.length then 5 else 0) := hide (fun h => by
                  rw [unhide HE]
                  refine dfE_0 ?_
                  rw [List.cons_append, ← unhide HNL, List.all_cons, h, unhide HP]
                  rfl)
                have hNL : NL.length ≤ 7000000000001 := by have := unhide HLN; have := (unhide HPN).2; omega
                clear HE HNL HLN HP c0 c1 c2 c3 c4 c5 c6 c7 c8 c9 c10 c11 c12 c13 c14 c15 c16 c17 c18 c19 c20 c21 c22 c23
                go_wp2_with fail
                go_loopw [137] (fun i wl => ∃ k : Nat, k ≤ NL.length ∧ i = .int .i64 (k : Int) ∧ Hid ((NL.take k).all named = true) ∧ Hid (wl.ownsRow x1.heap.size 9 1 (.slice (some ⟨g, 0, none⟩) NL.length cap) NL.length (strs NL)) ∧ Hid (Below x1.heap.size x1 wl)) (fun i _ => NL.length - (intOf i).toNat)
                case atStart => exact ⟨0, by omega, rfl, rfl, HO, HBY⟩
                case round =>
                  obtain ⟨k, hk, rfl, HT, HO2, HB2⟩ := hrel
                  rcases Nat.lt_or_ge k NL.length with hlt | hge
                  · obtain ⟨t, ht⟩ : ∃ t, NL[k]? = some t := ⟨NL[k], List.getElem?_eq_getElem hlt⟩
                    have ct : wr.cell? ⟨g, k, none⟩ = some (.string t) := by
                      rw [(unhide HO2).cellAt k (by omega)]
                      unfold strs
                      rw [List.getElem?_map, ht]
                      rfl
                    have HNA := hide (refNamed_any t wr (unhide HTS t (List.mem_of_getElem? ht)))
                    have HS1 := hide (fun h => all_take (unhide HT) ht h)
                    have HS0 := hide (fun h => all_not ht h)
                    clear ht
                    have hg : (k : Int) < (NL.length : Int) := by omega
                    have hix := sl_idx (g := g) (o := 0) (cap := cap) (i := k) (n := NL.length) Tryz.underlying31 size_strS hlt
                    rw [Nat.zero_add] at hix
                    cases hq : named t
                    · have HE := hide (unhide HD7 (unhide HS0 hq))
                      rw [hq] at HNA
                      clear hq HS1 HS0
                      go_wp2_with fail
                      refine (unhide HNA).mono ?_
                      rintro e w2 ⟨rfl, hb2⟩
                      have HBZ := hide (bnext2 (unhide HX) (bnext2 (unhide HB2) hb2))
                      clear hb2
                      go_wp2_with fail
                      go_ret
                      exact ⟨by rw [unhide HE]; rfl, unhide HBZ⟩
                    · have HA := hide (unhide HS1 hq)
                      rw [hq] at HNA
                      clear hq HS1 HS0
                      go_wp2_with fail
                      refine (unhide HNA).mono ?_
                      rintro e w2 ⟨rfl, hb2⟩
                      have HO3 := hide (own_below (unhide HO2) hb2)
                      have HB3 := hide (bnext2 (unhide HB2) hb2)
                      clear hb2
                      go_wp2_with fail
                      exact ⟨⟨k + 1, by omega, by go_num, HA, HO3, HB3⟩, by simp [intOf]; omega⟩
                  · obtain rfl : k = NL.length := by omega
                    have HE := hide (unhide HD0 (by have h := unhide HT; rw [List.take_length] at h; exact h))
                    have HBZ := hide (bnext2 (unhide HX) (unhide HB2))
                    obtain ⟨c0, c1, c2, c3, c4, c5, c6, c7, c8, c9, c10, c11, c12, c13, c14, c15, c16, c17, c18, c19, c20, c21, c22, c23⟩ := cells24k (row_below (unhide HR2) (unhide HB2))
                    have hpm := (unhide HI).ps.max
                    have hlm := (unhide HI).ls.max
                    clear HT HD7 HD0 HTS HO HBY hk hge
                    by_cases h1 : 8 < S.ps.l.length
                    · have HE := hide ((unhide HE).trans (if_pos (.inl h1)))
                      have g1 : (8 : Int) < (S.ps.l.length : Int) := by omega
                      clear h1
                      go_wp2_with fail
                      go_ret
                      exact ⟨by rw [unhide HE]; rfl, unhide HBZ⟩
                    · have g1 : ¬ (8 : Int) < (S.ps.l.length : Int) := by omega
                      by_cases h2 : 8 < S.ls.l.length
                      · have HE := hide ((unhide HE).trans (if_pos (.inr h2)))
                        have g2 : (8 : Int) < (S.ls.l.length : Int) := by omega
                        clear h1 h2
                        go_wp2_with fail
                        go_ret
                        exact ⟨by rw [unhide HE]; rfl, unhide HBZ⟩
                      · have HE := hide ((unhide HE).trans (if_neg (fun h => h.elim h1 h2)))
                        have g2 : ¬ (8 : Int) < (S.ls.l.length : Int) := by omega
                        clear h1 h2
                        go_wp2_with fail
                        go_ret
                        exact ⟨by rw [unhide HE]; rfl, unhide HBZ⟩
          · replace HK := hide HK
            clear HKK
            as_aux_lemma =>
              have hk := unhide HK
              have HE : Hid (S.wrong = 1) := hide (by rw [unhide HE, SV.kndE, if_neg (by omega), if_neg (by omega), if_neg (by omega), if_neg (by omega), if_neg (by omega), if_neg (by omega), if_neg (by omega)])
              rcases hk with hk | hk
              · go_wp2_with fail
                go_ret
                exact ⟨by rw [unhide HE]; rfl, unhide HKR⟩
              · have hk2 : ¬ S.k < 1 := by omega
                go_wp2_with fail
                go_ret
                exact ⟨by rw [unhide HE]; rfl, unhide HKR⟩
        · have HE : Hid (S.wrong = 8) := hide (by rw [unhide HE0, if_pos rfl])
          clear HE0
          go_wp2_with fail
          go_ret
          exact ⟨by rw [unhide HE]; rfl, unhide HKR⟩
end Go.Proofs.YtpphjddljngkmaaGreatDoor
