/- The document's Check. -/
import Derived.Test.YtpphjddljngkmaaDoorRefChFP
import Derived.Test.YtpphjddljngkmaaDoorRefStAP
import Derived.Test.YtpphjddljngkmaaDoorCkU1M
namespace Go.Proofs.YtpphjddljngkmaaDoor
open Go.RowKit

/-- How large a program's patterns and lists of names may be. -/
def Sml (P : List SV) : Prop := ∀ (i : Nat) S, P[i]? = some S → S.pa.cnt ≤ 1048576 ∧ S.ps.l.length + S.ls.l.length ≤ 7000000000000
theorem wx_cnt {T : PT} (h : T.wrongX = 0) : T.cnt ≤ 4096 := by
  unfold PT.wrongX at h
  by_cases hf : T.fits = true
  · unfold PT.fits at hf
    rw [Bool.and_eq_true] at hf
    exact of_decide_eq_true hf.1
  · rw [if_neg hf] at h; omega
theorem tg_cnt {T : PT} (h : tgE T = 0) : T.cnt ≤ 4096 := by
  unfold tgE at h
  by_cases q : T.wrongX = 0
  · exact wx_cnt q
  · rw [if_pos q] at h; exact absurd h q
theorem wrong_cnt {S : SV} (h : S.wrong = 0) : ∀ x ∈ S.exR, x.cnt ≤ 4096 := by
  have hk : S.kndE = 0 := by
    unfold SV.wrong at h
    split at h
    · split at h
      · exact absurd h (by decide)
      · exact h
    · exact absurd h (by decide)
  unfold SV.kndE at hk
  intro x hx
  unfold SV.exR at hx
  by_cases h24 : S.k = 2 ∨ S.k = 4
  · rw [if_pos h24] at hx
    obtain rfl : x = S.va := by simpa using hx
    rcases h24 with e | e
    · rw [if_neg (by omega), if_pos e] at hk
      exact wx_cnt hk
    · rw [if_neg (by omega), if_neg (by omega), if_pos e] at hk
      exact wx_cnt (fst0_all hk _ (by simp))
  · rw [if_neg h24] at hx
    by_cases h35 : S.k = 3 ∨ S.k = 5
    · rw [if_pos h35] at hx
      have hq : tgE S.tg = 0 ∧ S.va.wrongX = 0 := by
        rcases h35 with e | e
        · rw [if_neg (by omega), if_neg (by omega), if_neg (by omega), if_pos e] at hk
          exact ⟨fst0_all hk _ (by simp), fst0_all hk _ (by simp)⟩
        · rw [if_neg (by omega), if_neg (by omega), if_neg (by omega), if_neg (by omega), if_pos e] at hk
          exact ⟨fst0_all hk _ (by simp), fst0_all hk _ (by simp)⟩
      rcases List.mem_cons.1 hx with rfl | hx
      · exact tg_cnt hq.1
      · obtain rfl : x = S.va := by simpa using hx
        exact wx_cnt hq.2
    · rw [if_neg h35] at hx; cases hx
theorem orE_zero {a b : Int × Int} (h : a = (0, 0)) : orE a b = b := by subst h; rfl
theorem orE_ne {a b : Int × Int} {x i : Int} (h : a = (x, i)) (hx : x ≠ 0) : orE a b = (x, i) := by subst h; exact if_neg hx
theorem fau_ret {wx : World} {z : Nat} (e i : Int) (hf : wx.heap[z]? = some (.cells #[.int .i64 0, .int .i64 0] 25 (0, 0))) :
    ((wx.setCell ⟨z, 0, none⟩ (.int .i64 e)).setCell ⟨z, 1, none⟩ (.int .i64 i)).heap[z]? = some (.cells #[.int .i64 e, .int .i64 i] 25 (0, 0)) := heap_setCell_same _ _ 1 _ _ _ (heap_setCell_same _ _ 0 _ _ _ hf)
theorem fau_cells {wx : World} {z : Nat} (hf : wx.heap[z]? = some (.cells #[.int .i64 0, .int .i64 0] 25 (0, 0))) :
    wx.cell? ⟨z, 0, none⟩ = some (.int .i64 0) ∧ wx.cell? ⟨z, 1, none⟩ = some (.int .i64 0) ∧ wx.frozen? ⟨z, 0, none⟩ = false ∧ wx.frozen? ⟨z, 1, none⟩ = false := ⟨cr hf, cr hf, frozen_of_row wx z 0 _ _ hf, frozen_of_row wx z 1 _ _ hf⟩
set_option maxRecDepth 100000 in
set_option maxHeartbeats 8000000 in
theorem refCheck_any (V : PV) (P : List SV) (w : World) (hp : PIn w V P) (hM : Sml P) :
    Calls Tryd.prog 5 #[V.v P.length] w fun e w' => e = .returned (.agg #[.int .i64 (chkR P).1, .int .i64 (chkR P).2]) ∧ Below w.heap.size w w' := by
  have HP0 := hide hp
  have hmx := hp.max
  unfold maxLen at hmx
  have hcap := hp.cap
  have HCR : Hid (chkR P = if 1000 < P.length then (5, 0) else orE (fstE wrE P 0) (orE (fstE (nmE' P) P 0) (fstE (usE' P) P 0))) := hide rfl
  have HM := hide hM
  clear hp hM
  generalize chkR P = R at *
  unfold PV.v
  obtain ⟨w1, hw1⟩ : ∃ w1, w1 = w.alloc (.cells #[.int .i64 0, .int .i64 0] 25) := ⟨_, rfl⟩
  have HB0 := hide (show Below w.heap.size w w1 by rw [hw1]; exact ba _)
  have HR0 := hide (show w1.heap[w.heap.size]? = some (.cells #[.int .i64 0, .int .i64 0] 25 (0, 0)) by rw [hw1]; exact at_new rfl)
  have HP := hide ((unhide HP0).later (unhide HB0))
  have HW1 := hide hw1
  clear HP0 hw1
  go_enter Tryd.func5, Tryd.ntmps5
  by_cases hl : 1000 < P.length
  · have HE := hide ((unhide HCR).trans (if_pos hl))
    have hl2 : (1000 : Int) < (P.length : Int) := by omega
    obtain ⟨g0, g1, r0, r1⟩ := fau_cells (unhide HR0)
    rw [unhide HW1] at g0 g1 r0 r1
    have HF3 := hide (show (w.alloc (.cells #[.int .i64 5, .int .i64 0] 25)).heap[w.heap.size]? = some (.cells #[.int .i64 5, .int .i64 0] 25 (0, 0)) from at_new rfl)
    have HBZ := hide (ba (w := w) (.cells #[.int .i64 5, .int .i64 0] 25))
    clear hl HCR
    go_wp2_with fail
    refine bodyPost_ret (results_cell_row (p := 2) (ty := 25) rfl _ _ w.heap.size 25 #[.int .i64 5, .int .i64 0] (0, 0) _ rfl (unhide HF3) Tryd.underlying25 rfl size_fau) rfl ?_
    exact ⟨by rw [unhide HE], unhide HBZ⟩
  have HCR := hide ((unhide HCR).trans (if_neg hl))
  have hll : ¬ (1000 : Int) < (P.length : Int) := by omega
  have hL1 : P.length ≤ 1000 := by omega
  go_wp2_with fail
  rw [← unhide HW1]
  go_loopw [16] (fun j wl => ∃ k : Nat, k ≤ P.length ∧ j = .int .i64 (k : Int) ∧ Hid (fstE wrE P 0 = fstE wrE (P.drop k) k) ∧ Hid (Below w1.heap.size w1 wl)) (fun j _ => P.length - (intOf j).toNat)
  case atStart => exact ⟨0, by omega, rfl, rfl, Below.refl _ _⟩
  case round =>
    obtain ⟨k, hk, rfl, HF, HB⟩ := hrel
    rcases Nat.lt_or_ge k P.length with hlt | hge
    · obtain ⟨S, hS⟩ : ∃ S, P[k]? = some S := ⟨P[k], List.getElem?_eq_getElem _⟩
      have hpm := (unhide HP).later (unhide HB)
      have hat := hpm.at_ (by omega)
      have HRG := hide (hpm.row k S hS).1
      have HSI := hide (hpm.row k S hS).2
      have hix := idx24 (g := V.gb) (o := V.ob) (cap := V.cap) (n := P.length) (i := k) hlt
      rw [← hat] at hix
      have HON := hide (SV.cells_one S)
      have hD24 : S.cells.toList.length = 24 := sv_size S
      have HBN := hide ((unhide HB).alloc (unhide HB).size (.cells S.cells.toList.toArray 49))
      have HFD := hide (fstE_drop (unhide HF) hS)
      have HST := hide (fun W (q : Below w1.heap.size w1 W) => refStmt_any S W (((unhide HP).later q).row k S hS).2 (unhide HM k S hS))
      unfold SV.v at HST
      obtain ⟨L, hL⟩ : ∃ L, L = S.cells.toList := ⟨_, rfl⟩
      have hLa : S.cells = L.toArray := by rw [hL]
      rw [← hL] at HRG hD24 HBN
      rw [hLa] at HON HST
      have hkk : (k : Int) < (P.length : Int) := by omega
      clear hpm hL hLa hS hat HF
      rw [show wrE k S = S.wrong from rfl] at HFD
      generalize S.wrong = x at *
      go_wp2_with (first
          | (refine wpList_load_mid rfl 49 _ rfl V.gb (V.ob + k * 24) rfl L _ (unhide HRG) Tryd.underlying49 rfl (size_stmt.trans (by rw [hD24])) ?_)
          | (refine wpList_store_row rfl 49 _ _ rfl wr.heap.size L.toArray rfl rfl 49 _ (at_new rfl) (size_stmt.trans (by rw [show L.toArray.size = 24 from List.size_toArray.trans hD24])) (by rw [show L.toArray.size = 24 from List.size_toArray.trans hD24]; rfl) (unhide HON) ?_; rw [World.setRow_alloc_new])
          | (refine wpList_load_row rfl 49 _ rfl wr.heap.size rfl 49 L.toArray (0, 0) _ (at_new rfl) Tryd.underlying49 rfl (size_stmt.trans (by rw [show L.toArray.size = 24 from List.size_toArray.trans hD24])) ?_)
          | fail)
      refine (unhide HST _ (unhide HBN)).mono ?_
      rintro e w2 ⟨rfl, hb2⟩
      have HB2 := hide (bnext2 (unhide HBN) hb2)
      clear hb2 HST
      by_cases hx : x = 0
      · have HN := hide ((unhide HFD).1 hx)
        have q0 : (x != 0) = false := by rw [hx]; rfl
        clear hx HFD
        go_wp2_with fail
        exact ⟨⟨k + 1, by omega, by go_num, HN, HB2⟩, by simp [intOf]; omega⟩
      · have q0 : (x != 0) = true := bne_iff_ne.2 hx
        have HE := hide ((unhide HCR).trans (orE_ne ((unhide HFD).2 hx) hx))
        have hf := row_below (unhide HR0) (unhide HB2)
        obtain ⟨g0, g1, r0, r1⟩ := fau_cells hf
        have HF3 := hide (fau_ret x (k : Int) hf)
        have HBZ := hide (below_cell (below_cell (bnext2 (unhide HB0) (unhide HB2)) (Nat.le_refl _) 0 (.int .i64 x)) (Nat.le_refl _) 1 (.int .i64 (k : Int)))
        clear hx HFD hf HCR
        go_wp2_with fail
        refine bodyPost_ret (results_cell_row (p := 2) (ty := 25) rfl _ _ w.heap.size 25 #[.int .i64 x, .int .i64 (k : Int)] (0, 0) _ rfl (unhide HF3) Tryd.underlying25 rfl size_fau) rfl ?_
        exact ⟨by rw [unhide HE], unhide HBZ⟩
    · obtain rfl : k = P.length := by omega
      have h0 : fstE wrE P 0 = (0, 0) := by rw [unhide HF, List.drop_length]; rfl
      have HWR := hide (show ∀ (i : Nat) S, P[i]? = some S → S.wrong = 0 from fun i S hS => by
        have := (fstE_zero P 0 (by rw [h0])).2 i S hS
        exact this)
      have HCR := hide ((unhide HCR).trans (orE_zero h0))
      have HP2 := hide ((unhide HP).later (unhide HB))
      have HB0 := hide (bnext2 (unhide HB0) (unhide HB))
      have HR0 := hide (row_below (unhide HR0) (unhide HB))
      clear HF h0 HP HB hge hk
      obtain ⟨w2, hw2⟩ : ∃ w2, w2 = wr := ⟨_, rfl⟩
      rw [← hw2] at HP2 HB0 HR0
      subst hw2
      go_wp2_with fail
      go_loopw [31] (fun j wl => ∃ k : Nat, k ≤ P.length ∧ j = .int .i64 (k : Int) ∧ Hid (fstE (nmE' P) P 0 = fstE (nmE' P) (P.drop k) k) ∧ Hid (Below w2.heap.size w2 wl)) (fun j _ => P.length - (intOf j).toNat)
      case atStart => exact ⟨0, by omega, rfl, rfl, Below.refl _ _⟩
      case round =>
        obtain ⟨k, hk, rfl, HF, HB⟩ := hrel
        rcases Nat.lt_or_ge k P.length with hlt | hge
        · obtain ⟨S, hS⟩ : ∃ S, P[k]? = some S := ⟨P[k], List.getElem?_eq_getElem _⟩
          have HFD := hide (fstE_drop (unhide HF) hS)
          have HNM := hide (refNamedB_any V P k S wr ((unhide HP2).later (unhide HB)) hS (unhide HM k S hS).2)
          unfold PV.v at HNM
          have hkk : (k : Int) < (P.length : Int) := by omega
          clear HF hS
          rw [show nmE' P k S = if namedB P k S = true then 0 else 7 from rfl] at HFD
          generalize namedB P k S = b at *
          go_wp2_with fail
          refine (unhide HNM).mono ?_
          rintro e w3 ⟨rfl, hb3⟩
          have HB3 := hide (bnext2 (unhide HB) hb3)
          clear hb3 HNM
          cases b
          · have HE := hide ((unhide HCR).trans (orE_ne ((unhide HFD).2 (by decide)) (by decide)))
            have hf := row_below (unhide HR0) (unhide HB3)
            obtain ⟨g0, g1, r0, r1⟩ := fau_cells hf
            have HF3 := hide (fau_ret 7 (k : Int) hf)
            have HBZ := hide (below_cell (below_cell (bnext2 (unhide HB0) (unhide HB3)) (Nat.le_refl _) 0 (.int .i64 7)) (Nat.le_refl _) 1 (.int .i64 (k : Int)))
            clear HFD hf HCR
            go_wp2_with fail
            refine bodyPost_ret (results_cell_row (p := 2) (ty := 25) rfl _ _ w.heap.size 25 #[.int .i64 7, .int .i64 (k : Int)] (0, 0) _ rfl (unhide HF3) Tryd.underlying25 rfl size_fau) rfl ?_
            exact ⟨by rw [unhide HE]; rfl, unhide HBZ⟩
          · have HN := hide ((unhide HFD).1 (by decide))
            clear HFD
            go_wp2_with fail
            exact ⟨⟨k + 1, by omega, by go_num, HN, HB3⟩, by simp [intOf]; omega⟩
        · obtain rfl : k = P.length := by omega
          have h0 : fstE (nmE' P) P 0 = (0, 0) := by rw [unhide HF, List.drop_length]; rfl
          have HCR := hide ((unhide HCR).trans (orE_zero h0))
          have HP := hide ((unhide HP2).later (unhide HB))
          have HB0 := hide (bnext2 (unhide HB0) (unhide HB))
          have HR0 := hide (row_below (unhide HR0) (unhide HB))
          clear HF h0 HP2 HB hge hk
          obtain ⟨w1, hw1⟩ : ∃ w1, w1 = wr := ⟨_, rfl⟩
          rw [← hw1] at HP HB0 HR0
          subst hw1
          go_wp2_with fail
          go_loopw [43] (fun j wl => ∃ k : Nat, k ≤ P.length ∧ j = .int .i64 (k : Int) ∧ Hid (fstE (usE' P) P 0 = fstE (usE' P) (P.drop k) k) ∧ Hid (Below w1.heap.size w1 wl)) (fun j _ => P.length - (intOf j).toNat)
          case atStart => exact ⟨0, by omega, rfl, rfl, Below.refl _ _⟩
          case round =>
            obtain ⟨k, hk, rfl, HF, HB⟩ := hrel
            rcases Nat.lt_or_ge k P.length with hlt | hge
            · obtain ⟨S, hS⟩ : ∃ S, P[k]? = some S := ⟨P[k], List.getElem?_eq_getElem _⟩
              have hpm := (unhide HP).later (unhide HB)
              have hat := hpm.at_ (by omega)
              have HRG := hide (hpm.row k S hS).1
              have HSI := hide (hpm.row k S hS).2
              have hix := idx24 (g := V.gb) (o := V.ob) (cap := V.cap) (n := P.length) (i := k) hlt
              rw [← hat] at hix
              have HON := hide (SV.cells_one S)
              have hD24 : S.cells.toList.length = 24 := sv_size S
              have HBN := hide ((unhide HB).alloc (unhide HB).size (.cells S.cells.toList.toArray 49))
              have HFD := hide (fstE_drop (unhide HF) hS)
              have HST := hide (fun W (q : Below w1.heap.size w1 W) => refUses_any V P S W ((unhide HP).later q) (((unhide HP).later q).row k S hS).2 (wrong_cnt (unhide HWR k S hS)) hL1)
              unfold SV.v PV.v at HST
              obtain ⟨L, hL⟩ : ∃ L, L = S.cells.toList := ⟨_, rfl⟩
              have hLa : S.cells = L.toArray := by rw [hL]
              rw [← hL] at HRG hD24 HBN
              rw [hLa] at HON HST
              have hkk : (k : Int) < (P.length : Int) := by omega
              clear hpm hL hLa hS hat HF
              rw [show usE' P k S = usE P S from rfl] at HFD
              generalize usE P S = x at *
              go_wp2_with (first
          | (refine wpList_load_mid rfl 49 _ rfl V.gb (V.ob + k * 24) rfl L _ (unhide HRG) Tryd.underlying49 rfl (size_stmt.trans (by rw [hD24])) ?_)
          | (refine wpList_store_row rfl 49 _ _ rfl wr.heap.size L.toArray rfl rfl 49 _ (at_new rfl) (size_stmt.trans (by rw [show L.toArray.size = 24 from List.size_toArray.trans hD24])) (by rw [show L.toArray.size = 24 from List.size_toArray.trans hD24]; rfl) (unhide HON) ?_; rw [World.setRow_alloc_new])
          | (refine wpList_load_row rfl 49 _ rfl wr.heap.size rfl 49 L.toArray (0, 0) _ (at_new rfl) Tryd.underlying49 rfl (size_stmt.trans (by rw [show L.toArray.size = 24 from List.size_toArray.trans hD24])) ?_)
          | fail)
              refine (unhide HST _ (unhide HBN)).mono ?_
              rintro e w2 ⟨rfl, hb2⟩
              have HB2 := hide (bnext2 (unhide HBN) hb2)
              clear hb2 HST
              by_cases hx : x = 0
              · have HN := hide ((unhide HFD).1 hx)
                have q0 : (x != 0) = false := by rw [hx]; rfl
                clear hx HFD
                go_wp2_with fail
                exact ⟨⟨k + 1, by omega, by go_num, HN, HB2⟩, by simp [intOf]; omega⟩
              · have q0 : (x != 0) = true := bne_iff_ne.2 hx
                have HE := hide ((unhide HCR).trans ((unhide HFD).2 hx))
                have hf := row_below (unhide HR0) (unhide HB2)
                obtain ⟨g0, g1, r0, r1⟩ := fau_cells hf
                have HF3 := hide (fau_ret x (k : Int) hf)
                have HBZ := hide (below_cell (below_cell (bnext2 (unhide HB0) (unhide HB2)) (Nat.le_refl _) 0 (.int .i64 x)) (Nat.le_refl _) 1 (.int .i64 (k : Int)))
                clear hx HFD hf HCR
                go_wp2_with fail
                refine bodyPost_ret (results_cell_row (p := 2) (ty := 25) rfl _ _ w.heap.size 25 #[.int .i64 x, .int .i64 (k : Int)] (0, 0) _ rfl (unhide HF3) Tryd.underlying25 rfl size_fau) rfl ?_
                exact ⟨by rw [unhide HE], unhide HBZ⟩
            · obtain rfl : k = P.length := by omega
              have h0 : fstE (usE' P) P 0 = (0, 0) := by rw [unhide HF, List.drop_length]; rfl
              have HE := hide ((unhide HCR).trans h0)
              have hf := row_below (unhide HR0) (unhide HB)
              obtain ⟨g0, g1, r0, r1⟩ := fau_cells hf
              have HF3 := hide (fau_ret 0 0 hf)
              have HBZ := hide (below_cell (below_cell (bnext2 (unhide HB0) (unhide HB)) (Nat.le_refl _) 0 (.int .i64 0)) (Nat.le_refl _) 1 (.int .i64 0))
              clear h0 hf HCR HF
              go_wp2_with fail
              refine bodyPost_ret (results_cell_row (p := 2) (ty := 25) rfl _ _ w.heap.size 25 #[.int .i64 0, .int .i64 0] (0, 0) _ rfl (unhide HF3) Tryd.underlying25 rfl size_fau) rfl ?_
              exact ⟨by rw [unhide HE], unhide HBZ⟩
end Go.Proofs.YtpphjddljngkmaaDoor
