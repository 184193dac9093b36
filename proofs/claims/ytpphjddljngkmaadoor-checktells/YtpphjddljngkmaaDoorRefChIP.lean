/- The document's Reached. -/
import Derived.Test.YtpphjddljngkmaaDoorRefChHP
import Derived.Test.YtpphjddljngkmaaDoorRefChPP
namespace Go.Proofs.YtpphjddljngkmaaDoor
open Go.RowKit

set_option maxRecDepth 100000 in
set_option maxHeartbeats 16000000 in
theorem refReached_any (V : PV) (P : List SV) (w : World) (hp : PIn w V P) (hM : Sml P) :
    Calls Tryd.prog 9 #[V.v P.length] w (RPost w P) := by
  have HP := hide hp
  have hmx := hp.max
  unfold maxLen at hmx
  have hcap := hp.cap
  have HM := hide hM
  obtain ⟨w1, hw1⟩ : ∃ w1, w1 = w.alloc (.cells #[.int .i64 0, .int .i64 0] 25) := ⟨_, rfl⟩
  have HB1 := hide (show Below w.heap.size w w1 by rw [hw1]; exact ba _)
  have HR1 := hide (show w1.heap[w.heap.size]? = some (.cells #[.int .i64 0, .int .i64 0] 25 (0, 0)) by rw [hw1]; exact at_new rfl)
  have HCK := hide (refCheck_any V P w1 (hp.later (unhide HB1)) hM)
  have HW1 := hide hw1
  have HOK := hide (fun q => chk_ok (P := P) q)
  unfold PV.v at HCK ⊢
  unfold RPost
  clear hp hM hw1
  generalize hR : chkR P = R at *
  obtain ⟨er, at2⟩ := R
  clear hR
  go_enter Tryd.func9, Tryd.ntmps9
  go_wp2_with fail
  rw [← unhide HW1]
  refine (unhide HCK).mono ?_
  rintro e w2 ⟨rfl, hb2⟩
  have HB2 := hide (bnext2 (unhide HB1) hb2)
  have HR2 := hide (row_below (unhide HR1) hb2)
  clear hb2 HCK HW1 HB1 HR1
  obtain ⟨w3, hw3⟩ : ∃ w3, w3 = w2.alloc (.cells #[.int .i64 er, .int .i64 at2] 25) := ⟨_, rfl⟩
  have HB3 := hide (show Below w.heap.size w w3 by rw [hw3]; exact (unhide HB2).alloc (unhide HB2).size _)
  have HR3 := hide (show w3.heap[w.heap.size]? = some (.cells #[.int .i64 0, .int .i64 0] 25 (0, 0)) by rw [hw3]; exact row_below (unhide HR2) (ba _))
  have HX3 := hide (show w3.heap[w2.heap.size]? = some (.cells #[.int .i64 er, .int .i64 at2] 25 (0, 0)) by rw [hw3]; exact at_new rfl)
  have hwz : w.heap.size < w2.heap.size := (Array.getElem?_eq_some_iff.1 (unhide HR2)).1
  go_upto_region 2 with fail
  rw [← hw3]
  clear hw3 HB2 HR2
  by_cases he : er = 0
  case neg =>
    have q0 : (er != 0) = true := bne_iff_ne.2 he
    have HE := hide he
    have c0 : w3.cell? ⟨w2.heap.size, 0, none⟩ = some (.int .i64 er) := cr (unhide HX3)
    have c1 : w3.cell? ⟨w2.heap.size, 1, none⟩ = some (.int .i64 at2) := cr (unhide HX3)
    obtain ⟨g0, g1, r0, r1⟩ := fau_cells (unhide HR3)
    have HF3 := hide (fau_ret er at2 (unhide HR3))
    have HBZ := hide (below_cell (below_cell (unhide HB3) (Nat.le_refl _) 0 (.int .i64 er)) (Nat.le_refl _) 1 (.int .i64 at2))
    have hwn : ¬ w.heap.size = w2.heap.size := by omega
    have hwm : ¬ w2.heap.size = w.heap.size := by omega
    clear he HR3 HB3 HX3
    go_wp2_with fail
    go_region
    go_wp2_with fail
    refine bodyPost_ret (res_reachR _ _ w.heap.size #[.int .i64 er, .int .i64 at2] rfl (unhide HF3) rfl) rfl ?_
    exact ⟨.inl ⟨unhide HE, rfl⟩, (unhide HBZ).drew⟩
  case pos =>
  have HC := hide (unhide HOK he)
  have c0 : w3.cell? ⟨w2.heap.size, 0, none⟩ = some (.int .i64 er) := cr (unhide HX3)
  have q0 : (er != 0) = false := by rw [he]; rfl
  have HE := hide he
  have hmk := fun W => make_bools P.length (by have := (unhide HC).len; omega) W
  have hpl := (unhide HC).len
  clear he HX3 HOK
  go_upto_region 5 with fail
  obtain ⟨rb, hrb⟩ : ∃ rb, rb = w3.heap.size := ⟨_, rfl⟩
  obtain ⟨w4, hw4⟩ : ∃ w4, w4 = w3.alloc (.cells (bV (List.replicate P.length false)) 4) := ⟨_, rfl⟩
  have HB4 := hide (show Below w.heap.size w w4 by rw [hw4]; exact (unhide HB3).alloc (unhide HB3).size _)
  have HR4 := hide (show w4.heap[w.heap.size]? = some (.cells #[.int .i64 0, .int .i64 0] 25 (0, 0)) by rw [hw4]; exact row_below (unhide HR3) (ba _))
  have HO4 := hide (show w4.heap[rb]? = some (.cells (bV (List.replicate P.length false)) 4 (0, 0)) by rw [hw4, hrb]; exact at_new rfl)
  have hrw : w.heap.size ≤ rb := by rw [hrb]; exact (unhide HB3).size
  rw [← hw4, ← hrb]
  clear hrb hw4 HB3 HR3 hmk c0
  go_upto_if 27 with fail
  go_cut [] from 25 to 29 (fun wx => ∃ o, Hid (Rin w rb P wx o))
  case first =>
    rcases Nat.eq_zero_or_pos P.length with h0 | h0
    · have hn : ¬ (0 : Int) < (P.length : Int) := by omega
      have HZ := hide (RI.nil P h0)
      clear h0
      go_wp2_with fail
      go_meet
      case rel => exact ⟨_, hide ⟨unhide HO4, unhide HR4, unhide HB4, unhide HZ⟩⟩
    · have hn : (0 : Int) < (P.length : Int) := by omega
      have HZ := hide (RI.start P h0)
      have hix := sl_idx (g := rb) (o := 0) (cap := P.length) (i := 0) (n := P.length) Tryd.underlying28 size_boolS h0
      rw [Nat.zero_add] at hix
      have cr0 := bool_cell (unhide HO4) (x := 0) (b := false) (by rw [List.getElem?_replicate, if_pos h0])
      have fr0 := frozen_of_row w4 rb 0 _ _ (unhide HO4)
      have HN := hide (show Rin w rb P (w4.setCell ⟨rb, 0, none⟩ (.bool true)) _ from ⟨bool_set (unhide HO4), (heap_setCell_other w4 ⟨rb, 0, none⟩ w.heap.size _ (fun q => row_ne (unhide HR4) (unhide HO4) (by decide) q)).trans (unhide HR4), below_cell (unhide HB4) hrw 0 _, unhide HZ⟩)
      clear h0 HO4
      go_wp2_with fail
      go_meet
      case rel => exact ⟨_, HN⟩
  case rest =>
  obtain ⟨o1, HN1⟩ := hcut
  clear HO4 HR4 HB4
  go_wp2_with fail
  go_loopw [6] (fun b wl => ∃ (bb : Bool) (o : List Bool), b = .bool bb ∧ Hid (Rin w rb P wl o) ∧ Hid (bb = false → ∀ (i : Nat) S, P[i]? = some S → stepR P i S o = o)) (fun b wl => 2 * falsV wl rb + (match b with | .bool true => 1 | _ => 0))
  case atStart => exact ⟨true, o1, rfl, HN1, fun q => by cases q⟩
  case round =>
    obtain ⟨bb, o, rfl, HN, HF⟩ := hrel
    have HFA := hide (falsV_eq (unhide HN).row)
    cases bb
    case false =>
      have HQ := hide (show RchR P o from ⟨(unhide HN).ri.len, (unhide HN).ri.zero, (unhide HN).ri.und, (unhide HF) rfl⟩)
      obtain ⟨g0, g1, r0, r1⟩ := fau_cells (unhide HN).fau
      have HF3 := hide (fau_ret 0 0 (unhide HN).fau)
      have HBZ := hide (below_cell (below_cell (unhide HN).below (Nat.le_refl _) 0 (.int .i64 0)) (Nat.le_refl _) 1 (.int .i64 0))
      have HRB := hide (show ((wr.setCell ⟨w.heap.size, 0, none⟩ (.int .i64 0)).setCell ⟨w.heap.size, 1, none⟩ (.int .i64 0)).heap[rb]? = some (.cells (bV o) 4 (0, 0)) from (heap_setCell_other _ ⟨w.heap.size, 1, none⟩ rb _ (unhide HN).ne).trans ((heap_setCell_other _ ⟨w.heap.size, 0, none⟩ rb _ (unhide HN).ne).trans (unhide HN).row))
      clear HF HFA
      go_wp2_with fail
      refine bodyPost_ret (res_reachR _ _ w.heap.size #[.int .i64 0, .int .i64 0] rfl (unhide HF3) rfl) rfl ?_
      exact ⟨.inr ⟨unhide HE, rb, o, unhide HQ, rfl, unhide HRB, hrw⟩, unhide HBZ⟩
    case true =>
      clear HF
      have HSW := hide (show Sw P o o false from ⟨(unhide HN).ri.len, fun _ => rfl, fun q => by cases q⟩)
      go_wp2_with fail
      go_loopw [6, 33] (fun b i wl => ∃ (bb : Bool) (k : Nat) (p : List Bool), b = .bool bb ∧ k ≤ P.length ∧ i = .int .i64 (k : Int) ∧ Hid (Rin w rb P wl p) ∧ Hid (Sw P o p bb) ∧ Hid (bb = false → ∀ (j : Nat) S, j < k → P[j]? = some S → stepR P j S o = o)) (fun _ i _ => P.length - (intOf i).toNat)
      case atStart => exact ⟨false, 0, o, rfl, by omega, rfl, HN, HSW, fun _ j S hj => by omega⟩
      case round =>
        obtain ⟨bb, k, p, rfl, hk, rfl, HNP, HSP, HD⟩ := hrel
        rcases Nat.lt_or_ge k P.length with hlt | hge
        · obtain ⟨S, hS⟩ : ∃ S, P[k]? = some S := ⟨P[k], List.getElem?_eq_getElem _⟩
          have hpm := (unhide HP).later (unhide HNP).below
          have hat := hpm.at_ (by omega)
          have HRG := hide (hpm.row k S hS).1
          have hix := idx24 (g := V.gb) (o := V.ob) (cap := V.cap) (n := P.length) (i := k) hlt
          rw [← hat] at hix
          have HON := hide (SV.cells_one S)
          have hD24 : S.cells.toList.length = 24 := sv_size S
          obtain ⟨pk, hpk⟩ : ∃ b, p[k]? = some b := ⟨p[k]'(by rw [(unhide HNP).ri.len]; exact hlt), List.getElem?_eq_getElem _⟩
          have hib := sl_idx (g := rb) (o := 0) (cap := P.length) (i := k) (n := P.length) Tryd.underlying28 size_boolS hlt
          rw [Nat.zero_add] at hib
          have HCC := hide (show S.cells.toList[1]? = some (.int .i64 S.k) ∧ S.cells.toList[21]? = some (.string S.al) ∧ S.cells.toList[22]? = some (.string S.ye) ∧ S.cells.toList[23]? = some (.string S.no) from ⟨rfl, rfl, rfl, rfl⟩)
          have HEX := hide (fun W => refExprs_any S W)
          unfold SV.v at HEX
          obtain ⟨L, hL⟩ : ∃ L, L = S.cells.toList := ⟨_, rfl⟩
          have hLa : S.cells = L.toArray := by rw [hL]
          rw [← hL] at HRG hD24 HCC
          rw [hLa] at HON HEX
          have hkk : (k : Int) < (P.length : Int) := by omega
          obtain ⟨w0, hw0⟩ : ∃ w0, w0 = wr.alloc (.cells L.toArray 49) := ⟨_, rfl⟩
          have HNZ := hide (show Rin w rb P w0 p by rw [hw0]; exact (unhide HNP).later (ba _))
          have HR0 := hide (show w0.heap[wr.heap.size]? = some (.cells L.toArray 49 (0, 0)) by rw [hw0]; exact at_new rfl)
          have cb := bool_cell (unhide HNZ).row hpk
          have HPK := hide hpk
          have HS := hide hS
          clear hpm hL hLa hS hat hpk
          go_upto_region 13 with (first
            | (refine wpList_load_mid rfl 49 _ rfl V.gb (V.ob + k * 24) rfl L _ (unhide HRG) Tryd.underlying49 rfl (size_stmt.trans (by rw [hD24])) ?_)
            | (refine wpList_store_row rfl 49 _ _ rfl wr.heap.size L.toArray rfl rfl 49 _ (at_new rfl) (size_stmt.trans (by rw [show L.toArray.size = 24 from List.size_toArray.trans hD24])) (by rw [show L.toArray.size = 24 from List.size_toArray.trans hD24]; rfl) (unhide HON) ?_; rw [World.setRow_alloc_new])
            | fail)
          rw [← hw0]
          clear hw0
          simp only [Act.put]
          cases pk
          case false =>
            have HD2 := hide (show bb = false → ∀ (j : Nat) S, j < k + 1 → P[j]? = some S → stepR P j S o = o from fun q j S' hj hS' => by
              rcases Nat.lt_or_ge j k with hjk | hjk
              · exact unhide HD q j S' hjk hS'
              · obtain rfl : j = k := by omega
                have := unhide HPK
                rw [(unhide HSP).no q] at this
                unfold stepR
                rw [this, if_neg (by simp)])
            clear HD
            go_wp2_with fail
            exact ⟨⟨bb, k + 1, p, rfl, by omega, by go_num, HNZ, HSP, HD2⟩, by simp [intOf]; omega⟩
          case true =>
          have HCL := hide (fun W (q : Below w0.heap.size w0 W) => show W.cell? ⟨wr.heap.size, 1, none⟩ = some (.int .i64 S.k) ∧ W.cell? ⟨wr.heap.size, 21, none⟩ = some (.string S.al) ∧ W.cell? ⟨wr.heap.size, 22, none⟩ = some (.string S.ye) ∧ W.cell? ⟨wr.heap.size, 23, none⟩ = some (.string S.no) from by
            have hr := row_below (unhide HR0) q
            rw [cell_of_row _ _ _ _ _ _ hr, cell_of_row _ _ _ _ _ _ hr, cell_of_row _ _ _ _ _ _ hr, cell_of_row _ _ _ _ _ _ hr, List.getElem?_toArray, List.getElem?_toArray, List.getElem?_toArray, List.getElem?_toArray]
            exact unhide HCC)
          have HAF := hide (fun n W (h : Below w0.heap.size w0 W) => aft_any V P k n W (((unhide HP).later (unhide HNZ).below).later h) (by omega))
          unfold PV.v at HAF
          have HT0 := hide (To.start w0)
          have HGO : Hid (goR P k S = if S.al.toList.isEmpty = false then [aftR P k S.al] else [aftR P k S.ye] ++ (if canF S.k = true then [aftR P k S.no] else [])) := hide rfl
          obtain ⟨c1, c21, c22, c23⟩ := unhide HCL w0 (Below.refl _ _)
          go_upto_if 45 with fail
          go_cut [9] from 43 to 82 (fun s9 wx => Hid (To w0 wx s9 (goR P k S)))
          case first =>
            clear HD HRG HON HNP HSP HEX
            generalize goR P k S = gg at *
            cases hal : S.al.toList.isEmpty
            case false =>
              have HG := hide ((unhide HGO).trans (if_pos hal))
              go_wp2_with fail
              refine (unhide HAF S.al _ (Below.refl _ _)).mono ?_
              rintro e x1 ⟨rfl, hb⟩
              have HA := hide (((unhide HT0).later hb).later (ba (.cells #[.int .i64 (aftR P k S.al)] 3)))
              clear hb
              generalize aftR P k S.al = a1 at *
              go_wp2_with (first
                | (at_builtin; refine wpList_to rfl _ _ rfl rfl (unhide HA) _ _ rfl (cr (at_new rfl)) (by first | exact Nat.zero_le _ | simp) ?_; intro v6 w6 hA6 hK6; have HA6 := hide hA6; clear hA6 hK6)
                | fail)
              go_meet
              case rel => rw [unhide HG]; exact HA6
            case true =>
              have HG := hide ((unhide HGO).trans (if_neg (by rw [hal]; decide)))
              go_wp2_with fail
              refine (unhide HAF S.ye _ (Below.refl _ _)).mono ?_
              rintro e x1 ⟨rfl, hb⟩
              have HA := hide (((unhide HT0).later hb).later (ba (.cells #[.int .i64 (aftR P k S.ye)] 3)))
              clear hb
              generalize aftR P k S.ye = a1 at *
              go_upto_region 18 with (first
                | (at_builtin; refine wpList_to rfl _ _ rfl rfl (unhide HA) _ _ rfl (cr (at_new rfl)) (by first | exact Nat.zero_le _ | simp) ?_; intro v6 w6 hA6 hK6; have HA6 := hide hA6; clear hA6 hK6)
                | fail)
              clear c1 c21 c22 c23
              obtain ⟨c1, c21, c22, c23⟩ := unhide HCL w6 (unhide HA6).below
              have hcf : canF S.k = ((S.k != 1) && (S.k != 6) && (S.k != 7)) := by
                unfold canF
                rw [bne_dec, bne_dec, bne_dec]
              cases k1 : (S.k != 1)
              case false =>
                have HG := hide ((unhide HG).trans (show _ = [] ++ [a1] by rw [hcf, k1]; rfl))
                clear hcf
                go_wp2_with fail
                go_meet
                case rel => rw [unhide HG]; exact HA6
              case true =>
              cases k6 : (S.k != 6)
              case false =>
                have HG := hide ((unhide HG).trans (show _ = [] ++ [a1] by rw [hcf, k1, k6]; rfl))
                clear hcf
                go_wp2_with fail
                go_meet
                case rel => rw [unhide HG]; exact HA6
              case true =>
              cases k7 : (S.k != 7)
              case false =>
                have HG := hide ((unhide HG).trans (show _ = [] ++ [a1] by rw [hcf, k1, k6, k7]; rfl))
                clear hcf
                go_wp2_with fail
                go_meet
                case rel => rw [unhide HG]; exact HA6
              case true =>
                have HG := hide ((unhide HG).trans (show _ = [] ++ [a1] ++ [aftR P k S.no] by rw [hcf, k1, k6, k7]; rfl))
                clear hcf
                go_wp2_with fail
                refine (unhide HAF S.no _ (unhide HA6).below).mono ?_
                rintro e x2 ⟨rfl, hb⟩
                have HA := hide (((unhide HA6).later hb).later (ba (.cells #[.int .i64 (aftR P k S.no)] 3)))
                clear hb HA6
                generalize aftR P k S.no = a2 at *
                go_wp2_with (first
                | (at_builtin; refine wpList_to rfl _ _ rfl rfl (unhide HA) _ _ rfl (cr (at_new rfl)) (by first | exact Nat.zero_le _ | simp) ?_; intro v6 w6 hA6 hK6; have HA6 := hide hA6; clear hA6 hK6)
                | fail)
                go_meet
                case rel => rw [unhide HG]; exact HA6
          case rest =>
          have HA := hcut
          clear hcut c1 c21 c22 c23 HT0 HGO HAF HCL HCC
          have HGL := hide (go_len P k S)
          have HTR : Hid (toR P k S = goR P k S ++ S.exR.flatMap fun x => x.all.flatMap (entR P)) := hide rfl
          have HXL := hide (exR_len S)
          have HCE := hide (us_calE ((unhide HC).us k S (unhide HS)))
          have HXI := hide (show ∀ x ∈ S.exR, x.cnt ≤ 4096 ∧ ∀ W, Below w.heap.size w W → x.In W from fun x hx => ⟨wrong_cnt ((unhide HC).wr k S (unhide HS)) x hx, fun W q => exR_in (((unhide HP).later q).row k S (unhide HS)).2 x hx⟩)
          have HR5 := hide (row_below (unhide HR0) (unhide HA).below)
          generalize goR P k S = gg at *
          generalize S.exR = XL at *
          go_wp2_with (first
            | (refine wpList_load_row rfl 49 _ rfl _ rfl 49 L.toArray (0, 0) _ (unhide HR5) Tryd.underlying49 rfl (size_stmt.trans (by rw [show L.toArray.size = 24 from List.size_toArray.trans hD24])) ?_)
            | fail)
          refine (unhide HEX _).mono ?_
          rintro e x1 ⟨vx, rfl, ho, hb⟩
          obtain ⟨xa, xcap, rfl⟩ := own_slice ho
          obtain ⟨hnc, hmx2⟩ := own_capX ho
          unfold maxLen at hmx2
          have HO := hide ho
          have HA1 := hide ((unhide HA).later hb)
          clear ho hb HR5 HEX HA
          obtain ⟨n, hn⟩ : ∃ n, n = XL.length := ⟨_, rfl⟩
          rw [← hn] at HO hnc HXL
          rw [← hn]
          have HNN := hide hn
          have hn2 := unhide HXL
          clear hn
          go_wp2_with fail
          go_loopw [9, 86] (fun v i wl => ∃ m : Nat, m ≤ n ∧ i = .int .i64 (m : Int) ∧ Hid (To w0 wl v (gg ++ (XL.take m).flatMap fun x => x.all.flatMap (entR P))) ∧ Hid (KX x1 wl)) (fun _ i _ => n - (intOf i).toNat)
          case atStart => exact ⟨0, by omega, rfl, by rw [List.take_zero, List.flatMap_nil, List.append_nil]; exact HA1, KX.refl _⟩
          case round =>
            obtain ⟨m, hm, rfl, HTO, HKX⟩ := hrel
            rcases Nat.lt_or_ge m n with hmt | hmg
            · obtain ⟨X, hX⟩ : ∃ X, XL[m]? = some X := ⟨XL[m]'(by have := unhide HNN; omega), List.getElem?_eq_getElem _⟩
              have hkl : m < XL.length := (List.getElem?_eq_some_iff.1 hX).1
              have hXe : XL[m]'hkl = X := (List.getElem?_eq_some_iff.1 hX).2
              obtain ⟨g, rfl⟩ := own_some (unhide HO) (by omega)
              obtain ⟨k0, k1, k2, k3, k4⟩ := own_atX (L := XL) (by rw [← unhide HNN]; exact own_kt (unhide HO) (unhide HKX)) m hkl
              rw [hXe] at k0 k1 k2 k3 k4
              have hia := entX_at g n xcap m hmt
              have hXI := unhide HXI X (List.mem_of_getElem? hX)
              have hX4 := hXI.1
              have HXB := hide ((unhide HTO).later (ba (.cells #[.int .i64 X.k, .string X.t, .int .i64 X.n, .string X.nm, .slice X.xa X.len X.cap] 43)))
              have HAL := hide (allX_any X _ (hXI.2 _ ((unhide HNZ).below.trans ((unhide HXB).below.mono (unhide HNZ).below.size))) (by omega))
              have HCX := hide (unhide HCE X (List.mem_of_getElem? hX))
              have HNX := hide (show gg ++ (XL.take (m + 1)).flatMap (fun x => x.all.flatMap (entR P)) = (gg ++ (XL.take m).flatMap fun x => x.all.flatMap (entR P)) ++ X.all.flatMap (entR P) by rw [flat_succ hX, List.append_assoc])
              have HPL := hide (show (gg ++ (XL.take m).flatMap fun x => x.all.flatMap (entR P)).length ≤ 10000 by
                have h1 := exs_len P (XL.take m) fun x hx => (unhide HXI x (List.mem_of_mem_take hx)).1
                have h2 := unhide HGL
                rw [List.length_append]
                rw [List.length_take] at h1
                omega)
              have hmm : (m : Int) < (n : Int) := by omega
              clear hX hXe hXI hkl
              generalize gg ++ (XL.take m).flatMap (fun x => x.all.flatMap (entR P)) = pre at *
              go_wp2_with fail
              refine (unhide HAL).mono ?_
              rintro e x2 ⟨v2, rfl, ho2, hb2⟩
              obtain ⟨g2, cap2, rfl, -, -⟩ := ho2.form X.cnt_pos
              obtain ⟨hc2, hm2⟩ := own_capX ho2
              unfold maxLen at hm2
              have HO2 := hide ho2
              have HT2 := hide ((unhide HXB).later hb2)
              have HK2 := hide ((unhide HKX).trans ((KX.below (ba (.cells #[.int .i64 X.k, .string X.t, .int .i64 X.n, .string X.nm, .slice X.xa X.len X.cap] 43))).trans (KX.below hb2)))
              clear ho2 hb2 k0 k1 k2 k3 k4 HAL HXB HTO HKX
              have HLN := hide X.all_length
              obtain ⟨q, hq⟩ : ∃ q, q = X.cnt := ⟨_, rfl⟩
              rw [← hq] at HO2 hc2 HLN hX4
              rw [← hq]
              clear hq
              generalize X.all = YL at *
              go_wp2_with fail
              go_loopw [9, 93] (fun v i wl => ∃ j : Nat, j ≤ q ∧ i = .int .i64 (j : Int) ∧ Hid (To w0 wl v (pre ++ (YL.take j).flatMap (entR P))) ∧ Hid (KX x2 wl)) (fun _ i _ => q - (intOf i).toNat)
              case atStart => exact ⟨0, by omega, rfl, by rw [List.take_zero, List.flatMap_nil, List.append_nil]; exact HT2, KX.refl _⟩
              case round =>
                obtain ⟨j, hj, rfl, HTJ, HKJ⟩ := hrel
                rcases Nat.lt_or_ge j q with hjt | hjg
                · obtain ⟨Y, hY⟩ : ∃ Y, YL[j]? = some Y := ⟨YL[j]'(by have := unhide HLN; omega), List.getElem?_eq_getElem _⟩
                  have hjl : j < YL.length := (List.getElem?_eq_some_iff.1 hY).1
                  have hYe : YL[j]'hjl = Y := (List.getElem?_eq_some_iff.1 hY).2
                  obtain ⟨k0, k1, k2, k3, k4⟩ := own_atX (L := YL) (by rw [unhide HLN]; exact own_kt (unhide HO2) (unhide HKJ)) j hjl
                  rw [hYe] at k0 k1 k2 k3 k4
                  have hic := entX_at g2 q cap2 j hjt
                  have hCY := unhide HCX Y (List.mem_of_getElem? hY)
                  have HNY := hide (show pre ++ (YL.take (j + 1)).flatMap (entR P) = (pre ++ (YL.take j).flatMap (entR P)) ++ entR P Y by rw [flat_succ hY, List.append_assoc])
                  have HPL2 := hide (show (pre ++ (YL.take j).flatMap (entR P)).length ≤ 20000 by
                    have h1 := ents_len P (YL.take j)
                    have h2 := unhide HPL
                    rw [List.length_append]
                    rw [List.length_take] at h1
                    omega)
                  have hjj : (j : Int) < (q : Int) := by omega
                  clear hY hYe hjl
                  generalize pre ++ (YL.take j).flatMap (entR P) = pj at *
                  obtain ⟨wy, hwy⟩ : ∃ wy, wy = wr.alloc (.cells #[.int .i64 Y.k, .string Y.t, .int .i64 Y.n, .string Y.nm, .slice Y.xa Y.len Y.cap] 43) := ⟨_, rfl⟩
                  have hby : Below wr.heap.size wr wy := by rw [hwy]; exact ba _
                  have HTY := hide ((unhide HTJ).later hby)
                  have HKY := hide ((unhide HKJ).trans (KX.below hby))
                  have HRY := hide (show wy.heap[wr.heap.size]? = some (.cells #[.int .i64 Y.k, .string Y.t, .int .i64 Y.n, .string Y.nm, .slice Y.xa Y.len Y.cap] 43 (0, 0)) by rw [hwy]; exact at_new rfl)
                  have HBW := hide (fun W (b : Below w0.heap.size w0 W) => show Below w.heap.size w W from (unhide HNZ).below.trans (b.mono (unhide HNZ).below.size))
                  clear HTJ HKJ hby
                  go_upto_region 26 with fail
                  rw [← hwy]
                  clear hwy k0 k1 k2 k3 k4
                  obtain ⟨c0, -, -, c3, -⟩ := cells5 (unhide HRY)
                  cases h6 : Y.k == 6
                  case false =>
                    have HNN2 := hide (show To w0 wy _ (pre ++ (YL.take (j + 1)).flatMap (entR P)) by
                      rw [unhide HNY, ent_no (fun z => by rw [z.1] at h6; exact absurd h6 (by decide)), List.append_nil]
                      exact unhide HTY)
                    clear hCY HNY
                    go_wp2_with fail
                    exact ⟨⟨j + 1, by omega, by go_num, HNN2, HKY⟩, by simp [intOf]; omega⟩
                  case true =>
                  have HAR := hide (refArgs_any Y.nm wy)
                  have hk6 : Y.k = 6 := eq_of_beq h6
                  have HK6 := hide hk6
                  clear hk6
                  go_wp2_with fail
                  refine (unhide HAR).mono ?_
                  rintro e x3 ⟨rfl, hb3⟩
                  have HT3 := hide ((unhide HTY).later hb3)
                  have HK3 := hide ((unhide HKY).trans (KX.below hb3))
                  clear c0 c3
                  obtain ⟨c0, -, -, c3, -⟩ := cells5 (row_below (unhide HRY) hb3)
                  clear hb3 HAR
                  by_cases hb0 : blt Y.nm < 0
                  case neg =>
                    have HNN2 := hide (show To w0 x3 _ (pre ++ (YL.take (j + 1)).flatMap (entR P)) by
                      rw [unhide HNY, ent_no (fun z => hb0 z.2), List.append_nil]
                      exact unhide HT3)
                    clear hCY HNY
                    generalize blt Y.nm = av at *
                    go_wp2_with fail
                    exact ⟨⟨j + 1, by omega, by go_num, HNN2, HK3⟩, by simp [intOf]; omega⟩
                  case pos =>
                  obtain ⟨d, D, hd, hD⟩ := calE_def hCY ⟨unhide HK6, hb0⟩
                  have hdl : d < P.length := (List.getElem?_eq_some_iff.1 hD).1
                  have HEY := hide (ent_yes ⟨unhide HK6, hb0⟩ hd hD)
                  have HFU := hide (refFunc_any V P Y.nm x3 ((unhide HP).later (unhide HBW _ (unhide HT3).below)))
                  unfold PV.v at HFU
                  rw [hd] at HFU
                  have HDD := hide hD
                  clear hCY hd hD
                  generalize blt Y.nm = av at *
                  go_wp2_with fail
                  refine (unhide HFU).mono ?_
                  rintro e x4 ⟨rfl, hb4⟩
                  have HT4 := hide ((unhide HT3).later hb4)
                  have HK4 := hide ((unhide HK3).trans (KX.below hb4))
                  have hpm := (unhide HP).later (unhide HBW _ (unhide HT4).below)
                  have hcl := (hpm.row d D (unhide HDD)).1 18 (.string D.en) rfl
                  have hat := hpm.at_ (by omega)
                  have hid := idx24 (g := V.gb) (o := V.ob) (cap := V.cap) (n := P.length) (i := d) hdl
                  rw [← hat] at hid
                  have HLB := hide (refLabel_any V P D.en x4 hpm)
                  unfold PV.v at HLB
                  clear hb4 hpm hat HFU
                  go_wp2_with fail
                  refine (unhide HLB).mono ?_
                  rintro e x5 ⟨rfl, hb5⟩
                  generalize rFst (labF D.en) P 0 = lv at *
                  have HA := hide (((unhide HT4).later hb5).later (ba (.cells #[.int .i64 lv] 3)))
                  have HK5 := hide ((unhide HK4).trans ((KX.below hb5).trans (KX.below (ba (.cells #[.int .i64 lv] 3)))))
                  clear hb5 HLB
                  go_wp2_with (first
                      | (at_builtin; refine wpList_to rfl _ _ rfl rfl (unhide HA) _ _ rfl (cr (at_new rfl)) (by have := unhide HPL2; omega) ?_; intro v6 w6 hA6 hK6; have HA6 := hide hA6; have HK6 := hide hK6; clear hA6 hK6)
                      | fail)
                  have HNN2 := hide (show To w0 w6 _ (pre ++ (YL.take (j + 1)).flatMap (entR P)) by
                    rw [unhide HNY, unhide HEY]
                    exact unhide HA6)
                  exact ⟨⟨j + 1, by omega, by go_num, HNN2, hide ((unhide HK5).trans (unhide HK6))⟩, by simp [intOf]; omega⟩
                · obtain rfl : j = q := by omega
                  have HTM := hide (show To w0 wr _ (gg ++ (XL.take (m + 1)).flatMap fun x => x.all.flatMap (entR P)) by
                    have h := unhide HTJ
                    rw [List.take_of_length_le (by rw [unhide HLN]; exact Nat.le_refl _), ← unhide HNX] at h
                    exact h)
                  have HKM := hide ((unhide HK2).trans (unhide HKJ))
                  clear HTJ HKJ HNX
                  go_wp2_with fail
                  exact ⟨⟨m + 1, by omega, by go_num, HTM, HKM⟩, by simp [intOf]; omega⟩
            · obtain rfl : m = n := by omega
              have HT := hide (show To w0 wr _ (toR P k S) from by
                have h := unhide HTO
                rw [List.take_of_length_le (by rw [← unhide HNN]; exact Nat.le_refl _), ← unhide HTR] at h
                exact h)
              obtain ⟨tl, htl⟩ : ∃ tl, tl = toR P k S := ⟨_, rfl⟩
              rw [← htl] at HT
              have HTL := hide htl
              clear htl HTO HKX HTR HXI HCE HXL HNN HGL HO HA1
              obtain ⟨ta, tcap, hv, -, htc⟩ := (unhide HT).row.len
              subst hv
              have hmxt := (unhide HT).row.max
              unfold maxLen at hmxt
              have HN5 := hide ((unhide HNZ).later (unhide HT).below)
              have HTR5 := hide (unhide HT).row
              clear HT
              obtain ⟨tn, htn⟩ : ∃ tn, tn = tl.length := ⟨_, rfl⟩
              rw [← htn] at HTR5 htc hmxt
              rw [← htn]
              have HTN := hide htn
              clear htn
              go_wp2_with fail
              go_loopw [6, 123] (fun b i wl => ∃ (b2 : Bool) (m : Nat) (o2 : List Bool), b = .bool b2 ∧ m ≤ tn ∧ i = .int .i64 (m : Int) ∧ Hid (o2 = (tl.take m).foldl markR p) ∧ Hid (Rin w rb P wl o2) ∧ Hid (Sw P o o2 b2) ∧ Hid (b2 = false → bb = false) ∧ Hid (Row wl w0.heap.size 3 1 nZ (.slice ta tn tcap) tl)) (fun _ i _ => tn - (intOf i).toNat)
              case atStart => exact ⟨bb, 0, p, rfl, by omega, rfl, rfl, HN5, HSP, fun q => q, HTR5⟩
              case round =>
                obtain ⟨b2, m, o2, rfl, hm, rfl, HO2, HRN, HSW, HBB, HRW⟩ := hrel
                rcases Nat.lt_or_ge m tn with hmt | hmg
                · obtain ⟨x, hx⟩ : ∃ x, tl[m]? = some x := ⟨tl[m]'(by have := unhide HTN; omega), List.getElem?_eq_getElem _⟩
                  obtain ⟨g, rfl⟩ := row_some (unhide HTN) (unhide HRW) (by omega)
                  have cx := row_int (unhide HTN) (unhide HRW) hx
                  have hid := sl_idx (g := g) (o := 0) (cap := tcap) (i := m) (n := tn) Tryd.underlying55 size_intS hmt
                  rw [Nat.zero_add] at hid
                  have HXM := hide (show x ∈ toR P k S by rw [← unhide HTL]; exact List.mem_of_getElem? hx)
                  have HST := hide (show (tl.take (m + 1)).foldl markR p = markR o2 x by rw [List.take_add_one, hx, List.foldl_append, ← unhide HO2]; rfl)
                  have hmm : (m : Int) < (tn : Int) := by omega
                  have hpk := unhide HPK
                  have HO2K := hide (show o2[k]? = some true by rw [unhide HO2]; exact marks_up _ _ _ hpk)
                  clear hx HO2 hpk
                  by_cases h0 : 0 ≤ x
                  case neg =>
                    have HOE := hide (show o2 = (tl.take (m + 1)).foldl markR p by rw [unhide HST]; exact (mark_out (.inl h0)).symm)
                    go_wp2_with fail
                    exact ⟨⟨b2, m + 1, o2, rfl, by omega, by go_num, HOE, HRN, HSW, HBB, HRW⟩, by simp [intOf]; omega⟩
                  case pos =>
                  by_cases h1 : x < (P.length : Int)
                  case neg =>
                    have HOE := hide (show o2 = (tl.take (m + 1)).foldl markR p by rw [unhide HST]; exact (mark_out (.inr (by rw [(unhide HRN).ri.len]; exact h1))).symm)
                    go_wp2_with fail
                    exact ⟨⟨b2, m + 1, o2, rfl, by omega, by go_num, HOE, HRN, HSW, HBB, HRW⟩, by simp [intOf]; omega⟩
                  case pos =>
                  obtain ⟨y, rfl⟩ : ∃ y : Nat, x = (y : Int) := ⟨x.toNat, by omega⟩
                  have hyl : y < P.length := by omega
                  obtain ⟨ob, hob⟩ : ∃ ob, o2[y]? = some ob := ⟨o2[y]'(by rw [(unhide HRN).ri.len]; exact hyl), List.getElem?_eq_getElem _⟩
                  have hidy := sl_idx (g := rb) (o := 0) (cap := P.length) (i := y) (n := P.length) Tryd.underlying28 size_boolS hyl
                  rw [Nat.zero_add] at hidy
                  have cy := bool_cell (unhide HRN).row hob
                  have fy := frozen_of_row wr rb y _ _ (unhide HRN).row
                  cases ob
                  case true =>
                    have HOE := hide (show o2 = (tl.take (m + 1)).foldl markR p by rw [unhide HST]; exact (mark_on hob).symm)
                    clear hob
                    go_wp2_with fail
                    exact ⟨⟨b2, m + 1, o2, rfl, by omega, by go_num, HOE, HRN, HSW, HBB, HRW⟩, by simp [intOf]; omega⟩
                  case false =>
                    have HRN2 := hide ((unhide HRN).mark hrw (unhide HS) (unhide HO2K) (unhide HXM) hob)
                    have HSW2 := hide ((unhide HSW).mark (y : Int) ⟨by omega, by rw [Int.toNat_natCast]; exact hob⟩)
                    have HRW2 := hide (To.set (x := y) (unhide HRW) (unhide HRN).row (.bool true))
                    have HOE := hide (unhide HST).symm
                    clear hob
                    go_wp2_with fail
                    exact ⟨⟨true, m + 1, _, rfl, by omega, by go_num, HOE, HRN2, HSW2, fun q => (by cases q), HRW2⟩, by simp [intOf]; omega⟩
                · obtain rfl : m = tn := by omega
                  have HOF := hide (show o2 = tl.foldl markR p by rw [unhide HO2, List.take_of_length_le (by rw [← unhide HTN]; exact Nat.le_refl _)])
                  have HD2 := hide (show b2 = false → ∀ (j : Nat) S, j < k + 1 → P[j]? = some S → stepR P j S o = o from fun q j S' hj hS' => by
                    have hbb := unhide HBB q
                    have hpo := (unhide HSP).no hbb
                    rcases Nat.lt_or_ge j k with hjk | hjk
                    · exact unhide HD hbb j S' hjk hS'
                    · obtain rfl : j = k := by omega
                      have hss := unhide HS
                      rw [hS'] at hss
                      obtain rfl := Option.some.inj hss
                      have hpk := unhide HPK
                      have hof := unhide HOF
                      rw [hpo] at hpk hof
                      unfold stepR
                      rw [if_pos hpk, ← unhide HTL, ← hof]
                      exact (unhide HSW).no q)
                  clear HD HO2 HOF HRW
                  go_wp2_with fail
                  exact ⟨⟨b2, k + 1, o2, rfl, by omega, by go_num, HRN, HSW, HD2⟩, by simp [intOf]; omega⟩
        · obtain rfl : k = P.length := by omega
          have HDN := hide (show bb = false → ∀ (i : Nat) S, P[i]? = some S → stepR P i S p = p from fun q i S hS => by
            rw [(unhide HSP).no q]
            exact unhide HD q i S (List.getElem?_eq_some_iff.1 hS).1 hS)
          have HFB := hide (falsV_eq (unhide HNP).row)
          clear HD
          go_wp2_with fail
          refine ⟨⟨bb, p, rfl, HNP, HDN⟩, ?_⟩
          have h1 := unhide HFA
          have h2 := unhide HFB
          have h3 := unhide HSP
          cases bb
          · have h4 := h3.no rfl
            subst h4
            simp [h1, h2]
          · have h4 := h3.yes rfl
            simp [h1, h2]
            omega
end Go.Proofs.YtpphjddljngkmaaDoor
