/- The document's uses: what is wrong with what a statement speaks of. -/
import Derived.Test.YtpphjddljngkmaaDoorRefChP0M
import Derived.BigQuiet
namespace Go.Proofs.YtpphjddljngkmaaDoor
open Go.RowKit

theorem any_step {f : ByteArray → Bool} {l : List ByteArray} {k : Nat} {t : ByteArray} (h : (l.take k).any f = false) (ht : l[k]? = some t) (hn : f t = false) : (l.take (k + 1)).any f = false := by
  rw [List.take_add_one, ht]
  simp only [Option.toList_some, List.any_append, h, List.any_cons, hn, List.any_nil, Bool.or_false]
theorem any_hit {f : ByteArray → Bool} {l : List ByteArray} {k : Nat} {t : ByteArray} (ht : l[k]? = some t) (hn : f t = true) : l.any f = true := List.any_eq_true.2 ⟨t, List.mem_of_getElem? ht, hn⟩
theorem entX_at (g n cap k : Nat) (hk : k < n) (w : World) :
    (Instr.indexAt 41 (.slice (some ⟨g, 0, none⟩) n cap) (.int .i64 (k : Int))).run Tryd.prog w = .ok (.pointer (some ⟨g, k * 5, none⟩)) w := by
  have h0 : (0 : Int) ≤ (k : Int) ∧ (k : Int) < (n : Int) := by omega
  have hs := info_exp3
  cases hq : Tryd.prog.info? 43 with
  | none => simp [hq] at hs
  | some i =>
    have hz : i.size = 5 := by simp only [hq, Option.map_some, Option.some.injEq, Prod.mk.injEq] at hs; exact hs.2.1
    simp [Instr.indexAt, asIntOf, run_underlying Tryd.underlying41, h0, sizeOf, typeInfo, hq, hz, Addr.add_lit]
    intro h
    omega
theorem calE_no {P : List SV} {T : PT} (h : T.k ≠ 6) : calE P T = 0 := if_pos h
theorem calE_yes {P : List SV} {T : PT} (h : T.k = 6) : calE P T = if 0 ≤ blt T.nm then (if blt T.nm = (T.len : Int) then 0 else 5) else if rFst (defF T.nm) P 0 < 0 then 7 else if parR P (rFst (defF T.nm) P 0) < (T.len : Int) then 5 else 0 := if_neg (fun q => q h)
theorem rFst_hitD (f : SV → Bool) : ∀ (l : List SV) (k : Nat), 0 ≤ rFst f l k → ∃ (j : Nat) (S : SV), rFst f l k = ((k + j : Nat) : Int) ∧ l[j]? = some S
  | [], _, h => absurd h (by show ¬ (0 : Int) ≤ -1; decide)
  | A :: l, k, h => by
    rw [rFst] at h ⊢
    by_cases hA : f A = true
    · rw [if_pos hA]; exact ⟨0, A, rfl, rfl⟩
    · rw [if_neg hA] at h ⊢
      obtain ⟨j, S, h1, h2⟩ := rFst_hitD f l (k + 1) h
      exact ⟨j + 1, S, by rw [h1]; congr 1; omega, by simpa using h2⟩
theorem rFst_m1 (f : SV → Bool) : ∀ (l : List SV) (k : Nat), -1 ≤ rFst f l k
  | [], _ => by show (-1 : Int) ≤ -1; decide
  | A :: l, k => by
    rw [rFst]
    split
    · omega
    · exact rFst_m1 f l (k + 1)
theorem own_some {W : World} {B n cap : Nat} {T : TypeId} {z : Nat} {a : Option Addr} {xs : List Value} (h : W.ownsRow B T z (.slice a n cap) n xs) (hn : 0 < n) : ∃ g, a = some ⟨g, 0, none⟩ := by
  rcases h.2 with ⟨_, h0⟩ | ⟨g', c', cur, e, _⟩
  · omega
  · injection e with e
    exact ⟨g', e⟩
theorem own_capX {W : World} {B n cap : Nat} {T : TypeId} {z : Nat} {a : Option Addr} {xs : List Value} (h : W.ownsRow B T z (.slice a n cap) n xs) : n ≤ cap ∧ cap ≤ maxLen := by
  rcases h.2 with ⟨e, h0⟩ | ⟨g', c', cur, e, _, _, hnc, hcm, _⟩
  · injection e with _ _ e
    subst e
    exact ⟨by omega, by unfold maxLen; decide⟩
  · injection e with _ _ e
    subst e
    exact ⟨hnc, hcm⟩
theorem own_slice {W : World} {B n : Nat} {T : TypeId} {z : Nat} {v : Value} {xs : List Value} (h : W.ownsRow B T z v n xs) : ∃ a cap, v = .slice a n cap := by
  rcases h.2 with ⟨e, h0⟩ | ⟨g', c', cur, e, _⟩
  · exact ⟨none, 0, by rw [e, h0]⟩
  · exact ⟨_, _, e⟩
set_option maxRecDepth 100000 in
set_option maxHeartbeats 16000000 in
theorem refUses_any (V : PV) (P : List SV) (S : SV) (w : World) (hp : PIn w V P) (hS : S.In w) (hN : ∀ x ∈ S.exR, x.cnt ≤ 4096) (hL : P.length ≤ 1000) :
    Calls Tryd.prog 13 #[V.v P.length, S.v] w fun e w' => e = .returned (.int .i64 (usE P S)) ∧ Below w.heap.size w w' := by
  have HP := hide hp
  have hcap := hp.cap
  have hmx := hp.max
  unfold maxLen at hmx
  have HXI := hide (show ∀ x ∈ S.exR, x.cnt ≤ 4096 ∧ ∀ W, Below w.heap.size w W → x.In W from fun x hx => ⟨hN x hx, fun W q => by
    unfold SV.exR at hx
    have hI := hS.later q
    split at hx
    · obtain rfl : x = S.va := by simpa using hx
      exact hI.va
    · split at hx
      · rcases List.mem_cons.1 hx with rfl | hx
        · exact hI.tg
        · obtain rfl : x = S.va := by simpa using hx
          exact hI.va
      · cases hx⟩)
  have HU : Hid (usE P S = if [S.al, S.ye, S.no].any (lbBad P) = true then 6 else if S.k = 7 ∧ rFst (labF S.en) P 0 < 0 then 6 else fst0 (S.exR.map fun x => fst0 (x.all.map (calE P)))) := hide (usE_eq P S)
  have HLB := hide (fun n W (h : Below w.heap.size w W) => refLabel_any V P n W ((unhide HP).later h))
  have HFN := hide (fun n W (h : Below w.heap.size w W) => refFunc_any V P n W ((unhide HP).later h))
  have HEX := hide (fun W => refExprs_any S W)
  unfold PV.v at HLB HFN
  clear hp hS hN
  unfold SV.v at HEX ⊢
  unfold PV.v
  have HCC : Hid (S.cells[1]? = some (.int .i64 S.k) ∧ S.cells[18]? = some (.string S.en) ∧ S.cells[21]? = some (.string S.al) ∧ S.cells[22]? = some (.string S.ye) ∧ S.cells[23]? = some (.string S.no)) := hide (⟨rfl, rfl, rfl, rfl, rfl⟩)
  have hC24 := sv_size S
  generalize S.cells = C at *
  obtain ⟨e1, e18, e21, e22, e23⟩ := unhide HCC
  obtain ⟨_, f21⟩ := Array.getElem?_eq_some_iff.1 e21
  obtain ⟨_, f22⟩ := Array.getElem?_eq_some_iff.1 e22
  obtain ⟨_, f23⟩ := Array.getElem?_eq_some_iff.1 e23
  clear HCC
  go_enter Tryd.func13, Tryd.ntmps13
  go_wp2_with fail
  obtain ⟨w1, hw1⟩ : ∃ w1, w1 = (w.alloc (.cells C 49)).alloc (.cells #[.string S.al, .string S.ye, .string S.no] 9) := ⟨_, rfl⟩
  rw [← hw1]
  have hb1 : Below w.heap.size w w1 := by rw [hw1]; exact (ba _).alloc (by rw [World.size_alloc]; omega) _
  have hr1 : w1.heap[w.heap.size]? = some (.cells C 49 (0, 0)) := by rw [hw1]; exact at_old (by rw [World.size_alloc]; omega) (at_new rfl)
  have hl1 : w1.heap[w.heap.size + 1]? = some (.cells #[.string S.al, .string S.ye, .string S.no] 9 (0, 0)) := by rw [hw1]; exact at_new (by rw [World.size_alloc])
  have HB1 := hide hb1
  have HR1 := hide hr1
  have HC : Hid (∀ i t, [S.al, S.ye, S.no][i]? = some t → w1.cell? ⟨w.heap.size + 1, i, none⟩ = some (.string t)) := hide (fun i t ht => by
    rw [cell_of_row _ _ _ _ _ _ hl1]
    match i, ht with
    | 0, ht => obtain rfl : S.al = t := by simpa using ht
               rfl
    | 1, ht => obtain rfl : S.ye = t := by simpa using ht
               rfl
    | 2, ht => obtain rfl : S.no = t := by simpa using ht
               rfl
    | i + 3, ht => simp at ht)
  have HLL : Hid ([S.al, S.ye, S.no].length = 3) := hide rfl
  clear hw1 hb1 hr1 hl1 f21 f22 f23 e21 e22 e23
  generalize [S.al, S.ye, S.no] = LL at *
  go_loopw [23] (fun i wl => ∃ k : Nat, k ≤ 3 ∧ i = .int .i64 (k : Int) ∧ Hid ((LL.take k).any (lbBad P) = false) ∧ Hid (Below w1.heap.size w1 wl)) (fun i _ => 3 - (intOf i).toNat)
  case atStart => exact ⟨0, by omega, rfl, rfl, Below.refl _ _⟩
  case round =>
    obtain ⟨k, hk, rfl, HT, HBR⟩ := hrel
    rcases Nat.lt_or_ge k 3 with hlt | hge
    · obtain ⟨t, ht⟩ : ∃ t, LL[k]? = some t := ⟨LL[k]'(by have := unhide HLL; omega), List.getElem?_eq_getElem _⟩
      have ct := cell_later (unhide HBR) (unhide HC k t ht)
      have HKT := hide (refKept_any t)
      have HLT := hide (unhide HLB t)
      have HS1 := hide (fun h => any_step (unhide HT) ht h)
      have HS0 := hide (fun h => any_hit (f := lbBad P) ht h)
      have HUB := hide (lbBad_eq P t)
      have HXR := hide (bnext2 (unhide HB1) (unhide HBR))
      clear ht HT
      have hg : (k : Int) < 3 := by omega
      have hix := sl_idx (g := w.heap.size + 1) (o := 0) (cap := 3) (i := k) (n := 3) Tryd.underlying47 size_strS hlt
      rw [Nat.zero_add] at hix
      cases hemp : t.toList.isEmpty
      · rw [hemp] at HUB
        cases hk : lout t
        · rw [hk] at HUB HKT
          go_wp2_with fail
          refine (unhide HKT wr).mono ?_
          rintro e x1 ⟨rfl, rfl⟩
          go_wp2_with fail
          refine (unhide HLT _ (unhide HXR)).mono ?_
          rintro e x2 ⟨rfl, hb⟩
          have HBX := hide (bnext2 (unhide HXR) hb)
          have HBY := hide (bnext2 (unhide HBR) hb)
          clear hb
          generalize rFst (labF t) P 0 = v at *
          by_cases hv : v < 0
          · have HE := hide ((unhide HU).trans (if_pos (unhide HS0 (by rw [unhide HUB, decide_eq_true hv]; rfl))))
            go_wp2_with fail
            go_ret
            exact ⟨by rw [unhide HE]; rfl, unhide HBX⟩
          · have HA := hide (unhide HS1 (by rw [unhide HUB, decide_eq_false hv]; rfl))
            go_wp2_with fail
            exact ⟨⟨k + 1, by omega, by go_num, HA, HBY⟩, by simp [intOf]; omega⟩
        · rw [hk] at HUB HKT
          have HA := hide (unhide HS1 (by rw [unhide HUB]; rfl))
          go_wp2_with fail
          refine (unhide HKT wr).mono ?_
          rintro e x1 ⟨rfl, rfl⟩
          go_wp2_with fail
          exact ⟨⟨k + 1, by omega, by go_num, HA, HBR⟩, by simp [intOf]; omega⟩
      · rw [hemp] at HUB
        have HA := hide (unhide HS1 (by rw [unhide HUB]; rfl))
        go_wp2_with fail
        exact ⟨⟨k + 1, by omega, by go_num, HA, HBR⟩, by simp [intOf]; omega⟩
    · obtain rfl : k = 3 := by omega
      have HU := hide ((unhide HU).trans (if_neg (by
        have h := unhide HT
        rw [← unhide HLL, List.take_length] at h
        rw [h]; decide)))
      have HX := hide (bnext2 (unhide HB1) (unhide HBR))
      have HR := hide (row_below (unhide HR1) (unhide HBR))
      clear HT HC HLL hk hge HB1 HR1 HBR
      have c1 : wr.cell? ⟨w.heap.size, 1, none⟩ = some (.int .i64 S.k) := by rw [cell_of_row _ _ _ _ _ _ (unhide HR)]; exact e1
      have c18 : wr.cell? ⟨w.heap.size, 18, none⟩ = some (.string S.en) := by rw [cell_of_row _ _ _ _ _ _ (unhide HR)]; exact e18
      have HLE := hide (unhide HLB S.en)
      clear HLB e1 e18
      go_upto_region 8 with fail
      go_cut [50] from 41 to 50 (fun s wx => s = .bool (decide (S.k = 7 ∧ rFst (labF S.en) P 0 < 0)) ∧ Hid (Below wr.heap.size wr wx))
      case first =>
        clear HU
        by_cases h7 : S.k = 7
        · have q7 : (S.k == 7) = true := bt h7
          go_wp2_with fail
          refine (unhide HLE _ (unhide HX)).mono ?_
          rintro e x1 ⟨rfl, hb⟩
          have HBX := hide hb
          clear hb
          generalize rFst (labF S.en) P 0 = v at *
          by_cases hv : v < 0
          · have HT := hide (decide_eq_true (And.intro h7 hv))
            clear h7
            go_wp2_with fail
            go_meet
            case rel => exact ⟨by rw [unhide HT], HBX⟩
          · have HT := hide (decide_eq_false (fun h : S.k = 7 ∧ v < 0 => hv h.2))
            have HV := hide (decide_eq_false hv)
            clear h7
            go_wp2_with fail
            go_meet
            case rel => exact ⟨by rw [unhide HT, unhide HV], HBX⟩
        · have q7 : (S.k == 7) = false := bn h7
          have HT := hide (decide_eq_false (fun h : S.k = 7 ∧ rFst (labF S.en) P 0 < 0 => h7 h.1))
          clear h7
          go_wp2_with fail
          go_meet
          case rel => exact ⟨by rw [unhide HT], Below.refl _ _⟩
      case rest =>
      obtain ⟨rfl, HB2⟩ := hcut
      have HX2 := hide (bnext2 (unhide HX) (unhide HB2))
      have HR2 := hide (row_below (unhide HR) (unhide HB2))
      by_cases h6 : S.k = 7 ∧ rFst (labF S.en) P 0 < 0
      · have HE := hide ((unhide HU).trans (if_pos h6))
        rw [decide_eq_true h6]
        clear h6
        go_wp2_with fail
        go_ret
        exact ⟨by rw [unhide HE]; rfl, unhide HX2⟩
      have HU := hide ((unhide HU).trans (if_neg h6))
      rw [decide_eq_false h6]
      clear h6 c1 c18 HLE
      generalize S.exR = XL at *
      go_wp2_with (first
        | (refine wpList_load_row rfl 49 _ rfl w.heap.size rfl 49 C (0, 0) _ (unhide HR2) Tryd.underlying49 rfl (size_stmt.trans (by rw [hC24])) ?_)
        | fail)
      refine (unhide HEX _).mono ?_
      rintro e x1 ⟨v, rfl, ho, hb⟩
      obtain ⟨a, cap, rfl⟩ := own_slice ho
      obtain ⟨hnc, hmx2⟩ := own_capX ho
      unfold maxLen at hmx2
      have HO := hide ho
      have HX3 := hide (bnext2 (unhide HX2) hb)
      clear ho hb HB2 HR2 HX2 HX HR HEX
      obtain ⟨n, hn⟩ : ∃ n, n = XL.length := ⟨_, rfl⟩
      rw [← hn] at HO hnc
      rw [← hn]
      have HN := hide hn
      clear hn
      have HFF : Hid (fst0 (XL.map fun x => fst0 (x.all.map (calE P))) = fst0 ((XL.map fun x => fst0 (x.all.map (calE P))).drop 0)) := hide rfl
      go_wp2_with fail
      go_loopw [54] (fun i wl => ∃ k : Nat, k ≤ n ∧ i = .int .i64 (k : Int) ∧ Hid (fst0 (XL.map fun x => fst0 (x.all.map (calE P))) = fst0 ((XL.map fun x => fst0 (x.all.map (calE P))).drop k)) ∧ Hid (Below x1.heap.size x1 wl)) (fun i _ => n - (intOf i).toNat)
      case atStart => exact ⟨0, by omega, rfl, HFF, Below.refl _ _⟩
      case round =>
        obtain ⟨k, hk, rfl, HF, HB4⟩ := hrel
        rcases Nat.lt_or_ge k n with hlt | hge
        · obtain ⟨X, hX⟩ : ∃ X, XL[k]? = some X := ⟨XL[k]'(by have := unhide HN; omega), List.getElem?_eq_getElem _⟩
          have hkl : k < XL.length := (List.getElem?_eq_some_iff.1 hX).1
          have hXe : XL[k]'hkl = X := (List.getElem?_eq_some_iff.1 hX).2
          obtain ⟨g, rfl⟩ := own_some (unhide HO) (by omega)
          have HO4 := own_below (unhide HO) (unhide HB4)
          obtain ⟨k0, k1, k2, k3, k4⟩ := own_atX (L := XL) (by rw [← unhide HN]; exact HO4) k hkl
          rw [hXe] at k0 k1 k2 k3 k4
          have hia := entX_at g n cap k hlt
          have HD := hide (fst0_drop (unhide HF) (show (XL.map fun x => fst0 (x.all.map (calE P)))[k]? = some (fst0 (X.all.map (calE P))) by rw [List.getElem?_map, hX]; rfl))
          have hXI := unhide HXI X (List.mem_of_getElem? hX)
          have hX4 := hXI.1
          have hn := (Below.refl wr.heap.size wr).alloc (Nat.le_refl _) (.cells #[.int .i64 X.k, .string X.t, .int .i64 X.n, .string X.nm, .slice X.xa X.len X.cap] 43)
          have HX5 := hide (bnext2 (unhide HX3) (unhide HB4))
          have HAL := hide (allX_any X _ (hXI.2 _ (bnext2 (unhide HX5) hn)) (by omega))
          have HXE := hide (fun y hy W (q : Below w.heap.size w W) => PT.In.every (hXI.2 W q) y hy)
          have HHN := hide hn
          have hkk : (k : Int) < (n : Int) := by omega
          clear hX hXe HO4 hXI hn HF hkl
          go_wp2_with fail
          refine (unhide HAL).mono ?_
          rintro e x2 ⟨v2, rfl, ho2, hb2⟩
          obtain ⟨g2, cap2, rfl, -, -⟩ := ho2.form X.cnt_pos
          obtain ⟨hc2, hm2⟩ := own_capX ho2
          unfold maxLen at hm2
          have HO2 := hide ho2
          have HX6 := hide (bnext2 (bnext2 (unhide HX5) (unhide HHN)) hb2)
          have HB6 := hide (bnext2 (bnext2 (unhide HB4) (unhide HHN)) hb2)
          clear ho2 hb2 k0 k1 k2 k3 k4 HAL
          have HLN := hide X.all_length
          obtain ⟨m, hm⟩ : ∃ m, m = X.cnt := ⟨_, rfl⟩
          rw [← hm] at HO2 hc2 HLN
          rw [← hm]
          clear hm
          have HGG : Hid (fst0 (X.all.map (calE P)) = fst0 ((X.all.map (calE P)).drop 0)) := hide rfl
          obtain ⟨e0, he0⟩ : ∃ e0, e0 = fst0 (X.all.map (calE P)) := ⟨_, rfl⟩
          rw [← he0] at HD
          have HE0 := hide he0
          clear he0
          generalize X.all = YL at *
          go_wp2_with fail
          go_loopw [61] (fun i wl => ∃ j : Nat, j ≤ m ∧ i = .int .i64 (j : Int) ∧ Hid (fst0 (YL.map (calE P)) = fst0 ((YL.map (calE P)).drop j)) ∧ Hid (Below x2.heap.size x2 wl)) (fun i _ => m - (intOf i).toNat)
          case atStart => exact ⟨0, by omega, rfl, HGG, Below.refl _ _⟩
          case round =>
            obtain ⟨j, hj, rfl, HG, HB7⟩ := hrel
            rcases Nat.lt_or_ge j m with hjt | hjg
            · obtain ⟨Y, hY⟩ : ∃ Y, YL[j]? = some Y := ⟨YL[j]'(by have := unhide HLN; omega), List.getElem?_eq_getElem _⟩
              have hjl : j < YL.length := (List.getElem?_eq_some_iff.1 hY).1
              have hYe : YL[j]'hjl = Y := (List.getElem?_eq_some_iff.1 hY).2
              obtain ⟨k0, k1, k2, k3, k4⟩ := own_atX (L := YL) (by rw [unhide HLN]; exact own_below (unhide HO2) (unhide HB7)) j hjl
              rw [hYe] at k0 k1 k2 k3 k4
              have hib := entX_at g2 m cap2 j hjt
              have HDJ := hide (fst0_drop (unhide HG) (show (YL.map (calE P))[j]? = some (calE P Y) by rw [List.getElem?_map, hY]; rfl))
              have HX7 := hide (bnext2 (unhide HX6) (unhide HB7))
              have HYI := hide (unhide HXE Y (List.mem_of_getElem? hY) _ (unhide HX7))
              have hjj : (j : Int) < (m : Int) := by omega
              clear hY hYe HG hjl
              go_upto_region 16 with fail
              obtain ⟨wy, hwy⟩ : ∃ wy, wy = wr.alloc (.cells #[.int .i64 Y.k, .string Y.t, .int .i64 Y.n, .string Y.nm, .slice Y.xa Y.len Y.cap] 43) := ⟨_, rfl⟩
              rw [← hwy]
              have HRY := hide (show wy.heap[wr.heap.size]? = some (.cells #[.int .i64 Y.k, .string Y.t, .int .i64 Y.n, .string Y.nm, .slice Y.xa Y.len Y.cap] 43 (0, 0)) by rw [hwy]; exact at_new rfl)
              have HBY := hide (show Below wr.heap.size wr wy by rw [hwy]; exact ba _)
              obtain ⟨c0, c1, c2, c3, c4⟩ := cells5 (unhide HRY)
              have HB8 := hide (bnext2 (unhide HB7) (unhide HBY))
              have HX8 := hide (bnext2 (unhide HX7) (unhide HBY))
              clear hwy k0 k1 k2 k3 k4
              by_cases h6 : Y.k = 6
              · have q6 : (Y.k != 6) = false := by rw [h6]; rfl
                have HCE := hide (calE_yes (P := P) h6)
                clear h6
                have hylen := (unhide HYI).max
                unfold maxLen at hylen
                go_wp2_with fail
                go_cut [12, 13] from 68 to 74 (fun s12 s13 wx => s12 = .int .i64 (blt Y.nm) ∧ s13 = .int .i64 (rFst (defF Y.nm) P 0) ∧ Hid (Below wy.heap.size wy wx))
                case first =>
                  have hA : Below wy.heap.size wy wy := Below.refl _ _
                  have HKP : Hid (∀ w' : World, Below wy.heap.size wy w' → w'.cell? ⟨wr.heap.size, 3, none⟩ = some (.string Y.nm)) := hide (fun w' h => cell_later h c3)
                  have HAR := hide (fun W => refArgs_any Y.nm W)
                  have HFU := hide (unhide HFN Y.nm)
                  clear HD HDJ HU HCE
                  go_region_held3 (fun w' => w'.cell? ⟨wr.heap.size, 3, none⟩ = some (.string Y.nm))
                    (first | exact unhide HKP _ (unhide HA) | exact unhide HKP _ (unhide HA).drew | exact unhide HKP _ hA | exact unhide HKP _ hA.drew)
                    (first
                      | (go_at_call 7; refine (unhide HAR _).mono ?_; rintro e x3 ⟨rfl, hbq⟩; first | (have HA := hide (bnext2 (unhide HA) hbq); clear hbq) | (have HA := hide (bnext2 (unhide HA).drew hbq); clear hbq) | (have HA := hide (bnext2 hA hbq); clear hbq) | (have HA := hide (bnext2 hA.drew hbq); clear hbq))
                      | (go_at_call 19; refine (unhide HFU _ (bnext2 (unhide HX8) (by first | exact unhide HA | exact (unhide HA).drew | exact hA | exact hA.drew))).mono ?_; rintro e x3 ⟨rfl, hbq⟩; first | (have HA := hide (bnext2 (unhide HA) hbq); clear hbq) | (have HA := hide (bnext2 (unhide HA).drew hbq); clear hbq) | (have HA := hide (bnext2 hA hbq); clear hbq) | (have HA := hide (bnext2 hA.drew hbq); clear hbq)))
                  all_goals
                    go_wp2_with fail
                    go_meet
                    case rel => exact ⟨rfl, rfl, by first | exact HA | exact hide (unhide HA).drew⟩
                case rest =>
                obtain ⟨rfl, rfl, HB9⟩ := hcut
                clear c0 c1 c2 c3 c4
                obtain ⟨c0, c1, c2, c3, c4⟩ := cells5 (row_below (unhide HRY) (unhide HB9))
                have HB10 := hide (bnext2 (unhide HB8) (unhide HB9))
                have HX10 := hide (bnext2 (unhide HX8) (unhide HB9))
                have HRET := hide (fun (x : Int) (hx : calE P Y = x) (h0 : x ≠ 0) => show usE P S = x from by
                  have h1 := (unhide HDJ).2 (by rw [hx]; exact h0)
                  have h2 : e0 = x := (unhide HE0).trans (h1.trans hx)
                  exact (unhide HU).trans (((unhide HD).2 (by rw [h2]; exact h0)).trans h2))
                have HNXT := hide (unhide HDJ).1
                have hpm := (unhide HP).later (unhide HX10)
                have HDD := hide (rFst_hitD (defF Y.nm) P 0)
                have hlow := rFst_m1 (defF Y.nm) P 0
                clear HD HDJ HU HX8 HB8 HB9 HRY q6
                generalize hDv : rFst (defF Y.nm) P 0 = dv at *
                generalize hAv : blt Y.nm = av at *
                by_cases hb0 : 0 ≤ av
                · by_cases hbl : av = (Y.len : Int)
                  · have HG2 := hide (unhide HNXT (by rw [unhide HCE, if_pos hb0, if_pos hbl]))
                    have hb1 : ¬ av < 0 := by omega
                    have hb2 : decide (av < 0) = false := decide_eq_false hb1
                    have hbe : (av != (Y.len : Int)) = false := by rw [hbl]; exact bne_self_eq_false _
                    clear HRET HNXT HCE HDD hpm hbl hAv
                    go_wp2_with fail
                    go_quiet (fail)
                    go_wp2_with fail
                    exact ⟨⟨j + 1, by omega, by go_num, HG2, hide (below_drewN (unhide HB10) _)⟩, by simp [intOf]; omega⟩
                  · have HE := hide (unhide HRET 5 (by rw [unhide HCE, if_pos hb0, if_neg hbl]) (by decide))
                    have hbe : (av != (Y.len : Int)) = true := bne_iff_ne.2 hbl
                    clear HRET HNXT HCE HDD hpm hbl hAv
                    go_wp2_with fail
                    go_ret
                    exact ⟨by rw [unhide HE]; rfl, unhide HX10⟩
                · have hb1 : av < 0 := by omega
                  by_cases hd0 : dv < 0
                  · have HE := hide (unhide HRET 7 (by rw [unhide HCE, if_neg hb0, if_pos hd0]) (by decide))
                    clear HRET HNXT HCE HDD hpm
                    go_wp2_with fail
                    go_ret
                    exact ⟨by rw [unhide HE]; rfl, unhide HX10⟩
                  · obtain ⟨d, D, hd, hD⟩ := unhide HDD (by omega)
                    rw [Nat.zero_add] at hd
                    have hdl : d < P.length := (List.getElem?_eq_some_iff.1 hD).1
                    have hpar : parR P dv = (D.ps.l.length : Int) := by unfold parR; rw [hd, Int.toNat_natCast, hD]
                    have hcl := (hpm.row d D hD).1 19 (.slice D.ps.xa D.ps.l.length D.ps.cap) rfl
                    have hat := hpm.at_ (by omega)
                    have hix := idx24 (g := V.gb) (o := V.ob) (cap := V.cap) (n := P.length) (i := d) hdl
                    rw [← hat] at hix
                    have HCF := hide (show calE P Y = if (D.ps.l.length : Int) < (Y.len : Int) then 5 else 0 by rw [← hpar]; exact (unhide HCE).trans ((if_neg hb0).trans (if_neg hd0)))
                    have hdd : ¬ (d : Int) < 0 := by omega
                    clear HDD hpm hD hpar hat hd0 hlow hDv
                    subst hd
                    have hbd : decide (av < 0) = true := decide_eq_true hb1
                    by_cases hpl : (D.ps.l.length : Int) < (Y.len : Int)
                    · have HE := hide (unhide HRET 5 (by rw [unhide HCF, if_pos hpl]) (by decide))
                      clear HRET HNXT HCE HCF
                      go_wp2_with fail
                      go_quiet (fail)
                      go_wp2_with fail
                      go_ret
                      exact ⟨by rw [unhide HE]; rfl, below_drewN (unhide HX10) _⟩
                    · have HG2 := hide (unhide HNXT (by rw [unhide HCF, if_neg hpl]))
                      clear HRET HNXT HCE HCF
                      go_wp2_with fail
                      go_quiet (fail)
                      go_wp2_with fail
                      exact ⟨⟨j + 1, by omega, by go_num, HG2, hide (below_drewN (unhide HB10) _)⟩, by simp [intOf]; omega⟩
              · have q6 : (Y.k != 6) = true := bne_iff_ne.2 h6
                have HG2 := hide ((unhide HDJ).1 (calE_no h6))
                clear h6
                go_wp2_with fail
                exact ⟨⟨j + 1, by omega, by go_num, HG2, HB8⟩, by simp [intOf]; omega⟩
            · obtain rfl : j = m := by omega
              have HZ := hide ((unhide HD).1 ((unhide HE0).trans ((unhide HG).trans (by rw [List.drop_eq_nil_of_le (by rw [List.length_map, unhide HLN]; exact Nat.le_refl _)]; rfl))))
              have HB9 := hide (bnext2 (unhide HB6) (unhide HB7))
              clear HD HG
              go_wp2_with fail
              exact ⟨⟨k + 1, by omega, by go_num, HZ, HB9⟩, by simp [intOf]; omega⟩
        · obtain rfl : k = n := by omega
          have HE := hide ((unhide HU).trans ((unhide HF).trans (show _ = (0 : Int) by rw [List.drop_eq_nil_of_le (by rw [List.length_map, ← unhide HN]; exact Nat.le_refl _)]; rfl)))
          have HX5 := hide (bnext2 (unhide HX3) (unhide HB4))
          clear HU HF
          go_wp2_with fail
          go_ret
          exact ⟨by rw [unhide HE]; rfl, unhide HX5⟩
end Go.Proofs.YtpphjddljngkmaaDoor
