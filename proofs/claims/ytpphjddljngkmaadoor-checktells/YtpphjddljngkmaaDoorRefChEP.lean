/- The document's named: what is wrong with the names that a statement brings. -/
import Derived.Test.YtpphjddljngkmaaDoorRefChAP
import Derived.Test.YtpphjddljngkmaaDoorRefChDM
import Derived.Test.YtpphjddljngkmaaDoorRefStAP
import Derived.Deep.Cut
import Derived.Deep.CutRange
import Derived.Deep.QuietTactic
import Derived.Deep.RegionHeld3
namespace Go.Proofs.YtpphjddljngkmaaDoor
open Go.RowKit

def inOut (t : ByteArray) : Bool := (t.toList == [73, 78, 80, 85, 84]) || (t.toList == [79, 85, 84, 80, 85, 84])
def nmD (L : List ByteArray) : Nat → Bool
  | 0 => true
  | k + 1 => nmD L k && match L[k]? with
    | none => true
    | some t => !inOut t && (L.take k).all fun x => !(t.toList == x.toList)
theorem nmD_stays (L : List ByteArray) {k n : Nat} (h : nmD L k = false) (hk : k ≤ n) : nmD L n = false := by
  induction n with
  | zero => obtain rfl : k = 0 := by omega
            exact h
  | succ n ih =>
    rcases Nat.lt_or_ge n k with h1 | h1
    · obtain rfl : k = n + 1 := by omega
      exact h
    · show (nmD L n && _) = false
      rw [ih h1]
      rfl
theorem nmD_at {L : List ByteArray} {k : Nat} {t : ByteArray} (h : nmD L k = true) (ht : L[k]? = some t) : nmD L (k + 1) = (!inOut t && (L.take k).all fun x => !(t.toList == x.toList)) := by
  show (nmD L k && match L[k]? with | none => true | some t => _) = _
  rw [h, ht]
  rfl
def nmB1 (P : List SV) (i : Nat) (S : SV) : Bool := !S.lab.toList.isEmpty && (lout S.lab || rFst (labF S.lab) P 0 != (i : Int))
def nmB2 (P : List SV) (i : Nat) (S : SV) : Bool := decide (0 ≤ blt S.nm) || rFst (defF S.nm) P 0 != (i : Int)
def namedB (P : List SV) (i : Nat) (S : SV) : Bool := if nmB1 P i S = true then false else if (S.k != 7) = true then true else if nmB2 P i S = true then false else nmD ([S.nm] ++ S.ps.l ++ S.ls.l) (1 + S.ps.l.length + S.ls.l.length)
theorem own_cap {W : World} {B g n cap : Nat} {xs : List Value} (h : W.ownsRow B 9 1 (.slice (some ⟨g, 0, none⟩) n cap) n xs) : n ≤ cap ∧ cap ≤ maxLen := by
  rcases h.2 with ⟨e, _⟩ | ⟨g', c', cur, e, _, _, hnc, hcm, _⟩
  · cases e
  · injection e with _ _ e
    subst e
    exact ⟨hnc, hcm⟩
theorem Ap.one (W : World) (t : ByteArray) : Ap W.heap.size W (W.alloc (.cells #[.string t] 9)) (.slice (some ⟨W.heap.size, 0, none⟩) 1 1) 1 [t] 0 t false :=
  ⟨World.ownsRow_lit (base := W.heap.size) (e := 9) (size := 1) W #[.string t] 1 (Nat.le_refl _) (by decide) rfl, ba _, by rw [World.size_alloc]; omega, fun e => by cases e⟩
set_option maxRecDepth 100000 in
set_option maxHeartbeats 8000000 in
theorem refNamedB_any (V : PV) (P : List SV) (i : Nat) (S : SV) (w : World) (hp : PIn w V P) (hS : P[i]? = some S) (hN : S.ps.l.length + S.ls.l.length ≤ 7000000000000) :
    Calls Tryd.prog 12 #[V.v P.length, .int .i64 (i : Int)] w fun e w' => e = .returned (.bool (namedB P i S)) ∧ Below w.heap.size w w' := by
  have HP := hide hp
  have hlt : i < P.length := (List.getElem?_eq_some_iff.1 hS).1
  have hmx := hp.max
  unfold maxLen at hmx
  have hcap := hp.cap
  have hat := hp.at_ (by omega)
  have HI := hide (hp.row i S hS).2
  have HRG := hide (hp.row i S hS).1
  have hix := idx24 (g := V.gb) (o := V.ob) (cap := V.cap) (n := P.length) (i := i) hlt
  rw [← hat] at hix
  have HON := hide (SV.cells_one S)
  have hD24 : S.cells.toList.length = 24 := sv_size S
  have HR1 := hide (show (w.alloc (.cells S.cells.toList.toArray 49)).heap[w.heap.size]? = some (.cells S.cells 49 (0, 0)) from at_new rfl)
  obtain ⟨L, hL⟩ : ∃ L, L = S.cells.toList := ⟨_, rfl⟩
  have hLa : S.cells = L.toArray := by rw [hL]
  rw [← hL] at HRG hD24 HR1
  rw [hLa] at HON
  have hkk : (i : Int) < (P.length : Int) := by omega
  have HNB : Hid (namedB P i S = if nmB1 P i S = true then false else if (S.k != 7) = true then true else if nmB2 P i S = true then false else nmD ([S.nm] ++ S.ps.l ++ S.ls.l) (1 + S.ps.l.length + S.ls.l.length)) := hide rfl
  have HNN := hide hN
  clear hp hL hLa hat hN
  unfold PV.v
  go_enter Tryd.func12, Tryd.ntmps12
  have HKT := hide (refKept_any S.lab)
  have HLB := hide (fun W (h : Below w.heap.size w W) => refLabel_any V P S.lab W ((unhide HP).later h))
  have HFN := hide (fun W (h : Below w.heap.size w W) => refFunc_any V P S.nm W ((unhide HP).later h))
  have HAR := hide (refArgs_any S.nm)
  unfold PV.v at HLB HFN
  clear hS
  go_upto_region 2 with (first
          | (refine wpList_load_mid rfl 49 _ rfl V.gb (V.ob + i * 24) rfl L _ (unhide HRG) Tryd.underlying49 rfl (size_stmt.trans (by rw [hD24])) ?_)
          | (refine wpList_store_row rfl 49 _ _ rfl w.heap.size L.toArray rfl rfl 49 _ (at_new rfl) (size_stmt.trans (by rw [show L.toArray.size = 24 from List.size_toArray.trans hD24])) (by rw [show L.toArray.size = 24 from List.size_toArray.trans hD24]; rfl) (unhide HON) ?_; rw [World.setRow_alloc_new])
          | fail)
  obtain ⟨w1, hw1⟩ : ∃ w1, w1 = w.alloc (.cells L.toArray 49) := ⟨_, rfl⟩
  rw [← hw1]
  rw [← hw1] at HR1
  have HB1 := hide (show Below w.heap.size w w1 by rw [hw1]; exact ba _)
  obtain ⟨c0, c1, -, -, -, -, -, -, -, -, -, -, -, -, -, -, -, c17, -, -, -, -, -, -⟩ := cells24 (unhide HR1)
  clear hw1 HON HRG hD24 hix
  simp only [Act.put]
  go_cut [28] from 13 to 28 (fun s wx => s = .bool (nmB1 P i S) ∧ Hid (Below w1.heap.size w1 wx))
  case first =>
    clear HNB
    have HU : Hid (nmB1 P i S = (!S.lab.toList.isEmpty && (lout S.lab || rFst (labF S.lab) P 0 != (i : Int)))) := hide rfl
    generalize nmB1 P i S = b1 at *
    cases he : S.lab.toList.isEmpty
    · rw [he] at HU
      go_wp2_with fail
      refine (unhide HKT w1).mono ?_
      rintro e x1 ⟨rfl, rfl⟩
      cases hk : lout S.lab
      · rw [hk] at HU
        go_wp2_with fail
        refine (unhide HLB _ (unhide HB1)).mono ?_
        rintro e x1 ⟨rfl, hb⟩
        have HBX := hide hb
        clear hb
        generalize rFst (labF S.lab) P 0 = v at *
        go_wp2_with fail
        go_meet
        case rel => exact ⟨by rw [unhide HU]; rfl, HBX⟩
      · rw [hk] at HU
        go_wp2_with fail
        go_meet
        case rel => exact ⟨by rw [unhide HU]; rfl, Below.refl _ _⟩
    · rw [he] at HU
      go_wp2_with fail
      go_meet
      case rel => exact ⟨by rw [unhide HU]; rfl, Below.refl _ _⟩
  case rest =>
  obtain ⟨rfl, HB2⟩ := hcut
  have HX2 := hide (bnext2 (unhide HB1) (unhide HB2))
  have HR2 := hide (row_below (unhide HR1) (unhide HB2))
  clear c0 c1 c17
  obtain ⟨-, c1, -, -, -, -, -, -, -, -, -, -, -, -, -, -, -, c17, c18, c19, c20, -, -, -⟩ := cells24 (unhide HR2)
  cases hb1 : nmB1 P i S
  case true =>
    have HE := hide ((unhide HNB).trans (if_pos hb1))
    clear hb1 HNB
    go_wp2_with fail
    go_ret
    exact ⟨by rw [unhide HE]; rfl, unhide HX2⟩
  have HNB := hide ((unhide HNB).trans (if_neg (by rw [hb1]; decide)))
  clear hb1
  cases hk7 : S.k != 7
  case true =>
    have HE := hide ((unhide HNB).trans (if_pos hk7))
    go_wp2_with fail
    go_ret
    exact ⟨by rw [unhide HE]; rfl, unhide HX2⟩
  have HNB := hide ((unhide HNB).trans (if_neg (by rw [hk7]; decide)))
  go_upto_region 6 with fail
  go_cut [43] from 32 to 43 (fun s wy => s = .bool (nmB2 P i S) ∧ Hid (Below wc.heap.size wc wy))
  case first =>
    clear HNB
    have HU : Hid (nmB2 P i S = (decide (0 ≤ blt S.nm) || rFst (defF S.nm) P 0 != (i : Int))) := hide rfl
    generalize nmB2 P i S = b2 at *
    go_wp2_with fail
    refine (unhide HAR _).mono ?_
    rintro e x1 ⟨rfl, hb⟩
    have HBY := hide hb
    have HBX := hide (bnext2 (unhide HX2) hb)
    obtain ⟨-, -, -, -, -, -, -, -, -, -, -, -, -, -, -, -, -, c17, -, -, -, -, -, -⟩ := cells24 (row_below (unhide HR2) hb)
    clear hb
    cases hk : decide (0 ≤ blt S.nm)
    · have hk2 : ¬ 0 ≤ blt S.nm := of_decide_eq_false hk
      generalize blt S.nm = v at *
      clear hk
      go_wp2_with fail
      refine (unhide HFN _ (unhide HBX)).mono ?_
      rintro e x2 ⟨rfl, hb⟩
      have HBZ := hide (bnext2 (unhide HBY) hb)
      clear hb
      generalize rFst (defF S.nm) P 0 = u at *
      go_wp2_with fail
      go_meet
      case rel => exact ⟨by rw [unhide HU], HBZ⟩
    · rw [hk] at HU
      have hk2 : 0 ≤ blt S.nm := of_decide_eq_true hk
      generalize blt S.nm = v at *
      clear hk
      go_wp2_with fail
      go_meet
      case rel => exact ⟨by rw [unhide HU]; rfl, HBY⟩
  case rest =>
  obtain ⟨rfl, HB3⟩ := hcut
  have HX3 := hide (bnext2 (unhide HX2) (unhide HB3))
  have HR3 := hide (row_below (unhide HR2) (unhide HB3))
  clear c1 c17 c18 c19 c20
  obtain ⟨-, -, -, -, -, -, -, -, -, -, -, -, -, -, -, -, -, c17, -, c19, c20, -, -, -⟩ := cells24 (unhide HR3)
  cases hb2 : nmB2 P i S
  case true =>
    have HE := hide ((unhide HNB).trans (if_pos hb2))
    go_wp2_with fail
    go_ret
    exact ⟨by rw [unhide HE]; rfl, unhide HX3⟩
  have HNB := hide ((unhide HNB).trans (if_neg (by rw [hb2]; decide)))
  go_upto_region 8 with fail
  have HLN : Hid (([S.nm] ++ S.ps.l ++ S.ls.l).length = 1 + S.ps.l.length + S.ls.l.length) := hide (by simp only [List.length_append, List.length_cons, List.length_nil])
  obtain ⟨N, hN⟩ : ∃ N, N = 1 + S.ps.l.length + S.ls.l.length := ⟨_, rfl⟩
  go_cut [6] from 44 to 52 (fun s6 wy => ∃ g cap, s6 = .slice (some ⟨g, 0, none⟩) N cap ∧ Hid (N ≤ cap ∧ cap ≤ maxLen) ∧ Hid (wy.ownsRow wc.heap.size 9 1 (.slice (some ⟨g, 0, none⟩) N cap) N (strs ([S.nm] ++ S.ps.l ++ S.ls.l))) ∧ Hid (Below wc.heap.size wc wy))
  case first =>
    have HN := hide hN
    have HIX := hide ((unhide HI).later (unhide HX3))
    have hA : Below wc.heap.size wc wc := Below.refl _ _
    have HKP : Hid (∀ w' : World, Below wc.heap.size wc w' → (w'.cell? ⟨w.heap.size, 17, none⟩ = some (.string S.nm) ∧ w'.cell? ⟨w.heap.size, 19, none⟩ = some (.slice S.ps.xa S.ps.l.length S.ps.cap) ∧ w'.cell? ⟨w.heap.size, 20, none⟩ = some (.slice S.ls.xa S.ls.l.length S.ls.cap))) := hide (fun w' h => ⟨cell_later h c17, cell_later h c19, cell_later h c20⟩)
    clear hN
    go_wp2_with fail
    go_region_held3 (fun w' => w'.cell? ⟨w.heap.size, 17, none⟩ = some (.string S.nm) ∧ w'.cell? ⟨w.heap.size, 19, none⟩ = some (.slice S.ps.xa S.ps.l.length S.ps.cap) ∧ w'.cell? ⟨w.heap.size, 20, none⟩ = some (.slice S.ls.xa S.ls.l.length S.ls.cap))
      (first | exact unhide HKP _ (unhide HA).below | exact unhide HKP _ hA | exact unhide HKP _ hA.drew | exact unhide HKP _ (hA.alloc (Nat.le_refl _) _) | exact unhide HKP _ (hA.alloc (Nat.le_refl _) _).drew)
      (first
        | (refine wp_append_nl (B := wc.heap.size) (w0 := wc) (n := 1) (xs := [S.nm]) (r := 0) (en := S.nm) (b := false) _ _ rfl rfl rfl (by first | exact Ap.one wc S.nm | exact (Ap.one wc S.nm).drew | exact (Ap.one wc S.nm).drew.drew) S.ps rfl (fun W h => (unhide HIX).ps.later h) (by have := unhide HNN; omega) ?_; intro v7 w7 q; have HA := hide q; clear q)
        | (refine wp_append_nl _ _ rfl rfl rfl (unhide HA) S.ls rfl (fun W h => (unhide HIX).ls.later h) (by have := unhide HNN; omega) ?_; intro v7 w7 q; have HA := hide q; clear q))
    all_goals
      have hN := unhide HN
      obtain ⟨g7, cap7, hv, -, -⟩ := World.ownsRow.form (unhide HA).own (by omega)
      have HAZ := hide (unhide HA)
      rw [hv] at HAZ
      rw [← hN] at HAZ
      have HCZ := hide (own_cap (unhide HAZ).own)
      rw [hv]
      rw [← hN]
      clear HA hv
      go_wp2_with fail
      go_meet
      case rel => exact ⟨g7, cap7, rfl, HCZ, (unhide HAZ).own, (unhide HAZ).below⟩
  case rest =>
  obtain ⟨g, cap, rfl, HCZ, HO, HB4⟩ := hcut
  have HX4 := hide (bnext2 (unhide HX3) (unhide HB4))
  have hcz := unhide HCZ
  unfold maxLen at hcz
  have HLN := hide ((unhide HLN).trans hN.symm)
  have HNB : Hid (namedB P i S = nmD ([S.nm] ++ S.ps.l ++ S.ls.l) N) := hide (by rw [hN]; exact unhide HNB)
  have hNm : N ≤ 8000000000000 := by have := unhide HNN; omega
  clear hN c17 c19 c20 hb2 hk7
  generalize [S.nm] ++ S.ps.l ++ S.ls.l = NN at *
  go_wp2_with fail
  go_loopw [55] (fun i wo => ∃ a : Nat, a ≤ N ∧ i = .int .i64 (a : Int) ∧ Hid (nmD NN a = true) ∧ Hid (Below wc.heap.size wc wo)) (fun i _ => N - (intOf i).toNat)
  case atStart => exact ⟨0, by omega, rfl, rfl, Below.refl _ _⟩
  case round =>
    obtain ⟨a, ha, rfl, HD, HBO⟩ := hrel
    have HX4 := hide (bnext2 (unhide HX4) (unhide HBO))
    rcases Nat.lt_or_ge a N with hlt2 | hge
    · obtain ⟨t, ht⟩ : ∃ t, NN[a]? = some t := ⟨NN[a]'(by have := unhide HLN; omega), List.getElem?_eq_getElem _⟩
      have HCT := hide (show ∀ W : World, Below wc.heap.size wc W → W.cell? ⟨g, a, none⟩ = some (.string t) from fun W h => by
        rw [(own_below (unhide HO) h).cellAt a (by omega)]
        unfold strs
        rw [List.getElem?_map, ht]
        rfl)
      have ct := unhide HCT _ (unhide HBO)
      have HST := hide (nmD_at (unhide HD) ht)
      have hia := sl_idx (g := g) (o := 0) (cap := cap) (i := a) (n := N) Tryd.underlying47 size_strS hlt2
      rw [Nat.zero_add] at hia
      have haa : (a : Int) < (N : Int) := by omega
      have HBAD := hide (show nmD NN (a + 1) = false → namedB P i S = false from fun h => (unhide HNB).trans (nmD_stays NN h hlt2))
      clear ht HD
      cases hi : t.toList == [73, 78, 80, 85, 84]
      case true =>
        have HE := hide (unhide HBAD (by rw [unhide HST]; unfold inOut; rw [hi]; rfl))
        clear HST HBAD
        go_wp2_with fail
        go_ret
        exact ⟨by rw [unhide HE]; rfl, unhide HX4⟩
      cases ho : t.toList == [79, 85, 84, 80, 85, 84]
      case true =>
        have HE := hide (unhide HBAD (by rw [unhide HST]; unfold inOut; rw [hi, ho]; rfl))
        clear HST HBAD
        go_wp2_with fail
        go_ret
        exact ⟨by rw [unhide HE]; rfl, unhide HX4⟩
      have HST := hide ((unhide HST).trans (show (!inOut t && (NN.take a).all fun x => !(t.toList == x.toList)) = (NN.take a).all fun x => !(t.toList == x.toList) by unfold inOut; rw [hi, ho]; rfl))
      go_wp2_with fail
      go_loopw [74] (fun j wi => ∃ b : Nat, b ≤ a ∧ j = .int .i64 (b : Int) ∧ Hid ((NN.take b).all (fun x => !(t.toList == x.toList)) = true) ∧ Hid (Below wc.heap.size wc wi) ∧ Hid (Below w.heap.size w wi)) (fun j _ => a - (intOf j).toNat)
      case atStart => exact ⟨0, by omega, rfl, rfl, HBO, HX4⟩
      case round =>
        obtain ⟨b, hb, rfl, HA, HBI, HX5⟩ := hrel
        clear ct
        have ct := unhide HCT _ (unhide HBI)
        rcases Nat.lt_or_ge b a with hba | hbge
        · obtain ⟨x, hx⟩ : ∃ x, NN[b]? = some x := ⟨NN[b]'(by have := unhide HLN; omega), List.getElem?_eq_getElem _⟩
          have cx : wr.cell? ⟨g, b, none⟩ = some (.string x) := by
            rw [(own_below (unhide HO) (unhide HBI)).cellAt b (by omega)]
            unfold strs
            rw [List.getElem?_map, hx]
            rfl
          have hib := sl_idx (g := g) (o := 0) (cap := cap) (i := b) (n := N) Tryd.underlying47 size_strS (by omega)
          rw [Nat.zero_add] at hib
          have hbb : (b : Int) < (a : Int) := by omega
          cases hq : t.toList == x.toList
          · have HA2 : Hid ((NN.take (b + 1)).all (fun x => !(t.toList == x.toList)) = true) := hide (by
              rw [List.take_add_one, hx]
              simp only [Option.toList_some, List.all_append, unhide HA, List.all_cons, hq, List.all_nil]
              rfl)
            clear hx HA
            go_wp2_with fail
            go_quiet (fail)
            go_wp2_with fail
            exact ⟨⟨b + 1, by omega, by go_num, HA2, hide (below_drewN (unhide HBI) _), hide (below_drewN (unhide HX5) _)⟩, by simp [intOf]; omega⟩
          · have HE := hide (unhide HBAD (by
              rw [unhide HST, ← Bool.not_eq_true, List.all_eq_true]
              intro h
              have hm : x ∈ NN.take a := by
                have h1 : (NN.take a)[b]? = some x := by rw [List.getElem?_take, if_pos hba]; exact hx
                exact List.mem_of_getElem? h1
              have := h x hm
              rw [hq] at this
              cases this))
            clear hx HA
            go_wp2_with fail
            go_quiet (fail)
            go_wp2_with fail
            go_ret
            exact ⟨by rw [unhide HE]; rfl, below_drewN (unhide HX5) _⟩
        · obtain rfl : b = a := by omega
          have HD2 := hide ((unhide HST).trans (unhide HA))
          clear HA
          go_wp2_with fail
          exact ⟨⟨b + 1, by omega, by go_num, HD2, HBI⟩, by simp [intOf]; omega⟩
    · obtain rfl : a = N := by omega
      have HE := hide ((unhide HNB).trans (unhide HD))
      clear HD
      go_wp2_with fail
      go_ret
      exact ⟨by rw [unhide HE]; rfl, unhide HX4⟩
end Go.Proofs.YtpphjddljngkmaaDoor
