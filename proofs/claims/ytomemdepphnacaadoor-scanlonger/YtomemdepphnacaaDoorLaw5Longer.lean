/- Who has more time comes to the same: ScanLonger is true of any rules, any pattern, any text, any fuel. -/
import Derived.Test.YtomemdepphnacaaDoorLongPlainM
import Derived.Test.YtomemdepphnacaaDoorOpenRules
import Derived.Test.YtomemdepphnacaaDoorScanItoa
import Derived.Deep.DeepHandedRow
import Derived.Stop.LaidErr
import Derived.Lib.LaidTab
namespace Go.Proofs.YtomemdepphnacaaDoor
open Go.RowKit

theorem tab_laterL {w W : World} {nm : String} {k : IntKind} {zs : List Int} (h : Lib.TabIs Tryd.prog w nm k zs) (hb : Below w.heap.size w W) : Lib.TabIs Tryd.prog W nm k zs := by
  unfold Lib.TabIs World.var? at h ⊢
  cases hg : Tryd.prog.globalNamed nm with
  | none => rw [hg] at h; cases h
  | some g =>
    simp only [hg, Option.bind_some] at h ⊢
    rcases Nat.lt_or_ge g w.heap.size with q | q
    · rw [hb.block g q]; exact h
    · rw [Array.getElem?_eq_none q] at h
      cases h
/-- How numbers are written. -/
def dgL (n : Nat) : ByteArray := ⟨(Lib.itoa (n : Int)).toArray⟩
theorem itoa_saysL {w : World} (h : Lib.TabIs Tryd.prog w "internal/strconv.uint64pow10" .u64 Lib.pow10Tab) : ItoaSays dgL w := fun n hn W hW => itoa_any n (by omega) W (tab_laterL h hW)
theorem tabs_longer {w : World} (h : laidMetH Tryd.prog Rows.scanLongerRow.laid w) : Shapes w ∧ ItoaSays dgL w := by
  have e : (Rows.scanLongerRow.laid.filter fun x => x.2.handleName?.isSome) = [] := by kernel_rfl
  have h' : laidMet Tryd.prog Rows.scanLongerRow.laid w := by
    have hp := h
    unfold laidMetH at hp
    rw [e] at hp
    exact hp
  refine ⟨shapes_of (rest := []) (laidMet.tail (laidMet.tail (laidMet.tail h'))), itoa_saysL ?_⟩
  exact Lib.tabIs_of_head (g := 1) (t := 137) (e := 124) (n := 20) (by kernel_rfl) (by kernel_rfl) Tryd.underlying137 Tryd.underlying124 (by kernel_rfl) (by kernel_rfl) (rest := _) (show laidMet Tryd.prog (("internal/strconv.uint64pow10", Lib.tabData .u64 Lib.pow10Tab) :: _) w from h'.tail.tail)

/-- What Match tells with other fuel: less than it took, or enough. -/
theorem said_fuel {RL : List (ByteArray × PT)} {dg : Nat → ByteArray} {T : PT} {s : ByteArray} {an : Bool} {f : Int} (h : (matchSaid RL dg T s an f).err = 0) :
    1 ≤ (matchSaid RL dg T s an f).ticks ∧ ((matchSaid RL dg T s an f).ticks : Int) ≤ f ∧ f ≤ 100000 ∧ ∀ g : Int, 0 ≤ g → g ≤ 100000 → (((matchSaid RL dg T s an f).ticks : Int) ≤ g → matchSaid RL dg T s an g = matchSaid RL dg T s an f) ∧ (g < ((matchSaid RL dg T s an f).ticks : Int) → (matchSaid RL dg T s an g).err = 10) := by
  by_cases hw : wrongR RL T s f = 0
  · have e : matchSaid RL dg T s an f = matchOf RL dg T s (if an = true then 0 else s.size) f.toNat := by unfold matchSaid; rw [if_neg (by rw [hw]; simp)]
    rw [e] at h ⊢
    obtain ⟨q1, q2, q3, q4, q5⟩ := wrongR_ok hw
    obtain ⟨h1, h2, h3⟩ := match_fuel h
    refine ⟨match_ticks h, by omega, q5, fun g hg hg2 => ?_⟩
    have hwg : wrongR RL T s g = 0 := by
      unfold wrongR
      rw [if_neg (by rw [q1]; simp), if_neg (by rw [q2]; simp), if_neg (by omega), if_neg (by omega)]
    have eg : matchSaid RL dg T s an g = matchOf RL dg T s (if an = true then 0 else s.size) g.toNat := by unfold matchSaid; rw [if_neg (by rw [hwg]; simp)]
    rw [eg]
    exact ⟨fun q => h2 g.toNat (by omega), fun q => h3 g.toNat (by omega)⟩
  · have e : matchSaid RL dg T s an f = ⟨false, 0, 0, [], 0, [], wrongR RL T s f⟩ := by unfold matchSaid; rw [if_pos hw]
    rw [e] at h
    exact absurd h hw

set_option maxRecDepth 100000 in
set_option maxHeartbeats 4000000 in
theorem scanLonger_walk {RL : List (ByteArray × PT)} {rv : Value} {dg : Nat → ByteArray} (T : PT) (s : ByteArray) (an : Bool) (f more : Int) (w : World) (hV : RVal w RL rv) (hT : T.In w) (hs : s.size ≤ maxLen) (hS : Shapes w) (hIt : ItoaSays dg w) :
    Calls Tryd.prog 6 #[rv, pv T, .string s, .bool an, .int .i64 f, .int .i64 more] w fun e w' => e = .returned (.bool true) ∧ Below w.heap.size w w' := by
  have HA := hide (fun W (h : Below w.heap.size w W) => alive5 (dg := dg) W (hIt.later h) (hS.later h))
  have HM := hide (fun W (h : Below w.heap.size w W) (g : Int) => match_any dg T s an g W (hV.later h) (hIt.later h) (PT.In.later h hT) (hS.later h) hs)
  have HF := hide (fun h => said_fuel (RL := RL) (dg := dg) (T := T) (s := s) (an := an) (f := f) h)
  obtain ⟨r, hr⟩ : ∃ r, r = matchSaid RL dg T s an f := ⟨_, rfl⟩
  rw [← hr] at HF
  have HR0 := hide hr
  obtain ⟨fd, fr, tz, GG, tt, td, er⟩ := r
  dsimp only at HF
  unfold pv at HM ⊢
  clear hV hT hs hS hIt hr
  go_enter Tryd.func6, Tryd.ntmps6
  go_wp2_with fail
  refine (unhide HA _ ((Below.refl _ _).alloc (Nat.le_refl _) _)).mono ?_
  rintro e w1 ⟨rfl, hb1⟩
  have g1 := row_below (at_new (w := w) (o := .cells #[.int .i64 T.k, .string T.t, .int .i64 T.n, .string T.nm, .slice T.xa T.len T.cap] 25) rfl) hb1
  have HB1 := hide (bnext ((Below.refl w.heap.size w).alloc (Nat.le_refl _) _) hb1)
  obtain ⟨y0, y1, y2, y3, y4⟩ := pats5 g1
  have HG1 := hide g1
  clear hb1 g1 HA
  go_wp2_with fail
  refine (unhide HM _ (unhide HB1) f).mono ?_
  rw [← unhide HR0]
  rintro e w2 ⟨a1, c1, a2, n2, c2, rfl, hb2, hG, hTd⟩
  dsimp only at hG hTd ⊢
  have hd : Below w2.heap.size w2 (w2.alloc (.cells #[.bool fd, .int .i64 (fr : Int), .int .i64 (tz : Int), .slice a1 GG.length c1, .slice a2 n2 c2, .int .i64 (tt : Int)] 28)) := (Below.refl _ _).alloc (Nat.le_refl _) _
  have hx2 := row_below (unhide HG1) hb2
  have hl2 := (Array.getElem?_eq_some_iff.1 hx2).1
  have HB2 := hide (bnext (unhide HB1) hb2)
  have HG2 := hide hx2
  have HRW := hide (And.intro hG hTd)
  clear y0 y1 y2 y3 y4 hb2 hx2 HG1 HB1 hd hG hTd
  by_cases her : er = 0
  · subst her
    obtain ⟨t1, t2, t3, hall⟩ := unhide HF rfl
    have t1' : ¬ (tt : Int) < 1 := by omega
    have t2' : ¬ f < (tt : Int) := by omega
    have hsub : wrap64 ((tt : Int) - 1) = (tt : Int) - 1 := IntWalk.wrap64_in _ (by omega)
    have hsub2 : IntKind.i64.wrap ((tt : Int) - 1) = (tt : Int) - 1 := (IntWalk.i64_left _).trans hsub
    have HALL := hide hall
    clear hall
    go_wp2_with fail
    have hb3 : Below w.heap.size w ((w2.alloc (.cells #[.bool fd, .int .i64 (fr : Int), .int .i64 (tz : Int), .slice a1 GG.length c1, .slice a2 n2 c2, .int .i64 (tt : Int)] 28)).alloc (.cells #[.int .i64 (tt : Int), .int .i64 more, .int .i64 ((tt : Int) - 1)] 3)) := ((unhide HB2).alloc (unhide HB2).size _).alloc (by have := (unhide HB2).size; simp only [World.size_alloc]; omega) _
    have hm3 : ((w2.alloc (.cells #[.bool fd, .int .i64 (fr : Int), .int .i64 (tz : Int), .slice a1 GG.length c1, .slice a2 n2 c2, .int .i64 (tt : Int)] 28)).alloc (.cells #[.int .i64 (tt : Int), .int .i64 more, .int .i64 ((tt : Int) - 1)] 3)).heap[w2.heap.size]? = some (.cells #[.bool fd, .int .i64 (fr : Int), .int .i64 (tz : Int), .slice a1 GG.length c1, .slice a2 n2 c2, .int .i64 (tt : Int)] 28 (0, 0)) := at_old (by simp) (at_new rfl)
    have hi3 : ((w2.alloc (.cells #[.bool fd, .int .i64 (fr : Int), .int .i64 (tz : Int), .slice a1 GG.length c1, .slice a2 n2 c2, .int .i64 (tt : Int)] 28)).alloc (.cells #[.int .i64 (tt : Int), .int .i64 more, .int .i64 ((tt : Int) - 1)] 3)).heap[w2.heap.size + 1]? = some (.cells #[.int .i64 (tt : Int), .int .i64 more, .int .i64 ((tt : Int) - 1)] 3 (0, 0)) := at_new (by simp)
    have hd3 : Below w2.heap.size w2 ((w2.alloc (.cells #[.bool fd, .int .i64 (fr : Int), .int .i64 (tz : Int), .slice a1 GG.length c1, .slice a2 n2 c2, .int .i64 (tt : Int)] 28)).alloc (.cells #[.int .i64 (tt : Int), .int .i64 more, .int .i64 ((tt : Int) - 1)] 3)) := ((Below.refl _ _).alloc (Nat.le_refl _) _).alloc (by simp) _
    have hx3 := row_below (unhide HG2) hd3
    have hG3 := (unhide HRW).1.later hd3
    have hT3 := ((unhide HRW).2 (by first | trivial | rfl)).later hd3
    obtain ⟨w3, hw3⟩ : ∃ w3, w3 = (w2.alloc (.cells #[.bool fd, .int .i64 (fr : Int), .int .i64 (tz : Int), .slice a1 GG.length c1, .slice a2 n2 c2, .int .i64 (tt : Int)] 28)).alloc (.cells #[.int .i64 (tt : Int), .int .i64 more, .int .i64 ((tt : Int) - 1)] 3) := ⟨_, rfl⟩
    rw [← hw3] at hb3 hm3 hi3 hx3 hG3 hT3 ⊢
    have H3 := hide (And.intro hb3 (And.intro hm3 (And.intro hi3 (And.intro hx3 (And.intro hG3 hT3)))))
    clear hb3 hm3 hi3 hx3 hG3 hT3 hd3 hw3 HRW HG2 HB2
    go_loopw [49] (fun q wr => ∃ k : Nat, k ≤ 3 ∧ q = .int .i64 (k : Int) ∧ Below w3.heap.size w3 wr) (fun q _ => 3 - (intOf q).toNat)
    case atStart => exact ⟨0, Nat.zero_le _, rfl, Below.refl _ _⟩
    case round =>
      obtain ⟨k, hk, rfl, hb⟩ := hrel
      obtain ⟨hb3, hm3, hi3, hx3, hG3, hT3⟩ := unhide H3
      rcases Nat.lt_or_ge k 3 with hlt | hge
      · have hlt' : (k : Int) < 3 := by omega
        have HMS := hide (show 3 - (intOf (Value.int IntKind.i64 ((k : Int) + 1))).toNat < 3 - (intOf (Value.int IntKind.i64 (k : Int))).toNat by simp [intOf]; omega)
        have hk1 : wrap64 ((k : Int) + 1) = (k : Int) + 1 := IntWalk.wrap64_in _ (by omega)
        have hk2 : IntKind.i64.wrap ((k : Int) + 1) = (k : Int) + 1 := (IntWalk.i64_left _).trans hk1
        obtain ⟨g, hg⟩ : ∃ g : Int, (#[.int .i64 (tt : Int), .int .i64 more, .int .i64 ((tt : Int) - 1)] : Array Value)[k]? = some (.int .i64 g) := by
          rcases (show k = 0 ∨ k = 1 ∨ k = 2 by omega) with rfl | rfl | rfl
          · exact ⟨_, rfl⟩
          · exact ⟨_, rfl⟩
          · exact ⟨_, rfl⟩
        have o0 : wr.cell? ⟨w2.heap.size + 1, k, none⟩ = some (.int .i64 g) := (cell_of_row wr _ _ _ _ _ (row_below hi3 hb)).trans hg
        have i0 : ∀ W, (Instr.indexAt 44 (.slice (some ⟨w2.heap.size + 1, 0, none⟩) 3 3) (.int .i64 (k : Int))).run Tryd.prog W = .ok (.pointer (some ⟨w2.heap.size + 1, k, none⟩)) W := fun W => by
          have := idx_run (g := w2.heap.size + 1) (n := 3) (cap := 3) (sz := 1) (e := 3) Tryd.underlying44 (by kernel_rfl) hlt W
          simpa using this
        have hxr := row_below hx3 hb
        have hmr := row_below hm3 hb
        obtain ⟨y0, y1, y2, y3, y4⟩ := pats5 hxr
        have H4 := hide (And.intro (bnext hb3 hb) (And.intro hmr (And.intro (hG3.later hb) (hT3.later hb))))
        have HBB := hide hb
        clear hb3 hm3 hi3 hx3 hG3 hT3 hxr hmr hg hb
        by_cases hg0 : g < 0
        · go_wp2_with fail
          exact ⟨⟨k + 1, hlt, by simp, unhide HBB⟩, unhide HMS⟩
        · by_cases hg1 : 100000 < g
          · have hg0' : (g < 0) = False := eq_false hg0
            go_wp2_with fail
            exact ⟨⟨k + 1, hlt, by simp, unhide HBB⟩, unhide HMS⟩
          · have hg0' : (g < 0) = False := eq_false hg0
            have hg1' : (100000 < g) = False := eq_false hg1
            have hsd := unhide HALL g (by omega) (by omega)
            have HMg := hide (unhide HM _ (unhide H4).1 g)
            by_cases hgt : (tt : Int) ≤ g
            · have hgt' : (g < (tt : Int)) = False := eq_false (by omega)
              rw [hsd.1 hgt] at HMg
              clear hsd hg0 hg1
              go_wp2_with fail
              refine (unhide HMg).mono ?_
              rintro e w4 ⟨b1, e1, b2, k2, e2, rfl, hb4, hG4, hT4⟩
              dsimp only at hG4 hT4 ⊢
              have hd5 : Below w4.heap.size w4 (w4.alloc (.cells #[.bool fd, .int .i64 (fr : Int), .int .i64 (tz : Int), .slice b1 GG.length e1, .slice b2 k2 e2, .int .i64 (tt : Int)] 28)) := (Below.refl _ _).alloc (Nat.le_refl _) _
              have hm5 := row_below (row_below (unhide H4).2.1 hb4) hd5
              have hn5 : (w4.alloc (.cells #[.bool fd, .int .i64 (fr : Int), .int .i64 (tz : Int), .slice b1 GG.length e1, .slice b2 k2 e2, .int .i64 (tt : Int)] 28)).heap[w4.heap.size]? = some (.cells #[.bool fd, .int .i64 (fr : Int), .int .i64 (tz : Int), .slice b1 GG.length e1, .slice b2 k2 e2, .int .i64 (tt : Int)] 28 (0, 0)) := at_new rfl
              have HS1 := hide (sameGifts_same (((unhide H4).2.2.1.later hb4).later hd5) (hG4.later hd5))
              have HS2 := hide (And.intro (((unhide H4).2.2.2.later hb4).later hd5) ((hT4 rfl).later hd5))
              have HB5 := hide (bnext (bnext (unhide HBB) hb4) hd5)
              obtain ⟨⟨x0, x1, x2, x3, x4, x5⟩, -⟩ := cells6 hm5
              obtain ⟨⟨z0, z1, z2, z3, z4, z5⟩, -⟩ := cells6 hn5
              have HR5 := hide (And.intro hm5 hn5)
              clear hd5 hm5 hn5 hb4 hG4 hT4 y0 y1 y2 y3 y4 o0 i0 HMg H4 HBB
              go_wp2_with fail
              refine (unhide HS1).mono ?_
              rintro e w6 ⟨rfl, hb6⟩
              have HS3 := hide (sameGifts_same ((unhide HS2).1.later hb6) ((unhide HS2).2.later hb6))
              have hm6 := row_below (unhide HR5).1 hb6
              have hn6 := row_below (unhide HR5).2 hb6
              have HB6 := hide (bnext (unhide HB5) hb6)
              clear x0 x1 x2 x3 x4 x5 z0 z1 z2 z3 z4 z5
              obtain ⟨⟨x0, x1, x2, x3, x4, x5⟩, -⟩ := cells6 hm6
              obtain ⟨⟨z0, z1, z2, z3, z4, z5⟩, -⟩ := cells6 hn6
              clear hb6 hm6 hn6 HR5 HB5 HS1 HS2
              go_wp2_with fail
              refine (unhide HS3).mono ?_
              rintro e w7 ⟨rfl, hb7⟩
              have HB7 := hide (bnext (unhide HB6) hb7)
              clear hb7 x0 x1 x2 x3 x4 x5 z0 z1 z2 z3 z4 z5
              go_wp2_with fail
              exact ⟨⟨k + 1, hlt, by simp, unhide HB7⟩, unhide HMS⟩
            · have hgt' : (g < (tt : Int)) = True := eq_true (by omega)
              have he10 := hsd.2 (by omega)
              obtain ⟨r', hr'⟩ : ∃ r', r' = matchSaid RL dg T s an g := ⟨_, rfl⟩
              rw [← hr'] at HMg he10
              obtain ⟨fd', fr', tz', GG', tt', td', er'⟩ := r'
              have he10 : er' = 10 := he10
              subst he10
              clear hsd hg0 hg1 hr'
              go_wp2_with fail
              refine (unhide HMg).mono ?_
              rintro e w4 ⟨b1, e1, b2, k2, e2, rfl, hb4, -, -⟩
              dsimp only
              have hd5 : Below w4.heap.size w4 (w4.alloc (.cells #[.bool fd', .int .i64 (fr' : Int), .int .i64 (tz' : Int), .slice b1 GG'.length e1, .slice b2 k2 e2, .int .i64 (tt' : Int)] 28)) := (Below.refl _ _).alloc (Nat.le_refl _) _
              have hm5 := row_below (row_below (unhide H4).2.1 hb4) hd5
              have HB5 := hide (bnext (bnext (unhide HBB) hb4) hd5)
              obtain ⟨⟨x0, x1, x2, x3, x4, x5⟩, -⟩ := cells6 hm5
              clear hd5 hm5 hb4 y0 y1 y2 y3 y4 o0 i0 HMg H4 HBB
              go_wp2_with fail
              exact ⟨⟨k + 1, hlt, by simp, unhide HB5⟩, unhide HMS⟩
      · have hge' : ¬ (k : Int) < 3 := by omega
        have HBE := hide (bnext hb3 hb)
        clear hb3 hm3 hi3 hx3 hG3 hT3
        go_wp2_with fail
        go_ret
        exact ⟨rfl, unhide HBE⟩
  · have hne : (er == 0) = false := by rw [beq_eq_false_iff_ne]; exact her
    have hne' : (er != 0) = true := by rw [bne_iff_ne]; exact her
    clear HF HRW
    go_wp2_with fail
    go_ret
    exact ⟨rfl, (unhide HB2).alloc (unhide HB2).size _⟩
end Go.Proofs.YtomemdepphnacaaDoor
