/- Who has more time comes to the same: ScanLonger is true of any rules, any pattern, any text, any fuel. The first of all is found: ScanFirst is true of any rules, any pattern, any text. -/
import Derived.Test.YtomemdepphnacaaDoorLongPlainM
import Derived.Test.YtomemdepphnacaaDoorOpenRules
import Derived.Test.YtomemdepphnacaaDoorScanItoa
import Derived.Deep.DeepHandedRow
import Derived.Stop.LaidErr
import Derived.Lib.LaidTab
namespace Go.Proofs.YtomemdepphnacaaDoor
open Go.RowKit

theorem tab_laterL {w W : World} {nm : String} {k : IntKind} {zs : List Int} (h : Lib.TabIs Tryd.prog w nm k zs) (hb : Below w.heap.size w W) : Lib.TabIs Tryd.prog W nm k zs := by
  unfold Lib.TabIs World.var? at h ⊢
  cases hg : Tryd.prog.globalNamed nm with
  | none => rw [hg] at h; cases h
  | some g =>
    simp only [hg, Option.bind_some] at h ⊢
    rcases Nat.lt_or_ge g w.heap.size with q | q
    · rw [hb.block g q]; exact h
    · rw [Array.getElem?_eq_none q] at h
      cases h
/-- How numbers are written. -/
def dgL (n : Nat) : ByteArray := ⟨(Lib.itoa (n : Int)).toArray⟩
theorem itoa_saysL {w : World} (h : Lib.TabIs Tryd.prog w "internal/strconv.uint64pow10" .u64 Lib.pow10Tab) : ItoaSays dgL w := fun n hn W hW => itoa_any n (by omega) W (tab_laterL h hW)
theorem tabs_longer {w : World} (h : laidMetH Tryd.prog Rows.scanLongerRow.laid w) : Shapes w ∧ ItoaSays dgL w := by
  have e : (Rows.scanLongerRow.laid.filter fun x => x.2.handleName?.isSome) = [] := by kernel_rfl
  have h' : laidMet Tryd.prog Rows.scanLongerRow.laid w := by
    have hp := h
    unfold laidMetH at hp
    rw [e] at hp
    exact hp
  refine ⟨shapes_of (rest := []) (laidMet.tail (laidMet.tail (laidMet.tail h'))), itoa_saysL ?_⟩
  exact Lib.tabIs_of_head (g := 1) (t := 137) (e := 124) (n := 20) (by kernel_rfl) (by kernel_rfl) Tryd.underlying137 Tryd.underlying124 (by kernel_rfl) (by kernel_rfl) (rest := _) (show laidMet Tryd.prog (("internal/strconv.uint64pow10", Lib.tabData .u64 Lib.pow10Tab) :: _) w from h'.tail.tail)

/-- What Match tells with other fuel: less than it took, or enough. -/
theorem said_fuel {RL : List (ByteArray × PT)} {dg : Nat → ByteArray} {T : PT} {s : ByteArray} {an : Bool} {f : Int} (h : (matchSaid RL dg T s an f).err = 0) :
    1 ≤ (matchSaid RL dg T s an f).ticks ∧ ((matchSaid RL dg T s an f).ticks : Int) ≤ f ∧ f ≤ 100000 ∧ ∀ g : Int, 0 ≤ g → g ≤ 100000 → (((matchSaid RL dg T s an f).ticks : Int) ≤ g → matchSaid RL dg T s an g = matchSaid RL dg T s an f) ∧ (g < ((matchSaid RL dg T s an f).ticks : Int) → (matchSaid RL dg T s an g).err = 10) := by
  by_cases hw : wrongR RL T s f = 0
  · have e : matchSaid RL dg T s an f = matchOf RL dg T s (if an = true then 0 else s.size) f.toNat := by unfold matchSaid; rw [if_neg (by rw [hw]; simp)]
    rw [e] at h ⊢
    obtain ⟨q1, q2, q3, q4, q5⟩ := wrongR_ok hw
    obtain ⟨h1, h2, h3⟩ := match_fuel h
    refine ⟨match_ticks h, by omega, q5, fun g hg hg2 => ?_⟩
    have hwg : wrongR RL T s g = 0 := by
      unfold wrongR
      rw [if_neg (by rw [q1]; simp), if_neg (by rw [q2]; simp), if_neg (by omega), if_neg (by omega)]
    have eg : matchSaid RL dg T s an g = matchOf RL dg T s (if an = true then 0 else s.size) g.toNat := by unfold matchSaid; rw [if_neg (by rw [hwg]; simp)]
    rw [eg]
    exact ⟨fun q => h2 g.toNat (by omega), fun q => h3 g.toNat (by omega)⟩
  · have e : matchSaid RL dg T s an f = ⟨false, 0, 0, [], 0, [], wrongR RL T s f⟩ := by unfold matchSaid; rw [if_pos hw]
    rw [e] at h
    exact absurd h hw

set_option maxRecDepth 100000 in
set_option maxHeartbeats 4000000 in
theorem scanLonger_walk {RL : List (ByteArray × PT)} {rv : Value} {dg : Nat → ByteArray} (T : PT) (s : ByteArray) (an : Bool) (f more : Int) (w : World) (hV : RVal w RL rv) (hT : T.In w) (hs : s.size ≤ maxLen) (hS : Shapes w) (hIt : ItoaSays dg w) :
    Calls Tryd.prog 6 #[rv, pv T, .string s, .bool an, .int .i64 f, .int .i64 more] w fun e w' => e = .returned (.bool true) ∧ Below w.heap.size w w' := by
  have HA := hide (fun W (h : Below w.heap.size w W) => alive5 (dg := dg) W (hIt.later h) (hS.later h))
  have HM := hide (fun W (h : Below w.heap.size w W) (g : Int) => match_any dg T s an g W (hV.later h) (hIt.later h) (PT.In.later h hT) (hS.later h) hs)
  have HF := hide (fun h => said_fuel (RL := RL) (dg := dg) (T := T) (s := s) (an := an) (f := f) h)
  obtain ⟨r, hr⟩ : ∃ r, r = matchSaid RL dg T s an f := ⟨_, rfl⟩
  rw [← hr] at HF
  have HR0 := hide hr
  obtain ⟨fd, fr, tz, GG, tt, td, er⟩ := r
  dsimp only at HF
  unfold pv at HM ⊢
  clear hV hT hs hS hIt hr
  go_enter Tryd.func6, Tryd.ntmps6
  go_wp2_with fail
  refine (unhide HA _ ((Below.refl _ _).alloc (Nat.le_refl _) _)).mono ?_
  rintro e w1 ⟨rfl, hb1⟩
  have g1 := row_below (at_new (w := w) (o := .cells #[.int .i64 T.k, .string T.t, .int .i64 T.n, .string T.nm, .slice T.xa T.len T.cap] 25) rfl) hb1
  have HB1 := hide (bnext ((Below.refl w.heap.size w).alloc (Nat.le_refl _) _) hb1)
  obtain ⟨y0, y1, y2, y3, y4⟩ := pats5 g1
  have HG1 := hide g1
  clear hb1 g1 HA
  go_wp2_with fail
  refine (unhide HM _ (unhide HB1) f).mono ?_
  rw [← unhide HR0]
  rintro e w2 ⟨a1, c1, a2, n2, c2, rfl, hb2, hG, hTd⟩
  dsimp only at hG hTd ⊢
  have hd : Below w2.heap.size w2 (w2.alloc (.cells #[.bool fd, .int .i64 (fr : Int), .int .i64 (tz : Int), .slice a1 GG.length c1, .slice a2 n2 c2, .int .i64 (tt : Int)] 28)) := (Below.refl _ _).alloc (Nat.le_refl _) _
  have hx2 := row_below (unhide HG1) hb2
  have hl2 := (Array.getElem?_eq_some_iff.1 hx2).1
  have HB2 := hide (bnext (unhide HB1) hb2)
  have HG2 := hide hx2
  have HRW := hide (And.intro hG hTd)
  clear y0 y1 y2 y3 y4 hb2 hx2 HG1 HB1 hd hG hTd
  by_cases her : er = 0
  · subst her
    obtain ⟨t1, t2, t3, hall⟩ := unhide HF rfl
    have t1' : ¬ (tt : Int) < 1 := by omega
    have t2' : ¬ f < (tt : Int) := by omega
    have hsub : wrap64 ((tt : Int) - 1) = (tt : Int) - 1 := IntWalk.wrap64_in _ (by omega)
    have hsub2 : IntKind.i64.wrap ((tt : Int) - 1) = (tt : Int) - 1 := (IntWalk.i64_left _).trans hsub
    have HALL := hide hall
    clear hall
    go_wp2_with fail
    have hb3 : Below w.heap.size w ((w2.alloc (.cells #[.bool fd, .int .i64 (fr : Int), .int .i64 (tz : Int), .slice a1 GG.length c1, .slice a2 n2 c2, .int .i64 (tt : Int)] 28)).alloc (.cells #[.int .i64 (tt : Int), .int .i64 more, .int .i64 ((tt : Int) - 1)] 3)) := ((unhide HB2).alloc (unhide HB2).size _).alloc (by have := (unhide HB2).size; simp only [World.size_alloc]; omega) _
    have hm3 : ((w2.alloc (.cells #[.bool fd, .int .i64 (fr : Int), .int .i64 (tz : Int), .slice a1 GG.length c1, .slice a2 n2 c2, .int .i64 (tt : Int)] 28)).alloc (.cells #[.int .i64 (tt : Int), .int .i64 more, .int .i64 ((tt : Int) - 1)] 3)).heap[w2.heap.size]? = some (.cells #[.bool fd, .int .i64 (fr : Int), .int .i64 (tz : Int), .slice a1 GG.length c1, .slice a2 n2 c2, .int .i64 (tt : Int)] 28 (0, 0)) := at_old (by simp) (at_new rfl)
    have hi3 : ((w2.alloc (.cells #[.bool fd, .int .i64 (fr : Int), .int .i64 (tz : Int), .slice a1 GG.length c1, .slice a2 n2 c2, .int .i64 (tt : Int)] 28)).alloc (.cells #[.int .i64 (tt : Int), .int .i64 more, .int .i64 ((tt : Int) - 1)] 3)).heap[w2.heap.size + 1]? = some (.cells #[.int .i64 (tt : Int), .int .i64 more, .int .i64 ((tt : Int) - 1)] 3 (0, 0)) := at_new (by simp)
    have hd3 : Below w2.heap.size w2 ((w2.alloc (.cells #[.bool fd, .int .i64 (fr : Int), .int .i64 (tz : Int), .slice a1 GG.length c1, .slice a2 n2 c2, .int .i64 (tt : Int)] 28)).alloc (.cells #[.int .i64 (tt : Int), .int .i64 more, .int .i64 ((tt : Int) - 1)] 3)) := ((Below.refl _ _).alloc (Nat.le_refl _) _).alloc (by simp) _
    have hx3 := row_below (unhide HG2) hd3
    have hG3 := (unhide HRW).1.later hd3
    have hT3 := ((unhide HRW).2 (by first | trivial | rfl)).later hd3
    obtain ⟨w3, hw3⟩ : ∃ w3, w3 = (w2.alloc (.cells #[.bool fd, .int .i64 (fr : Int), .int .i64 (tz : Int), .slice a1 GG.length c1, .slice a2 n2 c2, .int .i64 (tt : Int)] 28)).alloc (.cells #[.int .i64 (tt : Int), .int .i64 more, .int .i64 ((tt : Int) - 1)] 3) := ⟨_, rfl⟩
    rw [← hw3] at hb3 hm3 hi3 hx3 hG3 hT3 ⊢
    have H3 := hide (And.intro hb3 (And.intro hm3 (And.intro hi3 (And.intro hx3 (And.intro hG3 hT3)))))
    clear hb3 hm3 hi3 hx3 hG3 hT3 hd3 hw3 HRW HG2 HB2
    go_loopw [49] (fun q wr => ∃ k : Nat, k ≤ 3 ∧ q = .int .i64 (k : Int) ∧ Below w3.heap.size w3 wr) (fun q _ => 3 - (intOf q).toNat)
    case atStart => exact ⟨0, Nat.zero_le _, rfl, Below.refl _ _⟩
    case round =>
      obtain ⟨k, hk, rfl, hb⟩ := hrel
      obtain ⟨hb3, hm3, hi3, hx3, hG3, hT3⟩ := unhide H3
      rcases Nat.lt_or_ge k 3 with hlt | hge
      · have hlt' : (k : Int) < 3 := by omega
        have HMS := hide (show 3 - (intOf (Value.int IntKind.i64 ((k : Int) + 1))).toNat < 3 - (intOf (Value.int IntKind.i64 (k : Int))).toNat by simp [intOf]; omega)
        have hk1 : wrap64 ((k : Int) + 1) = (k : Int) + 1 := IntWalk.wrap64_in _ (by omega)
        have hk2 : IntKind.i64.wrap ((k : Int) + 1) = (k : Int) + 1 := (IntWalk.i64_left _).trans hk1
        obtain ⟨g, hg⟩ : ∃ g : Int, (#[.int .i64 (tt : Int), .int .i64 more, .int .i64 ((tt : Int) - 1)] : Array Value)[k]? = some (.int .i64 g) := by
          rcases (show k = 0 ∨ k = 1 ∨ k = 2 by omega) with rfl | rfl | rfl
          · exact ⟨_, rfl⟩
          · exact ⟨_, rfl⟩
          · exact ⟨_, rfl⟩
        have o0 : wr.cell? ⟨w2.heap.size + 1, k, none⟩ = some (.int .i64 g) := (cell_of_row wr _ _ _ _ _ (row_below hi3 hb)).trans hg
        have i0 : ∀ W, (Instr.indexAt 44 (.slice (some ⟨w2.heap.size + 1, 0, none⟩) 3 3) (.int .i64 (k : Int))).run Tryd.prog W = .ok (.pointer (some ⟨w2.heap.size + 1, k, none⟩)) W := fun W => by
          have := idx_run (g := w2.heap.size + 1) (n := 3) (cap := 3) (sz := 1) (e := 3) Tryd.underlying44 (by kernel_rfl) hlt W
          simpa using this
        have hxr := row_below hx3 hb
        have hmr := row_below hm3 hb
        obtain ⟨y0, y1, y2, y3, y4⟩ := pats5 hxr
        have H4 := hide (And.intro (bnext hb3 hb) (And.intro hmr (And.intro (hG3.later hb) (hT3.later hb))))
        have HBB := hide hb
        clear hb3 hm3 hi3 hx3 hG3 hT3 hxr hmr hg hb
        by_cases hg0 : g < 0
        · go_wp2_with fail
          exact ⟨⟨k + 1, hlt, by simp, unhide HBB⟩, unhide HMS⟩
        · by_cases hg1 : 100000 < g
          · have hg0' : (g < 0) = False := eq_false hg0
            go_wp2_with fail
            exact ⟨⟨k + 1, hlt, by simp, unhide HBB⟩, unhide HMS⟩
          · have hg0' : (g < 0) = False := eq_false hg0
            have hg1' : (100000 < g) = False := eq_false hg1
            have hsd := unhide HALL g (by omega) (by omega)
            have HMg := hide (unhide HM _ (unhide H4).1 g)
            by_cases hgt : (tt : Int) ≤ g
            · have hgt' : (g < (tt : Int)) = False := eq_false (by omega)
              rw [hsd.1 hgt] at HMg
              clear hsd hg0 hg1
              go_wp2_with fail
              refine (unhide HMg).mono ?_
              rintro e w4 ⟨b1, e1, b2, k2, e2, rfl, hb4, hG4, hT4⟩
              dsimp only at hG4 hT4 ⊢
              have hd5 : Below w4.heap.size w4 (w4.alloc (.cells #[.bool fd, .int .i64 (fr : Int), .int .i64 (tz : Int), .slice b1 GG.length e1, .slice b2 k2 e2, .int .i64 (tt : Int)] 28)) := (Below.refl _ _).alloc (Nat.le_refl _) _
              have hm5 := row_below (row_below (unhide H4).2.1 hb4) hd5
              have hn5 : (w4.alloc (.cells #[.bool fd, .int .i64 (fr : Int), .int .i64 (tz : Int), .slice b1 GG.length e1, .slice b2 k2 e2, .int .i64 (tt : Int)] 28)).heap[w4.heap.size]? = some (.cells #[.bool fd, .int .i64 (fr : Int), .int .i64 (tz : Int), .slice b1 GG.length e1, .slice b2 k2 e2, .int .i64 (tt : Int)] 28 (0, 0)) := at_new rfl
              have HS1 := hide (sameGifts_same (((unhide H4).2.2.1.later hb4).later hd5) (hG4.later hd5))
              have HS2 := hide (And.intro (((unhide H4).2.2.2.later hb4).later hd5) ((hT4 rfl).later hd5))
              have HB5 := hide (bnext (bnext (unhide HBB) hb4) hd5)
              obtain ⟨⟨x0, x1, x2, x3, x4, x5⟩, -⟩ := cells6 hm5
              obtain ⟨⟨z0, z1, z2, z3, z4, z5⟩, -⟩ := cells6 hn5
              have HR5 := hide (And.intro hm5 hn5)
              clear hd5 hm5 hn5 hb4 hG4 hT4 y0 y1 y2 y3 y4 o0 i0 HMg H4 HBB
              go_wp2_with fail
              refine (unhide HS1).mono ?_
              rintro e w6 ⟨rfl, hb6⟩
              have HS3 := hide (sameGifts_same ((unhide HS2).1.later hb6) ((unhide HS2).2.later hb6))
              have hm6 := row_below (unhide HR5).1 hb6
              have hn6 := row_below (unhide HR5).2 hb6
              have HB6 := hide (bnext (unhide HB5) hb6)
              clear x0 x1 x2 x3 x4 x5 z0 z1 z2 z3 z4 z5
              obtain ⟨⟨x0, x1, x2, x3, x4, x5⟩, -⟩ := cells6 hm6
              obtain ⟨⟨z0, z1, z2, z3, z4, z5⟩, -⟩ := cells6 hn6
              clear hb6 hm6 hn6 HR5 HB5 HS1 HS2
              go_wp2_with fail
              refine (unhide HS3).mono ?_
              rintro e w7 ⟨rfl, hb7⟩
              have HB7 := hide (bnext (unhide HB6) hb7)
              clear hb7 x0 x1 x2 x3 x4 x5 z0 z1 z2 z3 z4 z5
              go_wp2_with fail
              exact ⟨⟨k + 1, hlt, by simp, unhide HB7⟩, unhide HMS⟩
            · have hgt' : (g < (tt : Int)) = True := eq_true (by omega)
              have he10 := hsd.2 (by omega)
              obtain ⟨r', hr'⟩ : ∃ r', r' = matchSaid RL dg T s an g := ⟨_, rfl⟩
              rw [← hr'] at HMg he10
              obtain ⟨fd', fr', tz', GG', tt', td', er'⟩ := r'
              have he10 : er' = 10 := he10
              subst he10
              clear hsd hg0 hg1 hr'
              go_wp2_with fail
              refine (unhide HMg).mono ?_
              rintro e w4 ⟨b1, e1, b2, k2, e2, rfl, hb4, -, -⟩
              dsimp only
              have hd5 : Below w4.heap.size w4 (w4.alloc (.cells #[.bool fd', .int .i64 (fr' : Int), .int .i64 (tz' : Int), .slice b1 GG'.length e1, .slice b2 k2 e2, .int .i64 (tt' : Int)] 28)) := (Below.refl _ _).alloc (Nat.le_refl _) _
              have hm5 := row_below (row_below (unhide H4).2.1 hb4) hd5
              have HB5 := hide (bnext (bnext (unhide HBB) hb4) hd5)
              obtain ⟨⟨x0, x1, x2, x3, x4, x5⟩, -⟩ := cells6 hm5
              clear hd5 hm5 hb4 y0 y1 y2 y3 y4 o0 i0 HMg H4 HBB
              go_wp2_with fail
              exact ⟨⟨k + 1, hlt, by simp, unhide HB5⟩, unhide HMS⟩
      · have hge' : ¬ (k : Int) < 3 := by omega
        have HBE := hide (bnext hb3 hb)
        clear hb3 hm3 hi3 hx3 hG3 hT3
        go_wp2_with fail
        go_ret
        exact ⟨rfl, unhide HBE⟩
  · have hne : (er == 0) = false := by rw [beq_eq_false_iff_ne]; exact her
    have hne' : (er != 0) = true := by rw [bne_iff_ne]; exact her
    clear HF HRW
    go_wp2_with fail
    go_ret
    exact ⟨rfl, (unhide HB2).alloc (unhide HB2).size _⟩
end Go.Proofs.YtomemdepphnacaaDoor

namespace Go.Proofs.YtomemdepphnacaaDoor
open Go.RowKit

theorem tabs_first {w : World} (h : laidMetH Tryd.prog Rows.scanFirstRow.laid w) : Shapes w ∧ ItoaSays dgL w := by
  have e : (Rows.scanFirstRow.laid.filter fun x => x.2.handleName?.isSome) = [] := by kernel_rfl
  have h' : laidMet Tryd.prog Rows.scanFirstRow.laid w := by
    have hp := h
    unfold laidMetH at hp
    rw [e] at hp
    exact hp
  refine ⟨shapes_of (rest := []) (laidMet.tail (laidMet.tail (laidMet.tail h'))), itoa_saysL ?_⟩
  exact Lib.tabIs_of_head (g := 1) (t := 137) (e := 124) (n := 20) (by kernel_rfl) (by kernel_rfl) Tryd.underlying137 Tryd.underlying124 (by kernel_rfl) (by kernel_rfl) (rest := _) (show laidMet Tryd.prog (("internal/strconv.uint64pow10", Lib.tabData .u64 Lib.pow10Tab) :: _) w from h'.tail.tail)

/-- What look goes through, with the fuel of the law. -/
def lkF (RL : List (ByteArray × PT)) (dg : Nat → ByteArray) (T : PT) (s : ByteArray) (n j t : Nat) (d : List Gft) : MR := lk (fun j => D s (fun nm => ruleOf nm RL) dg (20000 + 1) T j []) 20000 n j t d
theorem said_lk {RL : List (ByteArray × PT)} {dg : Nat → ByteArray} {T : PT} {s : ByteArray} (h : (matchSaid RL dg T s false 20000).err = 0) : wrongR RL T s ((20000 : Nat) : Int) = 0 ∧ matchSaid RL dg T s false 20000 = lkF RL dg T s (s.size + 1) 0 0 [] := by
  by_cases hw : wrongR RL T s 20000 = 0
  · refine ⟨hw, ?_⟩
    unfold matchSaid
    rw [if_neg (by rw [hw]; simp), if_neg (by simp)]
    rfl
  · have e : matchSaid RL dg T s false 20000 = ⟨false, 0, 0, [], 0, [], wrongR RL T s 20000⟩ := by unfold matchSaid; rw [if_pos hw]
    rw [e] at h
    exact absurd h hw

set_option maxRecDepth 100000 in
set_option maxHeartbeats 4000000 in
theorem scanFirst_walk {RL : List (ByteArray × PT)} {rv : Value} {dg : Nat → ByteArray} (T : PT) (s : ByteArray) (w : World) (hV : RVal w RL rv) (hT : T.In w) (hs : s.size ≤ maxLen) (hS : Shapes w) (hIt : ItoaSays dg w) :
    Calls Tryd.prog 5 #[rv, pv T, .string s] w fun e w' => e = .returned (.bool true) ∧ Below w.heap.size w w' := by
  have HA := hide (fun W (h : Below w.heap.size w W) => alive5 (dg := dg) W (hIt.later h) (hS.later h))
  have HM := hide (fun W (h : Below w.heap.size w W) => match_any dg T s false 20000 W (hV.later h) (hIt.later h) (PT.In.later h hT) (hS.later h) hs)
  have HY := hide (fun W (h : Below w.heap.size w W) (j : Nat) => ways_any dg T s (j : Int) 1 20000 W (hV.later h) (hIt.later h) (PT.In.later h hT) (hS.later h) hs)
  have HF := hide (fun h => said_lk (RL := RL) (dg := dg) (T := T) (s := s) h)
  obtain ⟨r, hr⟩ : ∃ r, r = matchSaid RL dg T s false 20000 := ⟨_, rfl⟩
  rw [← hr] at HF HM
  obtain ⟨fd, fr, tz, GG, tt, td, er⟩ := r
  dsimp only at HF
  unfold pv at HM HY ⊢
  unfold maxLen at hs
  clear hV hT hS hIt hr
  go_enter Tryd.func5, Tryd.ntmps5
  go_wp2_with fail
  refine (unhide HA _ ((Below.refl _ _).alloc (Nat.le_refl _) _)).mono ?_
  rintro e w1 ⟨rfl, hb1⟩
  have g1 := row_below (at_new (w := w) (o := .cells #[.int .i64 T.k, .string T.t, .int .i64 T.n, .string T.nm, .slice T.xa T.len T.cap] 25) rfl) hb1
  have HB1 := hide (bnext ((Below.refl w.heap.size w).alloc (Nat.le_refl _) _) hb1)
  obtain ⟨y0, y1, y2, y3, y4⟩ := pats5 g1
  have HG1 := hide g1
  clear hb1 g1 HA
  go_wp2_with fail
  refine (unhide HM _ (unhide HB1)).mono ?_
  rintro e w2 ⟨a1, c1, a2, n2, c2, rfl, hb2, hG, -⟩
  dsimp only at hG ⊢
  have HB2 := hide (bnext (unhide HB1) hb2)
  have hx2 := row_below (unhide HG1) hb2
  have HG2 := hide hx2
  have HRW := hide hG
  clear y0 y1 y2 y3 y4 hb2 hx2 HG1 HB1 hG HM
  by_cases her : er = 0
  · subst her
    rcases Nat.lt_or_ge 200 s.size with h200 | h200
    · have h2 : (200 : Int) < (s.size : Int) := by omega
      clear HF HRW
      go_wp2_with fail
      go_ret
      exact ⟨rfl, (unhide HB2).alloc (unhide HB2).size _⟩
    · have h2 : ¬ (200 : Int) < (s.size : Int) := by omega
      obtain ⟨hw, hlk⟩ := unhide HF rfl
      have HWR := hide hw
      clear HF hw
      have hd : Below w2.heap.size w2 (w2.alloc (.cells #[.bool fd, .int .i64 (fr : Int), .int .i64 (tz : Int), .slice a1 GG.length c1, .slice a2 n2 c2, .int .i64 (tt : Int)] 28)) := (Below.refl _ _).alloc (Nat.le_refl _) _
      have hm3 : (w2.alloc (.cells #[.bool fd, .int .i64 (fr : Int), .int .i64 (tz : Int), .slice a1 GG.length c1, .slice a2 n2 c2, .int .i64 (tt : Int)] 28)).heap[w2.heap.size]? = some (.cells #[.bool fd, .int .i64 (fr : Int), .int .i64 (tz : Int), .slice a1 GG.length c1, .slice a2 n2 c2, .int .i64 (tt : Int)] 28 (0, 0)) := at_new rfl
      have hx3 := row_below (unhide HG2) hd
      have hb3 := bnext (unhide HB2) hd
      have hG3 := (unhide HRW).later hd
      obtain ⟨w3, hw3⟩ : ∃ w3, w3 = w2.alloc (.cells #[.bool fd, .int .i64 (fr : Int), .int .i64 (tz : Int), .slice a1 GG.length c1, .slice a2 n2 c2, .int .i64 (tt : Int)] 28) := ⟨_, rfl⟩
      rw [← hw3] at hm3 hx3 hb3 hG3
      have H3 := hide (And.intro hm3 (And.intro hx3 (And.intro hb3 hG3)))
      clear hd hm3 hx3 hb3 hG3 HG2 HB2 HRW
      have HLK := hide hlk
      clear hlk
      go_wp2_with fail
      rw [← hw3]
      clear hw3
      go_loopw [9] (fun q wr => ∃ (j t : Nat) (d : List Gft), j ≤ s.size + 1 ∧ q = .int .i64 (j : Int) ∧ t ≤ 20000 ∧ Below w3.heap.size w3 wr ∧ Hid ((⟨fd, fr, tz, GG, tt, td, 0⟩ : MR) = lkF RL dg T s (s.size + 1 - j) j t d)) (fun q _ => s.size + 2 - (intOf q).toNat)
      case atStart => exact ⟨0, 0, [], Nat.zero_le _, rfl, Nat.zero_le _, Below.refl _ _, HLK⟩
      case round =>
        clear HLK
        obtain ⟨j, t, d, hj, rfl, ht, hb, HLJ⟩ := hrel
        obtain ⟨hm3, hx3, hb3, hG3⟩ := unhide H3
        have hmr := row_below hm3 hb
        have hxr := row_below hx3 hb
        have hbr := bnext hb3 hb
        rcases Nat.lt_or_ge s.size j with hjs | hjs
        · have hjs' : ¬ (j : Int) ≤ (s.size : Int) := by omega
          have hend := unhide HLJ
          rw [show s.size + 1 - j = 0 by omega] at hend
          obtain ⟨⟨x0, x1, x2, x3, x4, x5⟩, -⟩ := cells6 hmr
          injection hend with e1 e2 e3 e4 e5 e6 e7
          subst e1 e2 e3 e4
          have HBB := hide hbr
          clear hm3 hx3 hb3 hG3 hmr hxr hbr hb e5 e6 e7 HLJ
          go_wp2_with fail
          go_ret
          exact ⟨rfl, unhide HBB⟩
        · have hjs' : (j : Int) ≤ (s.size : Int) := by omega
          have HMS := hide (show s.size + 2 - (intOf (Value.int IntKind.i64 ((j : Int) + 1))).toNat < s.size + 2 - (intOf (Value.int IntKind.i64 (j : Int))).toNat by simp [intOf]; omega)
          have hk1 : wrap64 ((j : Int) + 1) = (j : Int) + 1 := IntWalk.wrap64_in _ (by omega)
          have hk2 : IntKind.i64.wrap ((j : Int) + 1) = (j : Int) + 1 := (IntWalk.i64_left _).trans hk1
          obtain ⟨y0, y1, y2, y3, y4⟩ := pats5 hxr
          have H4 := hide (And.intro hmr (And.intro hbr (hG3.later hb)))
          have HB4 := hide hb
          clear hm3 hx3 hb3 hG3 hmr hxr hbr hb
          go_wp2_with fail
          refine (unhide HY _ (unhide H4).2.1 j).mono ?_
          rintro e w4 ⟨vl, L, cut, er, rfl, hL, hb4, hLr⟩
          obtain ⟨al, cl, hvl, -, -⟩ := hL.row.len
          subst hvl
          have hcase := ways_one (RL := RL) (dg := dg) (T := T) (s := s) (j := j) (t := t) (f := 20000) (d := d) (unhide HWR) hjs ht (s.size - j) (by
            have := unhide HLJ
            rw [show s.size - j + 1 = s.size + 1 - j by omega]
            exact (congrArg MR.err this).symm)
          have hLK := unhide HLJ
          rw [show s.size + 1 - j = s.size - j + 1 by omega] at hLK
          unfold lkF at hLK
          rw [← hLK, show ((20000 : Nat) : Int) = 20000 from rfl, ← hLr] at hcase
          have HC4 := hide (And.intro (row_below (unhide H4).1 hb4) (And.intro (bnext (unhide H4).2.1 hb4) (And.intro ((unhide H4).2.2.later hb4) (bnext (unhide HB4) hb4))))
          have HLL := hide hL
          clear y0 y1 y2 y3 y4 hb4 hL hLr hLK HLJ H4 HB4
          rcases hcase with ⟨a, g, t', d', e1, e2⟩ | ⟨t', d', ht', e1, e2⟩ | ⟨t', d', e1, e2⟩
          · injection e1 with f1 f2 f3 f4 f5 f6 f7
            injection e2 with l1 l2
            injection l2 with l2 l3
            subst f1 f2 f3 f4 l2 l3
            obtain ⟨lx, rfl, hpr⟩ : ∃ lx, L = [lx] ∧ lx.pr = (tz, GG) := by
              cases L with
              | nil => cases l1
              | cons x l =>
                cases l with
                | nil => exact ⟨x, rfl, by simpa using l1⟩
                | cons y l => simp at l1
            have hto : lx.to = tz := congrArg Prod.fst hpr
            have hgg : lx.G = GG := congrArg Prod.snd hpr
            obtain ⟨gl, cl2, hgl, -⟩ := (unhide HLL).row.form (by simp)
            injection hgl with hg1 hg2 hg3
            subst hg1 hg3
            have l0 : w4.cell? ⟨gl, 0, none⟩ = some (.int .i64 (tz : Int)) := by rw [← hto]; exact (unhide HLL).row.cell (i := 0) wyV_len rfl rfl (k := 0) rfl
            have l1' : w4.cell? ⟨gl, 1, none⟩ = some (.slice lx.ga GG.length lx.gc) := by rw [← hgg]; exact (unhide HLL).row.cell (i := 0) wyV_len rfl rfl (k := 1) rfl
            have i0 : ∀ W, (Instr.indexAt 35 (.slice (some ⟨gl, 0, none⟩) 1 cl) (.int .i64 0)).run Tryd.prog W = .ok (.pointer (some ⟨gl, 0, none⟩)) W := fun W => by
              have := idx_run (g := gl) (n := 1) (cap := cl) (i := 0) Tryd.underlying35 size_way (by decide) W
              simpa using this
            have hGL : Row w4 wr.heap.size 61 2 gfV (.slice lx.ga GG.length lx.gc) GG := by rw [← hgg]; exact (unhide HLL).gifts lx List.mem_cons_self
            have HGL := hide hGL
            obtain ⟨⟨x0, x1, x2, x3, x4, x5⟩, -⟩ := cells6 (unhide HC4).1
            dsimp only [List.length_singleton]
            clear f5 f6 f7 l1 HLL hpr hto hgg hg2 hGL
            go_wp2_with fail
            have hA : Below w4.heap.size w4 w4.drew := (Below.refl _ _).drew
            go_region_held3 (fun w' => w'.cell? ⟨w2.heap.size, 0, none⟩ = some (.bool true) ∧ w'.cell? ⟨w2.heap.size, 1, none⟩ = some (.int .i64 (fr : Int)) ∧ w'.cell? ⟨w2.heap.size, 2, none⟩ = some (.int .i64 (tz : Int)) ∧ w'.cell? ⟨w2.heap.size, 3, none⟩ = some (.slice a1 GG.length c1) ∧ w'.cell? ⟨gl, 0, none⟩ = some (.int .i64 (tz : Int)) ∧ w'.cell? ⟨gl, 1, none⟩ = some (.slice lx.ga GG.length lx.gc))
              (first | exact ⟨cell_later hA x0, cell_later hA x1, cell_later hA x2, cell_later hA x3, cell_later hA l0, cell_later hA l1'⟩)
              (first | (go_at_call 9; refine (sameGifts_same ((unhide HC4).2.2.1.later hA) ((unhide HGL).later hA)).mono ?_; rintro e w8 ⟨rfl, hb8⟩; have hA := bnext hA hb8; clear hb8))
            go_wp2_with fail
            go_ret
            exact ⟨rfl, bnext (unhide HC4).2.1 hA⟩
          · injection e2 with l1 l2
            injection l2 with l2 l3
            subst l2 l3
            obtain rfl : L = [] := by simpa using l1
            dsimp only [List.length_nil]
            have HE := hide e1
            clear e1 l1 HLL
            go_wp2_with fail
            refine ⟨⟨j + 1, t', d', by omega, by simp, ht', (unhide HC4).2.2.2, hide ?_⟩, unhide HMS⟩
            rw [show s.size + 1 - (j + 1) = s.size - j by omega]
            exact unhide HE
          · injection e1 with f1 f2 f3 f4 f5 f6 f7
            injection e2 with l1 l2
            injection l2 with l2 l3
            subst f1 f2 f3 f4 l2 l3
            obtain rfl : L = [] := by simpa using l1
            dsimp only [List.length_nil]
            obtain ⟨⟨x0, x1, x2, x3, x4, x5⟩, -⟩ := cells6 (unhide HC4).1
            clear f5 f6 f7 l1 HLL
            go_wp2_with fail
            go_ret
            exact ⟨rfl, (unhide HC4).2.1⟩
  · have hne : (er == 0) = false := by rw [beq_eq_false_iff_ne]; exact her
    have hne' : (er != 0) = true := by rw [bne_iff_ne]; exact her
    clear HF HRW
    go_wp2_with fail
    go_ret
    exact ⟨rfl, (unhide HB2).alloc (unhide HB2).size _⟩
end Go.Proofs.YtomemdepphnacaaDoor
