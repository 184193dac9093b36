/- Are gifts the same, are ways? All ways there are, if they can be told; have two patterns the same ways? -/
import Derived.Test.YtkphpcgmfkhpnaaDoorScanTell2
import Derived.Deep.RegionHeld3
import Derived.Deep.QuietTactic
import Derived.BigQuiet
import Derived.Test.YtkphpcgmfkhpnaaDoorScanWays2
namespace Go.Proofs.YtkphpcgmfkhpnaaDoor
open Go.RowKit

theorem lens_ne {a b : Nat} (h : a ≠ b) : ¬ ((a : Int) = (b : Int)) := by omega

set_option maxRecDepth 100000 in
set_option maxHeartbeats 1000000 in
theorem sameGifts_len {w : World} {B B' : Nat} {v v' : Value} {G G' : List Gft} (h : Row w B 61 2 gfV v G) (h' : Row w B' 61 2 gfV v' G') (hn : G.length ≠ G'.length) :
    Calls Tryd.prog 21 #[v, v'] w fun e w' => e = .returned (.bool false) ∧ w' = w := by
  obtain ⟨a, cap, rfl, -, -⟩ := h.len
  obtain ⟨a', cap', rfl, -, -⟩ := h'.len
  have hne := lens_ne hn
  clear h h'
  go_enter Tryd.func21, Tryd.ntmps21
  go_wp2_with fail
  go_ret
  exact ⟨rfl, rfl⟩

set_option maxRecDepth 100000 in
set_option maxHeartbeats 1000000 in
theorem sameGifts_none {w : World} {B B' : Nat} {v v' : Value} (h : Row w B 61 2 gfV v []) (h' : Row w B' 61 2 gfV v' []) :
    Calls Tryd.prog 21 #[v, v'] w fun e w' => e = .returned (.bool true) ∧ w' = w := by
  obtain ⟨a, cap, rfl, -, -⟩ := h.len
  obtain ⟨a', cap', rfl, -, -⟩ := h'.len
  dsimp only [List.length_nil]
  clear h h'
  go_enter Tryd.func21, Tryd.ntmps21
  go_wp2_with fail
  go_loop [13] (fun i => i = .int .i64 0) (fun _ => 0)
  case atStart => rfl
  case round =>
    subst hrel
    go_wp2_with fail
    go_ret
    exact ⟨rfl, rfl⟩

set_option maxRecDepth 100000 in
set_option maxHeartbeats 4000000 in
theorem sameWays_same {w : World} {B B' : Nat} {v v' : Value} {L L' : List Wv} (h : WaysAt w B v L) (h' : WaysAt w B' v' L') (he : L.map Wv.pr = L'.map Wv.pr) (hG : ∀ x ∈ L, x.G = []) :
    Calls Tryd.prog 14 #[v, v'] w fun e w' => e = .returned (.bool true) ∧ Below w.heap.size w w' := by
  have hlen : L'.length = L.length := by have := congrArg List.length he; simpa using this.symm
  obtain ⟨a, cap, hv, -, hca⟩ := h.row.len
  obtain ⟨a', cap', hv', -, hca'⟩ := h'.row.len
  rw [hlen] at hv' hca'
  have HA := hide (And.intro h (And.intro h' (And.intro he hG)))
  have HV := hide (And.intro hv hv')
  have hmax := h.row.max
  have HM := hide hmax
  unfold maxLen at hmax
  rw [hv, hv']
  clear h h' he hG hv hv' 
  go_enter Tryd.func14, Tryd.ntmps14
  go_wp2_with fail
  go_loopw [13] (fun i wr => ∃ k : Nat, k ≤ L.length ∧ i = .int .i64 (k : Int) ∧ Below w.heap.size w wr) (fun i _ => L.length - (intOf i).toNat)
  case atStart => exact ⟨0, Nat.zero_le _, rfl, Below.refl _ _⟩
  case round =>
    obtain ⟨k, hk, rfl, hb⟩ := hrel
    rcases Nat.lt_or_ge k L.length with hlt | hge
    · have hlt' : (k : Int) < (L.length : Int) := by omega
      obtain ⟨h, h', he, hG⟩ := unhide HA
      obtain ⟨hv, hv'⟩ := unhide HV
      have hk' : k < L'.length := by omega
      obtain ⟨g, c2, hg, -⟩ := h.row.form (by intro e; rw [e] at hlt; simp at hlt)
      obtain ⟨g', c2', hg', -⟩ := h'.row.form (by intro e; rw [e] at hk'; simp at hk')
      rw [hv] at hg
      rw [hv', hlen] at hg'
      injection hg with hg1 hg2 hg3
      injection hg' with hg1' hg2' hg3'
      subst hg1 hg1' hg3 hg3'
      obtain ⟨x, hx⟩ : ∃ x, L[k]? = some x := ⟨_, List.getElem?_eq_getElem hlt⟩
      obtain ⟨y, hy⟩ : ∃ y, L'[k]? = some y := ⟨_, List.getElem?_eq_getElem hk'⟩
      have hxy : x.pr = y.pr := by
        have := congrArg (fun l : List (Nat × List Gft) => l[k]?) he
        simpa [hx, hy] using this
      have hto : x.to = y.to := congrArg Prod.fst hxy
      have hyG : y.G = [] := (congrArg Prod.snd hxy).symm.trans (hG x (List.mem_of_getElem? hx))
      have hxG : x.G = [] := hG x (List.mem_of_getElem? hx)
      have hr := h.row.later hb
      have hr' := h'.row.later hb
      have o0 : wr.cell? ⟨g, k * 2, none⟩ = some (.int .i64 (x.to : Int)) := hr.cell wyV_len hv hx (k := 0) rfl
      have o1 : wr.cell? ⟨g, k * 2 + 1, none⟩ = some (.slice x.ga 0 x.gc) := by have := hr.cell wyV_len hv hx (k := 1) rfl; rw [hxG] at this; exact this
      have p0 : wr.cell? ⟨g', k * 2, none⟩ = some (.int .i64 (x.to : Int)) := by rw [hto]; exact hr'.cell wyV_len (by rw [hlen]; exact hv') hy (k := 0) rfl
      have p1 : wr.cell? ⟨g', k * 2 + 1, none⟩ = some (.slice y.ga 0 y.gc) := by have := hr'.cell wyV_len (by rw [hlen]; exact hv') hy (k := 1) rfl; rw [hyG] at this; exact this
      have i0 := idx_run (g := g) (n := L.length) (cap := cap) Tryd.underlying30 size_way hlt
      have i1 := idx_run (g := g') (n := L.length) (cap := cap') Tryd.underlying30 size_way hlt
      have HG1 := hide (h.gifts x (List.mem_of_getElem? hx))
      have HG2 := hide (h'.gifts y (List.mem_of_getElem? hy))
      unfold Wv.gv at HG1 HG2
      rw [hxG] at HG1
      rw [hyG] at HG2
      have HBB := hide hb
      clear h h' he hG hv hv' hr hr' hx hy hxy hto hyG hxG hb
      go_wp2_with fail
      go_region_held3 (fun w' => w'.cell? ⟨g, k * 2, none⟩ = some (.int .i64 (x.to : Int)) ∧ w'.cell? ⟨g, k * 2 + 1, none⟩ = some (.slice x.ga 0 x.gc) ∧ w'.cell? ⟨g', k * 2, none⟩ = some (.int .i64 (x.to : Int)) ∧ w'.cell? ⟨g', k * 2 + 1, none⟩ = some (.slice y.ga 0 y.gc)) (go_keep) (first | (go_at_call 21; refine (sameGifts_none (B := B) (B' := B') ((unhide HG1).later (unhide HBB).drew) ((unhide HG2).later (unhide HBB).drew)).mono ?_; rintro e w9 ⟨rfl, rfl⟩))
      go_wp2_with fail
      go_roundw
      case rel => exact ⟨k + 1, by omega, by simp, (unhide HBB).drew⟩
      case measure => simp [intOf]; omega
    · have hge' : ¬ (k : Int) < (L.length : Int) := by omega
      go_wp2_with fail
      go_ret
      exact ⟨rfl, hb⟩
end Go.Proofs.YtkphpcgmfkhpnaaDoor

namespace Go.Proofs.YtkphpcgmfkhpnaaDoor
open Go.RowKit

theorem ways_any (rn : ByteArray → Int) (dg : Nat → ByteArray) (T : PT) (s : ByteArray) (i k f : Int) (w : World) (hT : T.In w) (hS : Shapes w) (hs : s.size ≤ maxLen) (hR : T.wrong = 0 → T.cnt ≤ 100000 ∧ Bare T ∧ FineS T) :
    Calls Tryd.prog 13 #[.slice none 0 0, pv T, .string s, .int .i64 i, .int .i64 k, .int .i64 f] w (WaysPost dg T s i k f w) := by
  by_cases hq : wrongNone T s f = 0
  · by_cases hr : i < 0 ∨ (s.size : Int) < i ∨ k < 0 ∨ 4096 < k
    · exact ways_range dg T s i k f w hT hS hs hq hr
    · have hf : 0 ≤ f ∧ T.wrong = 0 := by
        unfold wrongNone at hq
        split at hq
        · contradiction
        · split at hq
          · cases hq
          · split at hq
            · cases hq
            · omega
      obtain ⟨i', rfl⟩ : ∃ i' : Nat, i = i' := ⟨i.toNat, by omega⟩
      obtain ⟨k', rfl⟩ : ∃ k' : Nat, k = k' := ⟨k.toNat, by omega⟩
      obtain ⟨f', rfl⟩ : ∃ f' : Nat, f = f' := ⟨f.toNat, by omega⟩
      obtain ⟨h1, h2, h3⟩ := hR hf.2
      exact ways_run rn dg T s i' k' f' w hT hS hs hq (by omega) (by omega) h1 h2 h3
  · exact ways_wrong dg T s i k f w hT hS hs hq

/-- Can all be told? -/
def allOk (r : List (Nat × List Gft) × Bool × Int) : Bool := decide (r.2.2 = 0) && decide (r.1.length < 4096)
def AllPost (r : List (Nat × List Gft) × Bool × Int) (w : World) (e : Ending) (w' : World) : Prop :=
  ∃ v L, e = .returned (.tuple #[v, .bool r.2.1, .bool (allOk r)]) ∧ WaysAt w' w.heap.size v L ∧ Below w.heap.size w w' ∧ L.map Wv.pr = r.1

theorem allPost_of {r : List (Nat × List Gft) × Bool × Int} {w w' : World} {v : Value} {L : List Wv} {cut : Bool} {err : Int} {b : Bool} (hL : WaysAt w' w.heap.size v L) (hb : Below w.heap.size w w') (hr : (L.map Wv.pr, cut, err) = r) (hq : b = (decide (err = 0) && decide (L.length < 4096))) : AllPost r w (.returned (.tuple #[v, .bool cut, .bool b])) w' := by
  subst hr hq
  exact ⟨v, L, by simp [allOk], hL, hb, rfl⟩

set_option maxRecDepth 100000 in
set_option maxHeartbeats 1000000 in
theorem all_none (rn : ByteArray → Int) (dg : Nat → ByteArray) (T : PT) (s : ByteArray) (i : Int) (w : World) (hT : T.In w) (hS : Shapes w) (hs : s.size ≤ maxLen) (hR : T.wrong = 0 → T.cnt ≤ 100000 ∧ Bare T ∧ FineS T) :
    Calls Tryd.prog 10 #[.slice none 0 0, pv T, .string s, .int .i64 i] w (AllPost (waysOf dg T s i 4096 20000) w) := by
  have hb0 : Below w.heap.size w (w.alloc (.cells #[.int .i64 T.k, .string T.t, .int .i64 T.n, .string T.nm, .slice T.xa T.len T.cap] 26)) := (Below.refl _ _).alloc (Nat.le_refl _) _
  have HW := hide (ways_any rn dg T s i 4096 20000 _ (PT.In.later hb0 hT) (hS.later hb0) hs hR)
  have HB0 := hide hb0
  unfold pv at HW ⊢
  clear hT hS hb0 hs hR
  go_enter Tryd.func10, Tryd.ntmps10
  go_wp2_with fail
  refine (unhide HW).mono ?_
  rintro e w1 ⟨v, L, cut, err, rfl, hL, hb1, hr⟩
  obtain ⟨a, cap, hv, -, -⟩ := hL.row.len
  subst hv
  have hL' : WaysAt w1 w.heap.size (.slice a L.length cap) L := hL.mono (unhide HB0).size
  have HL := hide (And.intro hL' (And.intro (bnext (unhide HB0) hb1) hr))
  clear hL hL' hb1 hr HW HB0
  by_cases h0 : err = 0
  · subst h0
    rcases Nat.lt_or_ge L.length 4096 with h | h
    · have h' : (L.length : Int) < 4096 := by omega
      go_wp2_with fail
      go_ret3
      obtain ⟨h1, h2, h3⟩ := unhide HL
      exact allPost_of h1 h2 h3 (by simp [h])
    · have h' : ¬ (L.length : Int) < 4096 := by omega
      go_wp2_with fail
      go_ret3
      obtain ⟨h1, h2, h3⟩ := unhide HL
      exact allPost_of h1 h2 h3 (by simp; omega)
  · have h0' : (err == 0) = false := by simpa using h0
    go_wp2_with fail
    go_ret3
    obtain ⟨h1, h2, h3⟩ := unhide HL
    exact allPost_of h1 h2 h3 (by simp [h0])

set_option maxRecDepth 100000 in
set_option maxHeartbeats 2000000 in
theorem alike_same (rn : ByteArray → Int) (dg : Nat → ByteArray) (T U : PT) (s : ByteArray) (i : Int) (w : World) (hT : T.In w) (hU : U.In w) (hS : Shapes w) (hs : s.size ≤ maxLen) (hR : T.wrong = 0 → T.cnt ≤ 100000 ∧ Bare T ∧ FineS T) (hR' : U.wrong = 0 → U.cnt ≤ 100000 ∧ Bare U ∧ FineS U)
    (he : allOk (waysOf dg T s i 4096 20000) = true → allOk (waysOf dg U s i 4096 20000) = true → (waysOf dg T s i 4096 20000).1 = (waysOf dg U s i 4096 20000).1 ∧ (waysOf dg T s i 4096 20000).2.1 = (waysOf dg U s i 4096 20000).2.1) (hG : ∀ x ∈ (waysOf dg T s i 4096 20000).1, x.2 = []) :
    Calls Tryd.prog 6 #[.slice none 0 0, pv T, pv U, .string s, .int .i64 i] w fun e w' => e = .returned (.bool true) ∧ Below w.heap.size w w' := by
  have hb0 : Below w.heap.size w ((w.alloc (.cells #[.int .i64 T.k, .string T.t, .int .i64 T.n, .string T.nm, .slice T.xa T.len T.cap] 26)).alloc (.cells #[.int .i64 U.k, .string U.t, .int .i64 U.n, .string U.nm, .slice U.xa U.len U.cap] 26)) := ((Below.refl _ _).alloc (Nat.le_refl _) _).alloc (by simp) _
  have HW := hide (all_none rn dg T s i _ (PT.In.later hb0 hT) (hS.later hb0) hs hR)
  have HW' := hide (fun W (h : Below w.heap.size w W) => all_none rn dg U s i W (PT.In.later h hU) (hS.later h) hs hR')
  have HB0 := hide hb0
  have HE := hide (And.intro he hG)
  unfold pv at HW HW' ⊢
  clear hT hU hS hb0 hs hR hR' he hG
  go_enter Tryd.func6, Tryd.ntmps6
  go_wp2_with fail
  refine (unhide HW).mono ?_
  rintro e w1 ⟨v, L, rfl, hL, hb1, hr⟩
  have hbx : w1.heap[w.heap.size + 1]? = some (.cells #[.int .i64 U.k, .string U.t, .int .i64 U.n, .string U.nm, .slice U.xa U.len U.cap] 26 (0, 0)) := row_below (at_new (w := w.alloc (.cells #[.int .i64 T.k, .string T.t, .int .i64 T.n, .string T.nm, .slice T.xa T.len T.cap] 26)) (by simp)) hb1
  have z0 : w1.cell? ⟨w.heap.size + 1, 0, none⟩ = some (.int .i64 U.k) := by rw [cell_of_row _ _ _ _ _ _ hbx]; rfl
  have z1 : w1.cell? ⟨w.heap.size + 1, 1, none⟩ = some (.string U.t) := by rw [cell_of_row _ _ _ _ _ _ hbx]; rfl
  have z2 : w1.cell? ⟨w.heap.size + 1, 2, none⟩ = some (.int .i64 U.n) := by rw [cell_of_row _ _ _ _ _ _ hbx]; rfl
  have z3 : w1.cell? ⟨w.heap.size + 1, 3, none⟩ = some (.string U.nm) := by rw [cell_of_row _ _ _ _ _ _ hbx]; rfl
  have z4 : w1.cell? ⟨w.heap.size + 1, 4, none⟩ = some (.slice U.xa U.len U.cap) := by rw [cell_of_row _ _ _ _ _ _ hbx]; rfl
  have HB1 := hide (bnext (unhide HB0) hb1)
  have HL := hide (And.intro hL hr)
  clear hbx hL hr hb1 HW HB0
  go_wp2_with fail
  refine (unhide HW' w1 (unhide HB1)).mono ?_
  rintro e w2 ⟨v', L', rfl, hL', hb2, hr'⟩
  have HB2 := hide (bnext (unhide HB1) hb2)
  have HL2 := hide (And.intro (WaysAt.later (unhide HL).1 hb2) (And.intro hL' hr'))
  clear hL' hr' hb2 HW' z0 z1 z2 z3 z4
  cases hx : allOk (waysOf dg T s i 4096 20000) with
  | false =>
    go_wp2_with fail
    go_ret
    exact ⟨rfl, unhide HB2⟩
  | true =>
    cases hy : allOk (waysOf dg U s i 4096 20000) with
    | false =>
      go_wp2_with fail
      go_ret
      exact ⟨rfl, unhide HB2⟩
    | true =>
      obtain ⟨q1, q2⟩ := (unhide HE).1 hx hy
      have HS := hide (sameWays_same (unhide HL2).1 (unhide HL2).2.1 (by rw [(unhide HL).2, (unhide HL2).2.2, q1]) (fun x hx => (unhide HE).2 x.pr (by rw [← (unhide HL).2]; exact List.mem_map_of_mem hx)))
      rw [q2]
      clear q1 q2
      generalize (waysOf dg U s i 4096 20000).2.1 = bb
      go_wp2_with (go_at_call 14; refine (unhide HS).mono ?_; rintro e w3 ⟨rfl, hb3⟩)
      go_ret
      exact ⟨by simp, bnext (unhide HB2) hb3⟩
end Go.Proofs.YtkphpcgmfkhpnaaDoor
