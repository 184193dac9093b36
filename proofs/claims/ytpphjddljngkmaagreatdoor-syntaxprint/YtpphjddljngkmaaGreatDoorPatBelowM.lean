/- Expressions lie in memory as patterns do (five cells a node): what syntax.fits and isTooMuch do, for every expression. Statements: what is wrong with names, the first of some errors, places. What pats.wrongBelow and Wrong do, for every pattern. -/
import Derived.Test.YtpphjddljngkmaaGreatDoorPatSizeP
import Derived.Test.YtpphjddljngkmaaGreatDoorPatWrongP
namespace Go.Proofs.YtpphjddljngkmaaGreatDoor
open Go.RowKit

theorem size_expr : (Tryz.prog.info? 25).map (·.size) = some 5 := by kernel_rfl
theorem kidx_at {W : World} {T : PT} (hT : T.In W) {k : Nat} (hk : k < T.len) (w : World) :
    (Instr.indexAt 23 (.slice T.xa T.len T.cap) (.int .i64 (k : Int))).run Tryz.prog w = .ok (.pointer (some ⟨T.b, T.o + k * 5, none⟩)) w := by
  rw [hT.addr (by omega)]
  have h0 : (0 : Int) ≤ (k : Int) ∧ (k : Int) < (T.len : Int) := by omega
  have hs := size_expr
  cases hq : Tryz.prog.info? 25 with
  | none => simp [hq] at hs
  | some i =>
    have hz : i.size = 5 := by simpa [hq] using hs
    simp [Instr.indexAt, asIntOf, run_underlying Tryz.underlying23, h0, sizeOf, typeInfo, hq, hz, Addr.add_lit]
    intro h
    omega
def ncell (a : Nat) : Obj := .cells #[.int .i64 (a : Int)] 3 (0, 0)
/-- What fits says of an expression. -/
def FitPost (T : PT) (g a d : Nat) (w : World) (e : Ending) (w' : World) : Prop := ∃ ok a', e = .returned (.bool ok) ∧ w'.heap[g]? = some (ncell a') ∧ But g w w' ∧
    (ok = true → a' = a + T.cnt ∧ d + T.dep - 1 ≤ 200 ∧ a' ≤ 4096) ∧ (ok = false → 4096 < a + T.cnt ∨ 200 < d + T.dep - 1)
def FitSays (T : PT) : Prop := ∀ (W w : World) (g a d : Nat), T.In W → Below W.heap.size W w → W.heap.size ≤ g → w.heap[g]? = some (ncell a) → a ≤ 4096 → d ≤ 201 → ∀ x : Int, x = (d : Int) →
  Calls Tryz.prog 30 #[.agg #[.int .i64 T.k, .string T.t, .int .i64 T.n, .string T.nm, .slice T.xa T.len T.cap], .int .i64 x, .pointer (some ⟨g, 0, none⟩)] w fun e w' => FitPost T g a d w e w'
theorem set_one (w : World) (g a : Nat) (x : Value) (h : w.heap[g]? = some (ncell a)) :
    (w.setCell ⟨g, 0, none⟩ x).heap[g]? = some (.cells #[x] 3 (0, 0)) := by
  have h1 := heap_setCell_same w g 0 _ _ x h
  simpa using h1
set_option maxRecDepth 100000 in
set_option maxHeartbeats 1000000 in
theorem fit_step (T : PT) (ih : ∀ i, i < T.len → FitSays (T.kid i)) : FitSays T := by
  intro W w g a d hT hbel hWg hg ha hd x hx
  subst hx
  have hc0 := T.cnt_eq
  have hd0 := T.dep_eq
  have hmax := hT.max
  unfold maxLen at hmax
  have hgl : g < w.heap.size := (Array.getElem?_eq_some_iff.1 hg).1
  have hgn : ¬ g = w.heap.size := by omega
  have hgm : ¬ w.heap.size = g := by omega
  have c0 : w.cell? ⟨g, 0, none⟩ = some (.int .i64 a) := by rw [cell_of_row w _ _ _ _ _ hg]; rfl
  have f0 := frozen_of_row w g 0 _ _ hg
  have H2 := hide (set_one w g a (.int .i64 ((a : Int) + 1)) hg)
  have HD := hide (And.intro hc0 (And.intro hd0 (And.intro hT (And.intro hbel ih))))
  clear hg hc0 hd0 hT hbel ih
  by_cases h1 : 4096 < a + 1
  · have h1' : 4096 < (a : Int) + 1 := by omega
    go_enter Tryz.func30, Tryz.ntmps30
    go_wp2_with fail
    go_ret
    refine ⟨false, a + 1, rfl, at_old (by simpa using hgl) (unhide H2), ((But.refl g w).setCell _ _).alloc _, by simp, fun _ => .inl ?_⟩
    have := (unhide HD).1
    omega
  · by_cases h2 : 200 < d
    · have h1' : ¬ 4096 < (a : Int) + 1 := by omega
      have h2' : 200 < (d : Int) := by omega
      go_enter Tryz.func30, Tryz.ntmps30
      go_wp2_with fail
      go_ret
      refine ⟨false, a + 1, rfl, at_old (by simpa using hgl) (unhide H2), ((But.refl g w).setCell _ _).alloc _, by simp, fun _ => .inr ?_⟩
      have := (unhide HD).2.1
      omega
    · have h1' : ¬ 4096 < (a : Int) + 1 := by omega
      have h2' : ¬ 200 < (d : Int) := by omega
      obtain ⟨K, hK⟩ : ∃ K, K = (Obj.cells #[.int .i64 T.k, .string T.t, .int .i64 T.n, .string T.nm, .slice T.xa T.len T.cap] 25) := ⟨_, rfl⟩
      have hs0 := at_old (o := K) (by simpa using hgl) (unhide H2)
      have hb0 := ((But.refl g w).setCell 0 (.int .i64 ((a : Int) + 1))).alloc K
      obtain ⟨W0, hW0⟩ : ∃ W0, W0 = ((w.setCell ⟨g, 0, none⟩ (.int .i64 ((a : Int) + 1))).alloc K) := ⟨_, rfl⟩
      rw [← hW0] at hs0 hb0
      have HW := hide hW0
      have HK := hide hK
      have HB0 := hide hb0
      have HS0 := hide hs0
      have hw0 := hb0.size
      clear hW0 hK hb0 hs0
      go_enter Tryz.func30, Tryz.ntmps30
      go_wp2_with fail
      rw [← unhide HK, ← unhide HW]
      clear c0 f0 hgn hgm H2 h1'
      go_loopw [25] (fun i wr => ∃ k A : Nat, k ≤ T.len ∧ i = .int .i64 (k : Int) ∧ wr.heap[g]? = some (ncell A) ∧ But g w wr ∧ A = a + 1 + sumTo (fun i => (T.kid i).cnt) k ∧ d + maxTo (fun i => (T.kid i).dep) k ≤ 200 ∧ A ≤ 4096) (fun i _ => T.len - (intOf i).toNat)
      case atStart =>
        refine ⟨0, a + 1, by omega, rfl, unhide HS0, unhide HB0, rfl, ?_, by omega⟩
        simp only [maxTo]
        omega
      case round =>
        obtain ⟨k, A, hk, rfl, hgr, hbr, hA, hB, hA1⟩ := hrel
        rcases Nat.lt_or_ge k T.len with hkt | hkt
        · obtain ⟨hcn, hdn, hT, hbel, ih⟩ := unhide HD
          have hbw := But.below hbel hbr hWg
          have hia := kidx_at hT hkt
          obtain ⟨k0, k1, k2, k3, k4⟩ := hT.cells hkt
          have k0 := cell_later hbw k0
          have k1 := cell_later hbw k1
          have k2 := cell_later hbw k2
          have k3 := cell_later hbw k3
          have k4 := cell_later hbw k4
          unfold PT.kv at k4
          have hgl2 : g < wr.heap.size := (Array.getElem?_eq_some_iff.1 hgr).1
          have HI := hide (ih k hkt W)
          have HT := hide (hT.kids hkt)
          have HBW := hide hbw
          have HGR := hide hgr
          have HBR := hide hbr
          have HAB := hide (And.intro hA hB)
          clear hcn hdn hT hbel ih hbw hgr hbr hA hB
          go_wp2_with fail
          refine (unhide HI _ g A (d + 1) (unhide HT) ((unhide HBW).alloc (unhide HBW).size _) hWg (at_old hgl2 (unhide HGR)) hA1 (by omega) _ (by omega)).mono ?_
          rintro e w2 ⟨ok, a', rfl, hg2, hb2, ht, hf⟩
          have HG2 := hide hg2
          have HB2 := hide (((unhide HBR).alloc _).trans hb2)
          have HTF := hide (And.intro ht hf)
          clear hg2 hb2 ht hf
          cases ok
          · go_wp2_with fail
            go_ret
            refine ⟨false, a', rfl, unhide HG2, unhide HB2, by simp, fun _ => ?_⟩
            obtain ⟨hcn, hdn, _⟩ := unhide HD
            have e1 := sumTo_le (fun i => (T.kid i).cnt) (show k + 1 ≤ T.len from hkt)
            have e2 := maxTo_le (fun i => (T.kid i).dep) (show k + 1 ≤ T.len from hkt)
            simp only [sumTo, maxTo] at e1 e2
            have h := (unhide HTF).2 (by simp)
            have hA := (unhide HAB).1
            have hB := (unhide HAB).2
            omega
          · go_wp2_with fail
            go_roundw
            case rel =>
              obtain ⟨h1, h2, h3⟩ := (unhide HTF).1 (by simp)
              refine ⟨k + 1, a', by omega, by go_num, unhide HG2, unhide HB2, ?_, ?_, h3⟩
              · have := (unhide HAB).1
                simp only [sumTo]
                omega
              · have := (unhide HAB).2
                simp only [maxTo]
                omega
            case measure => simp [intOf]; omega
        · have hk' : k = T.len := by omega
          have HGR := hide hgr
          have HBR := hide hbr
          have HAB := hide (And.intro hA hB)
          clear hgr hbr hA hB
          go_wp2_with fail
          go_ret
          refine ⟨true, A, rfl, unhide HGR, unhide HBR, fun _ => ?_, by simp⟩
          obtain ⟨hcn, hdn, _⟩ := unhide HD
          have hA := (unhide HAB).1
          have hB := (unhide HAB).2
          rw [hk'] at hA hB
          exact ⟨by omega, by omega, hA1⟩
theorem fit_any : ∀ T : PT, FitSays T := PT.ind fit_step
set_option maxRecDepth 100000 in
set_option maxHeartbeats 1000000 in
theorem tooMuch_any (T : PT) (w : World) (hT : T.In w) :
    Calls Tryz.prog 12 #[pv T] w fun e w' => e = .returned (.bool (!T.fits)) ∧ Below w.heap.size w w' := by
  unfold pv
  have HA := hide (fit_any T w)
  have HT := hide hT
  clear hT
  go_enter Tryz.func12, Tryz.ntmps12
  go_wp2_with fail
  have hbel := ((Below.refl w.heap.size w).alloc (Nat.le_refl _) (.cells #[.int .i64 T.k, .string T.t, .int .i64 T.n, .string T.nm, .slice T.xa T.len T.cap] 25)).alloc (by simp) (.cells #[.int .i64 0] 3)
  refine (unhide HA _ (w.heap.size + 1) 0 1 (unhide HT) hbel (by omega) (at_new (by simp)) (by omega) (by omega) _ rfl).mono ?_
  rintro e w1 ⟨ok, a', rfl, hg, hb, ht, hf⟩
  have HB := hide (But.below hbel hb (by omega))
  have HS : Hid ((!T.fits) = !ok) := hide (by
    unfold PT.fits
    have := T.dep_pos
    cases ok
    · have h := hf rfl
      simp
      omega
    · have h := ht rfl
      simp
      omega)
  clear hbel hb ht hf hg HA
  go_wp2_with fail
  go_ret
  exact ⟨by rw [unhide HS]; rfl, unhide HB⟩
end Go.Proofs.YtpphjddljngkmaaGreatDoor

namespace Go.Proofs.YtpphjddljngkmaaGreatDoor
open Go.RowKit

/-- Names that lie in a list. -/
structure NL where
  xa : Option Addr
  gb : Nat
  ob : Nat
  cap : Nat
  l : List ByteArray
def NL.v (N : NL) : Value := .slice N.xa N.l.length N.cap
structure NL.In (w : World) (N : NL) : Prop where
  cap : N.l.length ≤ N.cap
  max : N.cap ≤ maxLen
  at_ : 0 < N.l.length → N.xa = some ⟨N.gb, N.ob, none⟩
  cell : ∀ i t, N.l[i]? = some t → w.cell? ⟨N.gb, N.ob + i, none⟩ = some (.string t) ∧ t.size ≤ maxLen
theorem NL.In.later {w w' : World} {N : NL} (h : N.In w) (hb : Below w.heap.size w w') : N.In w' := ⟨h.cap, h.max, h.at_, fun i t ht => ⟨cell_later hb (h.cell i t ht).1, (h.cell i t ht).2⟩⟩
/-- What is wrong with names. -/
def nmsE (l : List ByteArray) : Int := if l.all named = true then 0 else 7
theorem all_take {l : List ByteArray} {k : Nat} (h : (l.take k).all named = true) {t : ByteArray} (ht : l[k]? = some t) (hn : named t = true) : (l.take (k + 1)).all named = true := by
  rw [List.take_add_one, ht]
  simp only [Option.toList_some, List.all_append, h, List.all_cons, hn, List.all_nil, Bool.and_self]
theorem all_not {l : List ByteArray} {k : Nat} {t : ByteArray} (ht : l[k]? = some t) (hn : named t = false) : l.all named = false := by
  rw [← Bool.not_eq_true, List.all_eq_true]
  intro h
  rw [h t (List.mem_of_getElem? ht)] at hn
  cases hn
theorem sl_idx {t e : TypeId} {g o n cap i : Nat} (hu : Tryz.prog.underlying t = some (.slice e)) (hs : (Tryz.prog.info? e).map (·.size) = some 1) (hi : i < n) (w : World) :
    (Instr.indexAt t (.slice (some ⟨g, o, none⟩) n cap) (.int .i64 (i : Int))).run Tryz.prog w = .ok (.pointer (some ⟨g, o + i, none⟩)) w := by
  have h0 : (0 : Int) ≤ (i : Int) ∧ (i : Int) < (n : Int) := by omega
  cases hq : Tryz.prog.info? e with
  | none => simp [hq] at hs
  | some x =>
    have hz : x.size = 1 := by simpa [hq] using hs
    simp [Instr.indexAt, asIntOf, run_underlying hu, h0, sizeOf, typeInfo, hq, hz, Addr.add_lit]
    intro h
    omega
theorem size_strS : (Tryz.prog.info? 9).map (·.size) = some 1 := by kernel_rfl
theorem size_errS : (Tryz.prog.info? 26).map (·.size) = some 1 := by kernel_rfl
set_option maxRecDepth 100000 in
set_option maxHeartbeats 1000000 in
theorem wrongNames_any (N : NL) (w : World) (hN : N.In w) :
    Calls Tryz.prog 20 #[N.v] w fun e w' => e = .returned (.int .i64 (nmsE N.l)) ∧ w' = w := by
  have HN := hide hN
  have hmax := hN.max
  have hcap := hN.cap
  unfold maxLen at hmax
  have hat := hN.at_
  clear hN
  obtain ⟨xa, gb, ob, cap, l⟩ := N
  simp only at hmax hcap hat
  unfold NL.v
  simp only
  obtain ⟨n, hn⟩ : ∃ n, n = l.length := ⟨_, rfl⟩
  rw [← hn] at hcap hat ⊢
  have HL := hide hn
  clear hn
  go_enter Tryz.func20, Tryz.ntmps20
  go_wp2_with fail
  go_loop [7] (fun i => ∃ k : Nat, k ≤ n ∧ i = .int .i64 (k : Int) ∧ Hid ((l.take k).all named = true)) (fun i => n - (intOf i).toNat)
  case atStart => exact ⟨0, by omega, rfl, rfl⟩
  case round =>
    obtain ⟨k, hk, rfl, HT⟩ := hrel
    rcases Nat.lt_or_ge k n with hlt | hge
    · obtain ⟨t, ht⟩ : ∃ t, l[k]? = some t := ⟨l[k]'(by have := unhide HL; omega), List.getElem?_eq_getElem _⟩
      obtain ⟨ct, hts⟩ := (unhide HN).cell k t ht
      simp only at ct
      have hxa := hat (by omega)
      subst hxa
      have HNA := hide (named_any t w hts)
      have HS1 := hide (fun h => all_take (unhide HT) ht h)
      have HS0 := hide (fun h => all_not ht h)
      clear ht hts
      have hix := sl_idx (g := gb) (o := ob) (cap := cap) (i := k) (n := n) Tryz.underlying31 size_strS hlt
      cases hq : named t
      · have HE : Hid (nmsE l = 7) := hide (by unfold nmsE; rw [unhide HS0 hq]; rfl)
        rw [hq] at HNA
        clear hq HS1 HS0
        go_wp2_with fail
        refine (unhide HNA).mono ?_
        rintro e w1 ⟨rfl, rfl⟩
        go_wp2_with fail
        go_ret
        exact ⟨by rw [unhide HE]; rfl, rfl⟩
      · have HA := hide (unhide HS1 hq)
        rw [hq] at HNA
        clear hq HS1 HS0
        go_wp2_with fail
        refine (unhide HNA).mono ?_
        rintro e w1 ⟨rfl, rfl⟩
        go_wp2_with fail
        exact ⟨⟨k + 1, by omega, rfl, unhide HA⟩, by simp [intOf]; omega⟩
    · obtain rfl : k = n := by omega
      have HE : Hid (nmsE l = 0) := hide (by
        have h := unhide HT
        rw [unhide HL, List.take_length] at h
        unfold nmsE; rw [h]; rfl)
      go_wp2_with fail
      go_ret
      exact ⟨by rw [unhide HE]; rfl, rfl⟩
/-- The first of some errors. -/
def fst0 : List Int → Int
  | [] => 0
  | x :: l => if x = 0 then fst0 l else x
theorem fst0_drop {l : List Int} {k : Nat} {x : Int} (h : fst0 l = fst0 (l.drop k)) (hx : l[k]? = some x) : (x = 0 → fst0 l = fst0 (l.drop (k + 1))) ∧ (x ≠ 0 → fst0 l = x) := by
  have hk : k < l.length := (List.getElem?_eq_some_iff.1 hx).1
  have e : l.drop k = x :: l.drop (k + 1) := by
    rw [List.drop_eq_getElem_cons hk]
    congr 1
    rw [List.getElem?_eq_getElem hk] at hx
    exact Option.some.inj hx
  rw [h, e]
  exact ⟨fun z => if_pos z, fun z => if_neg z⟩
set_option maxRecDepth 100000 in
set_option maxHeartbeats 1000000 in
theorem first_any (l : List Int) (g : Nat) (w : World) (hl : l.length ≤ 8) (hc : ∀ i x, l[i]? = some x → w.cell? ⟨g, i, none⟩ = some (.int .i64 x)) :
    Calls Tryz.prog 17 #[.slice (some ⟨g, 0, none⟩) l.length l.length] w fun e w' => e = .returned (.int .i64 (fst0 l)) ∧ w' = w := by
  have HC := hide hc
  clear hc
  obtain ⟨n, hn⟩ : ∃ n, n = l.length := ⟨_, rfl⟩
  rw [← hn] at hl ⊢
  have HL := hide hn
  clear hn
  go_enter Tryz.func17, Tryz.ntmps17
  go_wp2_with fail
  go_loop [7] (fun i => ∃ k : Nat, k ≤ n ∧ i = .int .i64 (k : Int) ∧ Hid (fst0 l = fst0 (l.drop k))) (fun i => n - (intOf i).toNat)
  case atStart => exact ⟨0, by omega, rfl, rfl⟩
  case round =>
    obtain ⟨k, hk, rfl, HT⟩ := hrel
    rcases Nat.lt_or_ge k n with hlt | hge
    · obtain ⟨x, hx⟩ : ∃ x, l[k]? = some x := ⟨l[k]'(by have := unhide HL; omega), List.getElem?_eq_getElem _⟩
      have ct := unhide HC k x hx
      have HS := hide (fst0_drop (unhide HT) hx)
      clear hx
      have hix := sl_idx (g := g) (o := 0) (cap := n) (i := k) (n := n) Tryz.underlying60 size_errS hlt
      rw [Nat.zero_add] at hix
      by_cases hq : x = 0
      · have HA := hide ((unhide HS).1 hq)
        have q : (x == 0) = true := bt hq
        clear hq HS
        go_wp2_with fail
        exact ⟨⟨k + 1, by omega, rfl, unhide HA⟩, by simp [intOf]; omega⟩
      · have HA := hide ((unhide HS).2 hq)
        have q : (x == 0) = false := bn hq
        clear hq HS
        go_wp2_with fail
        go_ret
        exact ⟨by rw [unhide HA]; rfl, rfl⟩
    · obtain rfl : k = n := by omega
      have HE : Hid (fst0 l = 0) := hide (by
        have h := unhide HT
        rw [unhide HL, List.drop_length] at h
        exact h)
      go_wp2_with fail
      go_ret
      exact ⟨by rw [unhide HE]; rfl, rfl⟩
end Go.Proofs.YtpphjddljngkmaaGreatDoor

namespace Go.Proofs.YtpphjddljngkmaaGreatDoor
open Go.RowKit

def BadSays (T : PT) : Prop := ∀ (w : World), T.In w → Shapes w →
  Calls Tryz.prog 36 #[.agg #[.int .i64 T.k, .string T.t, .int .i64 T.n, .string T.nm, .slice T.xa T.len T.cap]] w fun e w' => e = .returned (.int .i64 T.bad) ∧ Below w.heap.size w w'
theorem firstTo_stays (f : Nat → Int) {i n : Nat} (h : i ≤ n) (hf : firstTo f i ≠ 0) : firstTo f n = firstTo f i := by
  induction n with
  | zero => congr 1; omega
  | succ n ih =>
    rcases Nat.lt_or_ge i (n + 1) with h1 | h1
    · rw [firstTo, ih (by omega), if_neg hf]
    · congr 1; omega
set_option maxRecDepth 100000 in
set_option maxHeartbeats 1000000 in
theorem bad_step (T : PT) (ih : ∀ i, i < T.len → BadSays (T.kid i)) : BadSays T := by
  intro w hT hS
  have HN := hide (fun W (h : Below w.heap.size w W) => node_any T W (PT.In.later h hT) (hS.later h))
  unfold pv at HN
  have hmax := hT.max
  unfold maxLen at hmax
  have HD := hide (And.intro hT (And.intro hS (And.intro ih T.bad_eq)))
  clear hT hS ih
  have hk0 := (Below.refl w.heap.size w).alloc (Nat.le_refl _) (.cells #[.int .i64 T.k, .string T.t, .int .i64 T.n, .string T.nm, .slice T.xa T.len T.cap] 30)
  go_enter Tryz.func36, Tryz.ntmps36
  go_wp2_with fail
  refine (unhide HN _ hk0).mono ?_
  rintro e w1 ⟨rfl, hb1⟩
  have hb := bnext hk0 hb1
  have c4 : w1.cell? ⟨w.heap.size, 4, none⟩ = some (.slice T.xa T.len T.cap) := cell_later hb1 (cr (at_new rfl))
  have HB := hide hb
  clear hk0 hb1 hb HN
  by_cases he : errN T = 0
  · have H0 : Hid (T.bad = firstTo (fun i => (T.kid i).bad) T.len) := hide (by rw [(unhide HD).2.2.2, if_pos he])
    rw [he]
    clear he
    go_wp2_with fail
    go_loopw [15] (fun i wr => ∃ k : Nat, k ≤ T.len ∧ i = .int .i64 (k : Int) ∧ Below w.heap.size w wr ∧ firstTo (fun i => (T.kid i).bad) k = 0) (fun i _ => T.len - (intOf i).toNat)
    case atStart => exact ⟨0, by omega, rfl, unhide HB, rfl⟩
    case round =>
      obtain ⟨k, hk, rfl, hbr, hf⟩ := hrel
      clear c4
      have HF := hide hf
      clear hf
      rcases Nat.lt_or_ge k T.len with hkt | hkt
      · obtain ⟨hT, hS, ih, -⟩ := unhide HD
        obtain ⟨k0, k1, k2, k3, k4⟩ := hT.cells hkt
        have k0 := cell_later hbr k0
        have k1 := cell_later hbr k1
        have k2 := cell_later hbr k2
        have k3 := cell_later hbr k3
        have k4 := cell_later hbr k4
        unfold PT.kv at k4
        have hia := kid_at hT hkt
        have HX := hide (And.intro (PT.In.later hbr (hT.kids hkt)) (hS.later hbr))
        have HI := hide (ih k hkt)
        have HBR := hide hbr
        clear hT hS ih hbr
        go_wp2_with fail
        have hn := (Below.refl wr.heap.size wr).alloc (Nat.le_refl _) (.cells #[.int .i64 (T.kid k).k, .string (T.kid k).t, .int .i64 (T.kid k).n, .string (T.kid k).nm, .slice (T.kid k).xa (T.kid k).len (T.kid k).cap] 30)
        refine (unhide HI _ (PT.In.later hn (unhide HX).1) ((unhide HX).2.later hn)).mono ?_
        rintro e w2 ⟨rfl, hb2⟩
        have HB2 := hide (bnext (bnext (unhide HBR) hn) hb2)
        clear hn hb2
        by_cases he : (T.kid k).bad = 0
        · have HW : Hid (firstTo (fun i => (T.kid i).bad) (k + 1) = 0) := hide (by rw [firstTo, if_pos (unhide HF)]; exact he)
          rw [he]
          clear he
          go_wp2_with fail
          exact ⟨⟨k + 1, by omega, by go_num, unhide HB2, unhide HW⟩, by simp [intOf]; omega⟩
        · have HW : Hid (T.bad = (T.kid k).bad) := hide (by
            have h1 : firstTo (fun i => (T.kid i).bad) (k + 1) = (T.kid k).bad := by rw [firstTo, if_pos (unhide HF)]
            rw [unhide H0, firstTo_stays _ (show k + 1 ≤ T.len from hkt) (by rw [h1]; exact he), h1])
          have hne : ((T.kid k).bad != 0) = true := by rw [bne_iff_ne]; exact he
          clear he
          go_wp2_with fail
          go_ret
          exact ⟨by rw [unhide HW]; rfl, unhide HB2⟩
      · have hk' : k = T.len := by omega
        have HBR := hide hbr
        clear hbr
        go_wp2_with fail
        go_ret
        exact ⟨by rw [unhide H0, ← hk', unhide HF]; rfl, unhide HBR⟩
  · have H0 : Hid (T.bad = errN T) := hide (by rw [(unhide HD).2.2.2, if_neg he])
    have hne : (errN T != 0) = true := by rw [bne_iff_ne]; exact he
    clear he
    go_wp2_with fail
    go_ret
    exact ⟨by rw [unhide H0]; rfl, unhide HB⟩
theorem bad_any : ∀ T : PT, BadSays T := PT.ind bad_step
set_option maxRecDepth 100000 in
set_option maxHeartbeats 1000000 in
theorem wrong_any (T : PT) (w : World) (hT : T.In w) (hS : Shapes w) :
    Calls Tryz.prog 18 #[pv T] w fun e w' => e = .returned (.int .i64 T.wrong) ∧ Below w.heap.size w w' := by
  have HZ := hide (fun W (h : Below w.heap.size w W) => size_any T W (PT.In.later h hT))
  have HB := hide (fun W (h : Below w.heap.size w W) => bad_any T W (PT.In.later h hT) (hS.later h))
  clear hT hS
  unfold pv at HZ
  unfold pv
  have hk0 := (Below.refl w.heap.size w).alloc (Nat.le_refl _) (.cells #[.int .i64 T.k, .string T.t, .int .i64 T.n, .string T.nm, .slice T.xa T.len T.cap] 30)
  go_enter Tryz.func18, Tryz.ntmps18
  go_wp2_with fail
  refine (unhide HZ _ hk0).mono ?_
  rintro e w1 ⟨rfl, hb1⟩
  have H1 := hide (bnext hk0 hb1)
  have hrow : w1.heap[w.heap.size]? = some (.cells #[.int .i64 T.k, .string T.t, .int .i64 T.n, .string T.nm, .slice T.xa T.len T.cap] 30 (0, 0)) := row_below (at_new rfl) hb1
  have c0 : w1.cell? ⟨w.heap.size, 0, none⟩ = some (.int .i64 T.k) := cr hrow
  have c1 : w1.cell? ⟨w.heap.size, 1, none⟩ = some (.string T.t) := cr hrow
  have c2 : w1.cell? ⟨w.heap.size, 2, none⟩ = some (.int .i64 T.n) := cr hrow
  have c3 : w1.cell? ⟨w.heap.size, 3, none⟩ = some (.string T.nm) := cr hrow
  have c4 : w1.cell? ⟨w.heap.size, 4, none⟩ = some (.slice T.xa T.len T.cap) := cr hrow
  clear hk0 hb1 hrow HZ
  unfold sizeSaid
  cases hf : T.fits
  · have HW : Hid (T.wrong = 4) := hide (by unfold PT.wrong; rw [hf]; rfl)
    clear hf
    go_wp2_with fail
    go_ret
    exact ⟨by rw [unhide HW]; rfl, unhide H1⟩
  · have HW : Hid (T.wrong = T.bad) := hide (by unfold PT.wrong; rw [hf]; rfl)
    clear hf
    go_wp2_with fail
    refine (unhide HB _ (unhide H1)).mono ?_
    rintro e w2 ⟨rfl, hb2⟩
    have H2 := hide (bnext (unhide H1) hb2)
    clear hb2
    go_wp2_with fail
    go_ret
    exact ⟨by rw [unhide HW]; rfl, unhide H2⟩
end Go.Proofs.YtpphjddljngkmaaGreatDoor
