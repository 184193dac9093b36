/- What pats.Size does, for every pattern. -/
import Derived.Test.YtpphjddljngkmaaGreatDoorPatNamedM
namespace Go.Proofs.YtpphjddljngkmaaGreatDoor
open Go.RowKit

/-- Nothing has changed but block z and what is new. -/
structure But (z : Nat) (w w' : World) : Prop where
  os : w'.os = w.os
  tape : w'.tape = w.tape
  output : w'.output = w.output
  size : w.heap.size ≤ w'.heap.size
  block : ∀ k, k < w.heap.size → k ≠ z → w'.heap[k]? = w.heap[k]?
theorem But.refl (z : Nat) (w : World) : But z w w := ⟨rfl, rfl, rfl, Nat.le_refl _, fun _ _ _ => rfl⟩
theorem But.trans {z : Nat} {a b c : World} (h : But z a b) (k : But z b c) : But z a c :=
  ⟨k.os.trans h.os, k.tape.trans h.tape, k.output.trans h.output, Nat.le_trans h.size k.size, fun i hi hz => (k.block i (Nat.lt_of_lt_of_le hi h.size) hz).trans (h.block i hi hz)⟩
theorem But.below {z : Nat} {a b c : World} (h : Below a.heap.size a b) (k : But z b c) (hz : a.heap.size ≤ z) : Below a.heap.size a c :=
  ⟨k.os.trans h.os, k.tape.trans h.tape, k.output.trans h.output, Nat.le_trans h.size k.size, fun i hi => (k.block i (Nat.lt_of_lt_of_le hi h.size) (by omega)).trans (h.block i hi)⟩
theorem But.row {z : Nat} {w w' : World} (h : But z w w') {n : Nat} {x : Obj} (hn : n ≠ z) (hx : w.heap[n]? = some x) : w'.heap[n]? = some x :=
  (h.block n (Array.getElem?_eq_some_iff.1 hx).1 hn).trans hx
theorem But.setCell {z : Nat} {a w : World} (h : But z a w) (o : Nat) (v : Value) : But z a (w.setCell ⟨z, o, none⟩ v) :=
  ⟨h.os, h.tape, h.output, by simpa using h.size, fun k hk hz => (heap_setCell_other w ⟨z, o, none⟩ k v (by simpa using hz)).trans (h.block k hk hz)⟩
theorem But.alloc {z : Nat} {a w : World} (h : But z a w) (o : Obj) : But z a (w.alloc o) :=
  ⟨h.os, h.tape, h.output, by rw [World.size_alloc]; exact Nat.le_succ_of_le h.size, fun k hk hz => (Below.heap_alloc _ _ _ (Nat.lt_of_lt_of_le hk h.size)).trans (h.block k hk hz)⟩
theorem below_drewN {B : Nat} {w w' : World} (h : Below B w w') : ∀ n, Below B w (w'.drewN n)
  | 0 => h
  | n + 1 => (below_drewN h n).drew
/-- Where a kid lies. -/
theorem size_pat : (Tryz.prog.info? 30).map (·.size) = some 5 := by kernel_rfl
theorem kid_at {W : World} {T : PT} (hT : T.In W) {k : Nat} (hk : k < T.len) (w : World) :
    (Instr.indexAt 28 (.slice T.xa T.len T.cap) (.int .i64 (k : Int))).run Tryz.prog w = .ok (.pointer (some ⟨T.b, T.o + k * 5, none⟩)) w := by
  rw [hT.addr (by omega)]
  have h0 : (0 : Int) ≤ (k : Int) ∧ (k : Int) < (T.len : Int) := by omega
  have hs := size_pat
  cases hq : Tryz.prog.info? 30 with
  | none => simp [hq] at hs
  | some i =>
    have hz : i.size = 5 := by simpa [hq] using hs
    simp [Instr.indexAt, asIntOf, run_underlying Tryz.underlying28, h0, sizeOf, typeInfo, hq, hz, Addr.add_lit]
    intro h
    omega
def mcells (a m : Nat) : Obj := .cells #[.int .i64 (a : Int), .int .i64 (m : Int)] 81 (0, 0)
/-- What add says of a pattern. -/
def AddPost (T : PT) (g a m d : Nat) (w : World) (e : Ending) (w' : World) : Prop := ∃ ok a' m', e = .returned (.bool ok) ∧ w'.heap[g]? = some (mcells a' m') ∧ But g w w' ∧
    (ok = true → a' = a + T.cnt ∧ m' = max m (d + T.dep - 1) ∧ a' ≤ 4096 ∧ m' ≤ 200) ∧ (ok = false → 4096 < a + T.cnt ∨ 200 < d + T.dep - 1)
def AddSays (T : PT) : Prop := ∀ (W w : World) (g a m d : Nat), T.In W → Below W.heap.size W w → W.heap.size ≤ g → w.heap[g]? = some (mcells a m) → a ≤ 4096 → m ≤ 200 → d ≤ 201 → ∀ x : Int, x = (d : Int) →
  Calls Tryz.prog 50 #[.pointer (some ⟨g, 0, none⟩), .agg #[.int .i64 T.k, .string T.t, .int .i64 T.n, .string T.nm, .slice T.xa T.len T.cap], .int .i64 x] w fun e w' => AddPost T g a m d w e w'
theorem set_two (w : World) (g a m : Nat) (x y : Value) (h : w.heap[g]? = some (mcells a m)) :
    ((w.setCell ⟨g, 0, none⟩ x).setCell ⟨g, 1, none⟩ y).heap[g]? = some (.cells #[x, y] 81 (0, 0)) := by
  have h1 := heap_setCell_same w g 0 _ _ x h
  have h2 := heap_setCell_same _ g 1 _ _ y h1
  simpa using h2
set_option maxRecDepth 100000 in
set_option maxHeartbeats 1000000 in
theorem add_step (T : PT) (ih : ∀ i, i < T.len → AddSays (T.kid i)) : AddSays T := by
  intro W w g a m d hT hbel hWg hg ha hm hd x hx
  subst hx
  have hc0 := T.cnt_eq
  have hd0 := T.dep_eq
  have hpos := T.dep_pos
  have hmax := hT.max
  unfold maxLen at hmax
  have hgl : g < w.heap.size := (Array.getElem?_eq_some_iff.1 hg).1
  have hgn : ¬ g = w.heap.size := by omega
  have hgm : ¬ w.heap.size = g := by omega
  have c0 : w.cell? ⟨g, 0, none⟩ = some (.int .i64 a) := by rw [cell_of_row w _ _ _ _ _ hg]; rfl
  have c1 : w.cell? ⟨g, 1, none⟩ = some (.int .i64 m) := by rw [cell_of_row w _ _ _ _ _ hg]; rfl
  have f0 := frozen_of_row w g 0 _ _ hg
  have f1 := frozen_of_row w g 1 _ _ hg
  obtain ⟨M, hM, hMx⟩ : ∃ M, ((m < d ∧ d = M) ∨ (¬ m < d ∧ m = M)) ∧ M = max m d := ⟨max m d, by omega, rfl⟩
  have H2 := hide (set_two w g a m (.int .i64 ((a : Int) + 1)) (.int .i64 (M : Int)) hg)
  have HD := hide (And.intro hc0 (And.intro hd0 (And.intro hMx (And.intro hT (And.intro hbel ih)))))
  clear hg hc0 hd0 hMx hT hbel ih hpos
  by_cases h1 : 4096 < a + 1
  · have h1' : 4096 < (a : Int) + 1 := by omega
    rcases hM with ⟨hM, rfl⟩ | ⟨hM, rfl⟩
    all_goals
      go_enter Tryz.func50, Tryz.ntmps50
      go_wp2_with fail
      go_ret
      refine ⟨false, a + 1, _, rfl, at_old (by simpa using hgl) (unhide H2), (((But.refl g w).setCell _ _).setCell _ _).alloc _, by simp, fun _ => .inl ?_⟩
      have := (unhide HD).1
      omega
  · by_cases h2 : 200 < d
    · have h1' : ¬ 4096 < (a : Int) + 1 := by omega
      have h2' : 200 < (d : Int) := by omega
      have hMd : m < d := by omega
      have hMM : d = M := by omega
      clear hM
      subst hMM
      go_enter Tryz.func50, Tryz.ntmps50
      go_wp2_with fail
      go_ret
      refine ⟨false, a + 1, _, rfl, at_old (by simpa using hgl) (unhide H2), (((But.refl g w).setCell _ _).setCell _ _).alloc _, by simp, fun _ => .inr ?_⟩
      have := (unhide HD).2.1
      omega
    · have h1' : ¬ 4096 < (a : Int) + 1 := by omega
      have h2' : ¬ 200 < (d : Int) := by omega
      obtain ⟨K, hK⟩ : ∃ K, K = (Obj.cells #[.int .i64 T.k, .string T.t, .int .i64 T.n, .string T.nm, .slice T.xa T.len T.cap] 30) := ⟨_, rfl⟩
      have hs0 := at_old (o := K) (by simpa using hgl) (unhide H2)
      have hb0 := (((But.refl g w).setCell 0 (.int .i64 ((a : Int) + 1))).setCell 1 (.int .i64 (M : Int))).alloc K
      obtain ⟨W0, hW0⟩ : ∃ W0, W0 = (((w.setCell ⟨g, 0, none⟩ (.int .i64 ((a : Int) + 1))).setCell ⟨g, 1, none⟩ (.int .i64 (M : Int))).alloc K) := ⟨_, rfl⟩
      rw [← hW0] at hs0 hb0
      have HW := hide hW0
      have HK := hide hK
      have HB0 := hide hb0
      have HS0 := hide hs0
      have hw0 := hb0.size
      clear hW0 hK hb0 hs0
      rcases hM with ⟨hM, hMM⟩ | ⟨hM, hMM⟩
      all_goals
        subst hMM
        go_enter Tryz.func50, Tryz.ntmps50
        go_wp2_with fail
        rw [← unhide HK, ← unhide HW]
        clear c0 c1 f0 f1 hgn hgm H2 hM h1'
        go_loopw [37] (fun i wr => ∃ k A B : Nat, k ≤ T.len ∧ i = .int .i64 (k : Int) ∧ wr.heap[g]? = some (mcells A B) ∧ But g w wr ∧ A = a + 1 + sumTo (fun i => (T.kid i).cnt) k ∧ B = max (max m d) (d + maxTo (fun i => (T.kid i).dep) k) ∧ A ≤ 4096 ∧ B ≤ 200) (fun i _ => T.len - (intOf i).toNat)
        case atStart =>
          refine ⟨0, a + 1, _, by omega, rfl, unhide HS0, unhide HB0, rfl, ?_, by omega, by omega⟩
          have := (unhide HD).2.2.1
          simp only [maxTo]
          omega
        case round =>
          obtain ⟨k, A, B, hk, rfl, hgr, hbr, hA, hB, hA1, hB1⟩ := hrel
          rcases Nat.lt_or_ge k T.len with hkt | hkt
          · obtain ⟨hcn, hdn, -, hT, hbel, ih⟩ := unhide HD
            have hbw := But.below hbel hbr hWg
            have hia := kid_at hT hkt
            obtain ⟨k0, k1, k2, k3, k4⟩ := hT.cells hkt
            have k0 := cell_later hbw k0
            have k1 := cell_later hbw k1
            have k2 := cell_later hbw k2
            have k3 := cell_later hbw k3
            have k4 := cell_later hbw k4
            unfold PT.kv at k4
            have hgl2 : g < wr.heap.size := (Array.getElem?_eq_some_iff.1 hgr).1
            have HI := hide (ih k hkt W)
            have HT := hide (hT.kids hkt)
            have HBW := hide hbw
            have HGR := hide hgr
            have HBR := hide hbr
            have HAB := hide (And.intro hA hB)
            clear hcn hdn hT hbel ih hbw hgr hbr hA hB
            go_wp2_with fail
            refine (unhide HI _ g A B (d + 1) (unhide HT) ((unhide HBW).alloc (unhide HBW).size _) hWg (at_old hgl2 (unhide HGR)) hA1 hB1 (by omega) _ (by omega)).mono ?_
            rintro e w2 ⟨ok, a', m', rfl, hg2, hb2, ht, hf⟩
            have HG2 := hide hg2
            have HB2 := hide (((unhide HBR).alloc _).trans hb2)
            have HTF := hide (And.intro ht hf)
            clear hg2 hb2 ht hf
            cases ok
            · go_wp2_with fail
              go_ret
              refine ⟨false, a', m', rfl, unhide HG2, unhide HB2, by simp, fun _ => ?_⟩
              obtain ⟨hcn, hdn, _⟩ := unhide HD
              have e1 := sumTo_le (fun i => (T.kid i).cnt) (show k + 1 ≤ T.len from hkt)
              have e2 := maxTo_le (fun i => (T.kid i).dep) (show k + 1 ≤ T.len from hkt)
              simp only [sumTo, maxTo] at e1 e2
              have h := (unhide HTF).2 (by simp)
              have hA := (unhide HAB).1
              have hB := (unhide HAB).2
              omega
            · go_wp2_with fail
              go_roundw
              case rel =>
                obtain ⟨h1, h2, h3, h4⟩ := (unhide HTF).1 (by simp)
                refine ⟨k + 1, a', m', by omega, by go_num, unhide HG2, unhide HB2, ?_, ?_, h3, h4⟩
                · have := (unhide HAB).1
                  simp only [sumTo]
                  omega
                · have := (unhide HAB).2
                  simp only [maxTo]
                  omega
              case measure => simp [intOf]; omega
          · have hk' : k = T.len := by omega
            have HGR := hide hgr
            have HBR := hide hbr
            have HAB := hide (And.intro hA hB)
            clear hgr hbr hA hB
            go_wp2_with fail
            go_ret
            refine ⟨true, A, B, rfl, unhide HGR, unhide HBR, fun _ => ?_, by simp⟩
            obtain ⟨hcn, hdn, _⟩ := unhide HD
            have hA := (unhide HAB).1
            have hB := (unhide HAB).2
            rw [hk'] at hA hB
            exact ⟨by omega, by omega, hA1, hB1⟩
theorem add_any : ∀ T : PT, AddSays T := PT.ind add_step
/-- A pattern as an argument. -/
def pv (T : PT) : Value := .agg #[.int .i64 T.k, .string T.t, .int .i64 T.n, .string T.nm, .slice T.xa T.len T.cap]
/-- What Size answers. -/
def sizeSaid (T : PT) : Value := if T.fits then .tuple #[.int .i64 (T.cnt : Int), .int .i64 (T.dep : Int), .int .i64 0] else .tuple #[.int .i64 0, .int .i64 0, .int .i64 4]
set_option maxRecDepth 100000 in
set_option maxHeartbeats 1000000 in
theorem size_any (T : PT) (w : World) (hT : T.In w) :
    Calls Tryz.prog 35 #[pv T] w fun e w' => e = .returned (sizeSaid T) ∧ Below w.heap.size w w' := by
  unfold pv
  have HA := hide (add_any T w)
  have HT := hide hT
  clear hT
  go_enter Tryz.func35, Tryz.ntmps35
  go_wp2_with fail
  have hbel := ((Below.refl w.heap.size w).alloc (Nat.le_refl _) (.cells #[.int .i64 T.k, .string T.t, .int .i64 T.n, .string T.nm, .slice T.xa T.len T.cap] 30)).alloc (by simp) (.cells #[.int .i64 0, .int .i64 0] 81)
  refine (unhide HA _ (w.heap.size + 1) 0 0 1 (unhide HT) hbel (by omega) (at_new (by simp)) (by omega) (by omega) (by omega) _ rfl).mono ?_
  rintro e w1 ⟨ok, a', m', rfl, hg, hb, ht, hf⟩
  have HB := hide (But.below hbel hb (by omega))
  have HTF := hide (And.intro ht hf)
  have c0 : w1.cell? ⟨w.heap.size + 1, 0, none⟩ = some (.int .i64 a') := by rw [cell_of_row w1 _ _ _ _ _ hg]; rfl
  have c1 : w1.cell? ⟨w.heap.size + 1, 1, none⟩ = some (.int .i64 m') := by rw [cell_of_row w1 _ _ _ _ _ hg]; rfl
  clear hbel hb ht hf hg HA
  cases ok
  · have HS : Hid (sizeSaid T = .tuple #[.int .i64 0, .int .i64 0, .int .i64 4]) := hide (by
      unfold sizeSaid
      rw [if_neg]
      have h := (unhide HTF).2 (by simp)
      unfold PT.fits
      simp
      omega)
    go_wp2_with fail
    go_ret3
    exact ⟨by rw [unhide HS]; rfl, unhide HB⟩
  · have HS : Hid (sizeSaid T = .tuple #[.int .i64 a', .int .i64 m', .int .i64 0]) := hide (by
      obtain ⟨h1, h2, h3, h4⟩ := (unhide HTF).1 (by simp)
      have := T.dep_pos
      unfold sizeSaid
      rw [if_pos]
      · rw [h1, h2, show max 0 (1 + T.dep - 1) = T.dep by omega, Nat.zero_add]
      · unfold PT.fits
        simp
        omega)
    go_wp2_with fail
    go_quiet (fail)
    go_wp2_with fail
    go_ret3
    exact ⟨by rw [unhide HS]; rfl, below_drewN (unhide HB) _⟩
end Go.Proofs.YtpphjddljngkmaaGreatDoor
