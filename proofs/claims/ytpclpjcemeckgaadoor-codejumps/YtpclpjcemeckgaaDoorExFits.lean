/- Expressions lie in memory as patterns do (five cells a node): what syntax.fits and isTooMuch do, for every expression. -/
import Derived.Test.YtpclpjcemeckgaaDoorPatSize
namespace Go.Proofs.YtpclpjcemeckgaaDoor
open Go.RowKit

theorem size_expr : (Tryd.prog.info? 38).map (·.size) = some 5 := by kernel_rfl
theorem kidx_at {W : World} {T : PT} (hT : T.In W) {k : Nat} (hk : k < T.len) (w : World) :
    (Instr.indexAt 36 (.slice T.xa T.len T.cap) (.int .i64 (k : Int))).run Tryd.prog w = .ok (.pointer (some ⟨T.b, T.o + k * 5, none⟩)) w := by
  rw [hT.addr (by omega)]
  have h0 : (0 : Int) ≤ (k : Int) ∧ (k : Int) < (T.len : Int) := by omega
  have hs := size_expr
  cases hq : Tryd.prog.info? 38 with
  | none => simp [hq] at hs
  | some i =>
    have hz : i.size = 5 := by simpa [hq] using hs
    simp [Instr.indexAt, asIntOf, run_underlying Tryd.underlying36, h0, sizeOf, typeInfo, hq, hz, Addr.add_lit]
    intro h
    omega

def ncell (a : Nat) : Obj := .cells #[.int .i64 (a : Int)] 3 (0, 0)

/-- What fits says of an expression. -/
def FitPost (T : PT) (g a d : Nat) (w : World) (e : Ending) (w' : World) : Prop := ∃ ok a', e = .returned (.bool ok) ∧ w'.heap[g]? = some (ncell a') ∧ But g w w' ∧
    (ok = true → a' = a + T.cnt ∧ d + T.dep - 1 ≤ 200 ∧ a' ≤ 4096) ∧ (ok = false → 4096 < a + T.cnt ∨ 200 < d + T.dep - 1)
def FitSays (T : PT) : Prop := ∀ (W w : World) (g a d : Nat), T.In W → Below W.heap.size W w → W.heap.size ≤ g → w.heap[g]? = some (ncell a) → a ≤ 4096 → d ≤ 201 → ∀ x : Int, x = (d : Int) →
  Calls Tryd.prog 56 #[.agg #[.int .i64 T.k, .string T.t, .int .i64 T.n, .string T.nm, .slice T.xa T.len T.cap], .int .i64 x, .pointer (some ⟨g, 0, none⟩)] w fun e w' => FitPost T g a d w e w'

theorem set_one (w : World) (g a : Nat) (x : Value) (h : w.heap[g]? = some (ncell a)) :
    (w.setCell ⟨g, 0, none⟩ x).heap[g]? = some (.cells #[x] 3 (0, 0)) := by
  have h1 := heap_setCell_same w g 0 _ _ x h
  simpa using h1

set_option maxRecDepth 100000 in
set_option maxHeartbeats 1000000 in
theorem fit_step (T : PT) (ih : ∀ i, i < T.len → FitSays (T.kid i)) : FitSays T := by
  intro W w g a d hT hbel hWg hg ha hd x hx
  subst hx
  have hc0 := T.cnt_eq
  have hd0 := T.dep_eq
  have hmax := hT.max
  unfold maxLen at hmax
  have hgl : g < w.heap.size := (Array.getElem?_eq_some_iff.1 hg).1
  have hgn : ¬ g = w.heap.size := by omega
  have hgm : ¬ w.heap.size = g := by omega
  have c0 : w.cell? ⟨g, 0, none⟩ = some (.int .i64 a) := by rw [cell_of_row w _ _ _ _ _ hg]; rfl
  have f0 := frozen_of_row w g 0 _ _ hg
  have H2 := hide (set_one w g a (.int .i64 ((a : Int) + 1)) hg)
  have HD := hide (And.intro hc0 (And.intro hd0 (And.intro hT (And.intro hbel ih))))
  clear hg hc0 hd0 hT hbel ih
  by_cases h1 : 4096 < a + 1
  · have h1' : 4096 < (a : Int) + 1 := by omega
    go_enter Tryd.func56, Tryd.ntmps56
    go_wp2_with fail
    go_ret
    refine ⟨false, a + 1, rfl, at_old (by simpa using hgl) (unhide H2), ((But.refl g w).setCell _ _).alloc _, by simp, fun _ => .inl ?_⟩
    have := (unhide HD).1
    omega
  · by_cases h2 : 200 < d
    · have h1' : ¬ 4096 < (a : Int) + 1 := by omega
      have h2' : 200 < (d : Int) := by omega
      go_enter Tryd.func56, Tryd.ntmps56
      go_wp2_with fail
      go_ret
      refine ⟨false, a + 1, rfl, at_old (by simpa using hgl) (unhide H2), ((But.refl g w).setCell _ _).alloc _, by simp, fun _ => .inr ?_⟩
      have := (unhide HD).2.1
      omega
    · have h1' : ¬ 4096 < (a : Int) + 1 := by omega
      have h2' : ¬ 200 < (d : Int) := by omega
      obtain ⟨K, hK⟩ : ∃ K, K = (Obj.cells #[.int .i64 T.k, .string T.t, .int .i64 T.n, .string T.nm, .slice T.xa T.len T.cap] 38) := ⟨_, rfl⟩
      have hs0 := at_old (o := K) (by simpa using hgl) (unhide H2)
      have hb0 := ((But.refl g w).setCell 0 (.int .i64 ((a : Int) + 1))).alloc K
      obtain ⟨W0, hW0⟩ : ∃ W0, W0 = ((w.setCell ⟨g, 0, none⟩ (.int .i64 ((a : Int) + 1))).alloc K) := ⟨_, rfl⟩
      rw [← hW0] at hs0 hb0
      have HW := hide hW0
      have HK := hide hK
      have HB0 := hide hb0
      have HS0 := hide hs0
      have hw0 := hb0.size
      clear hW0 hK hb0 hs0
      go_enter Tryd.func56, Tryd.ntmps56
      go_wp2_with fail
      rw [← unhide HK, ← unhide HW]
      clear c0 f0 hgn hgm H2 h1'
      go_loopw [25] (fun i wr => ∃ k A : Nat, k ≤ T.len ∧ i = .int .i64 (k : Int) ∧ wr.heap[g]? = some (ncell A) ∧ But g w wr ∧ A = a + 1 + sumTo (fun i => (T.kid i).cnt) k ∧ d + maxTo (fun i => (T.kid i).dep) k ≤ 200 ∧ A ≤ 4096) (fun i _ => T.len - (intOf i).toNat)
      case atStart =>
        refine ⟨0, a + 1, by omega, rfl, unhide HS0, unhide HB0, rfl, ?_, by omega⟩
        simp only [maxTo]
        omega
      case round =>
        obtain ⟨k, A, hk, rfl, hgr, hbr, hA, hB, hA1⟩ := hrel
        rcases Nat.lt_or_ge k T.len with hkt | hkt
        · obtain ⟨hcn, hdn, hT, hbel, ih⟩ := unhide HD
          have hbw := But.below hbel hbr hWg
          have hia := kidx_at hT hkt
          obtain ⟨k0, k1, k2, k3, k4⟩ := hT.cells hkt
          have k0 := cell_later hbw k0
          have k1 := cell_later hbw k1
          have k2 := cell_later hbw k2
          have k3 := cell_later hbw k3
          have k4 := cell_later hbw k4
          unfold PT.kv at k4
          have hgl2 : g < wr.heap.size := (Array.getElem?_eq_some_iff.1 hgr).1
          have HI := hide (ih k hkt W)
          have HT := hide (hT.kids hkt)
          have HBW := hide hbw
          have HGR := hide hgr
          have HBR := hide hbr
          have HAB := hide (And.intro hA hB)
          clear hcn hdn hT hbel ih hbw hgr hbr hA hB
          go_wp2_with fail
          refine (unhide HI _ g A (d + 1) (unhide HT) ((unhide HBW).alloc (unhide HBW).size _) hWg (at_old hgl2 (unhide HGR)) hA1 (by omega) _ (by omega)).mono ?_
          rintro e w2 ⟨ok, a', rfl, hg2, hb2, ht, hf⟩
          have HG2 := hide hg2
          have HB2 := hide (((unhide HBR).alloc _).trans hb2)
          have HTF := hide (And.intro ht hf)
          clear hg2 hb2 ht hf
          cases ok
          · go_wp2_with fail
            go_ret
            refine ⟨false, a', rfl, unhide HG2, unhide HB2, by simp, fun _ => ?_⟩
            obtain ⟨hcn, hdn, _⟩ := unhide HD
            have e1 := sumTo_le (fun i => (T.kid i).cnt) (show k + 1 ≤ T.len from hkt)
            have e2 := maxTo_le (fun i => (T.kid i).dep) (show k + 1 ≤ T.len from hkt)
            simp only [sumTo, maxTo] at e1 e2
            have h := (unhide HTF).2 (by simp)
            have hA := (unhide HAB).1
            have hB := (unhide HAB).2
            omega
          · go_wp2_with fail
            go_roundw
            case rel =>
              obtain ⟨h1, h2, h3⟩ := (unhide HTF).1 (by simp)
              refine ⟨k + 1, a', by omega, by go_num, unhide HG2, unhide HB2, ?_, ?_, h3⟩
              · have := (unhide HAB).1
                simp only [sumTo]
                omega
              · have := (unhide HAB).2
                simp only [maxTo]
                omega
            case measure => simp [intOf]; omega
        · have hk' : k = T.len := by omega
          have HGR := hide hgr
          have HBR := hide hbr
          have HAB := hide (And.intro hA hB)
          clear hgr hbr hA hB
          go_wp2_with fail
          go_ret
          refine ⟨true, A, rfl, unhide HGR, unhide HBR, fun _ => ?_, by simp⟩
          obtain ⟨hcn, hdn, _⟩ := unhide HD
          have hA := (unhide HAB).1
          have hB := (unhide HAB).2
          rw [hk'] at hA hB
          exact ⟨by omega, by omega, hA1⟩

theorem fit_any : ∀ T : PT, FitSays T := PT.ind fit_step

set_option maxRecDepth 100000 in
set_option maxHeartbeats 1000000 in
theorem tooMuch_any (T : PT) (w : World) (hT : T.In w) :
    Calls Tryd.prog 48 #[pv T] w fun e w' => e = .returned (.bool (!T.fits)) ∧ Below w.heap.size w w' := by
  unfold pv
  have HA := hide (fit_any T w)
  have HT := hide hT
  clear hT
  go_enter Tryd.func48, Tryd.ntmps48
  go_wp2_with fail
  have hbel := ((Below.refl w.heap.size w).alloc (Nat.le_refl _) (.cells #[.int .i64 T.k, .string T.t, .int .i64 T.n, .string T.nm, .slice T.xa T.len T.cap] 38)).alloc (by simp) (.cells #[.int .i64 0] 3)
  refine (unhide HA _ (w.heap.size + 1) 0 1 (unhide HT) hbel (by omega) (at_new (by simp)) (by omega) (by omega) _ rfl).mono ?_
  rintro e w1 ⟨ok, a', rfl, hg, hb, ht, hf⟩
  have HB := hide (But.below hbel hb (by omega))
  have HS := hide (show (!T.fits) = !ok by
    unfold PT.fits
    have := T.dep_pos
    cases ok
    · have h := hf rfl
      simp
      omega
    · have h := ht rfl
      simp
      omega)
  clear hbel hb ht hf hg HA
  go_wp2_with fail
  go_ret
  exact ⟨by rw [unhide HS]; rfl, unhide HB⟩
end Go.Proofs.YtpclpjcemeckgaaDoor
