/- What pats.Size does, for every pattern. How the machine lies in memory: a block of nineteen fields and six rows. Plain facts on sets of bytes as four words: no Go text. What sets.Has and sets.with do, for every set and byte. Rows of bytes that a call makes by appending; small facts. A pattern made simpler: what it becomes. How the machine's lists stand for what is to be done: nodes for a pattern, works for what is behind, choices for where it may go back to. -/
import Derived.Test.YtbmngbpillihaaaDoorPatNamedM
import Derived.Maps.AppendAt
import Derived.WalkKit
import Derived.Test.YtbmngbpillihaaaDoorRows
import Derived.WalkSpells
import Derived.WalkLawsBesides
import Derived.WalkSmall
import Derived.Deep.WholeRow
import Derived.Laws.Bits64b
import Derived.ChangeKeysEq
namespace Go.Proofs.YtbmngbpillihaaaDoor
open Go.RowKit

structure But (z : Nat) (w w' : World) : Prop where
  os : w'.os = w.os
  tape : w'.tape = w.tape
  output : w'.output = w.output
  size : w.heap.size ≤ w'.heap.size
  block : ∀ k, k < w.heap.size → k ≠ z → w'.heap[k]? = w.heap[k]?
theorem But.refl (z : Nat) (w : World) : But z w w := ⟨rfl, rfl, rfl, Nat.le_refl _, fun _ _ _ => rfl⟩
theorem But.of_below {z : Nat} {w w' : World} (h : Below w.heap.size w w') : But z w w' := ⟨h.os, h.tape, h.output, h.size, fun k hk _ => h.block k hk⟩
theorem But.trans {z : Nat} {a b c : World} (h : But z a b) (k : But z b c) : But z a c :=
  ⟨k.os.trans h.os, k.tape.trans h.tape, k.output.trans h.output, Nat.le_trans h.size k.size, fun i hi hz => (k.block i (Nat.lt_of_lt_of_le hi h.size) hz).trans (h.block i hi hz)⟩
theorem But.below {z : Nat} {a b c : World} (h : Below a.heap.size a b) (k : But z b c) (hz : a.heap.size ≤ z) : Below a.heap.size a c :=
  ⟨k.os.trans h.os, k.tape.trans h.tape, k.output.trans h.output, Nat.le_trans h.size k.size, fun i hi => (k.block i (Nat.lt_of_lt_of_le hi h.size) (by omega)).trans (h.block i hi)⟩
theorem But.row {z : Nat} {w w' : World} (h : But z w w') {n : Nat} {x : Obj} (hn : n ≠ z) (hx : w.heap[n]? = some x) : w'.heap[n]? = some x :=
  (h.block n (Array.getElem?_eq_some_iff.1 hx).1 hn).trans hx
theorem But.setCell {z : Nat} {a w : World} (h : But z a w) (o : Nat) (v : Value) : But z a (w.setCell ⟨z, o, none⟩ v) :=
  ⟨h.os, h.tape, h.output, by simpa using h.size, fun k hk hz => (heap_setCell_other w ⟨z, o, none⟩ k v (by simpa using hz)).trans (h.block k hk hz)⟩
theorem But.alloc {z : Nat} {a w : World} (h : But z a w) (o : Obj) : But z a (w.alloc o) :=
  ⟨h.os, h.tape, h.output, by rw [World.size_alloc]; exact Nat.le_succ_of_le h.size, fun k hk hz => (Below.heap_alloc _ _ _ (Nat.lt_of_lt_of_le hk h.size)).trans (h.block k hk hz)⟩
theorem below_drewN {B : Nat} {w w' : World} (h : Below B w w') : ∀ n, Below B w (w'.drewN n)
  | 0 => h
  | n + 1 => (below_drewN h n).drew
theorem size_pat : (Tryd.prog.info? 24).map (·.size) = some 5 := by kernel_rfl
theorem kid_at {W : World} {T : PT} (hT : T.In W) {k : Nat} (hk : k < T.len) (w : World) :
    (Instr.indexAt 22 (.slice T.xa T.len T.cap) (.int .i64 (k : Int))).run Tryd.prog w = .ok (.pointer (some ⟨T.b, T.o + k * 5, none⟩)) w := by
  rw [hT.addr (by omega)]
  have h0 : (0 : Int) ≤ (k : Int) ∧ (k : Int) < (T.len : Int) := by omega
  have hs := size_pat
  cases hq : Tryd.prog.info? 24 with
  | none => simp [hq] at hs
  | some i =>
    have hz : i.size = 5 := by simpa [hq] using hs
    simp [Instr.indexAt, asIntOf, run_underlying Tryd.underlying22, h0, sizeOf, typeInfo, hq, hz, Addr.add_lit]
    intro h
    omega
def mcells (a m : Nat) : Obj := .cells #[.int .i64 (a : Int), .int .i64 (m : Int)] 79 (0, 0)
def AddPost (T : PT) (g a m d : Nat) (w : World) (e : Ending) (w' : World) : Prop := ∃ ok a' m', e = .returned (.bool ok) ∧ w'.heap[g]? = some (mcells a' m') ∧ But g w w' ∧
    (ok = true → a' = a + T.cnt ∧ m' = max m (d + T.dep - 1) ∧ a' ≤ 4096 ∧ m' ≤ 200) ∧ (ok = false → 4096 < a + T.cnt ∨ 200 < d + T.dep - 1)
def AddSays (T : PT) : Prop := ∀ (W w : World) (g a m d : Nat), T.In W → Below W.heap.size W w → W.heap.size ≤ g → w.heap[g]? = some (mcells a m) → a ≤ 4096 → m ≤ 200 → d ≤ 201 → ∀ x : Int, x = (d : Int) →
  Calls Tryd.prog 39 #[.pointer (some ⟨g, 0, none⟩), .agg #[.int .i64 T.k, .string T.t, .int .i64 T.n, .string T.nm, .slice T.xa T.len T.cap], .int .i64 x] w fun e w' => AddPost T g a m d w e w'
theorem set_two (w : World) (g a m : Nat) (x y : Value) (h : w.heap[g]? = some (mcells a m)) :
    ((w.setCell ⟨g, 0, none⟩ x).setCell ⟨g, 1, none⟩ y).heap[g]? = some (.cells #[x, y] 79 (0, 0)) := by
  have h1 := heap_setCell_same w g 0 _ _ x h
  have h2 := heap_setCell_same _ g 1 _ _ y h1
  simpa using h2
set_option maxRecDepth 100000 in
set_option maxHeartbeats 1000000 in
theorem add_step (T : PT) (ih : ∀ i, i < T.len → AddSays (T.kid i)) : AddSays T := by
  intro W w g a m d hT hbel hWg hg ha hm hd x hx
  subst hx
  have hc0 := T.cnt_eq
  have hd0 := T.dep_eq
  have hpos := T.dep_pos
  have hmax := hT.max
  unfold maxLen at hmax
  have hgl : g < w.heap.size := (Array.getElem?_eq_some_iff.1 hg).1
  have hgn : ¬ g = w.heap.size := by omega
  have hgm : ¬ w.heap.size = g := by omega
  have c0 : w.cell? ⟨g, 0, none⟩ = some (.int .i64 a) := by rw [cell_of_row w _ _ _ _ _ hg]; rfl
  have c1 : w.cell? ⟨g, 1, none⟩ = some (.int .i64 m) := by rw [cell_of_row w _ _ _ _ _ hg]; rfl
  have f0 := frozen_of_row w g 0 _ _ hg
  have f1 := frozen_of_row w g 1 _ _ hg
  obtain ⟨M, hM, hMx⟩ : ∃ M, ((m < d ∧ d = M) ∨ (¬ m < d ∧ m = M)) ∧ M = max m d := ⟨max m d, by omega, rfl⟩
  have H2 := hide (set_two w g a m (.int .i64 ((a : Int) + 1)) (.int .i64 (M : Int)) hg)
  have HD := hide (And.intro hc0 (And.intro hd0 (And.intro hMx (And.intro hT (And.intro hbel ih)))))
  clear hg hc0 hd0 hMx hT hbel ih hpos
  by_cases h1 : 4096 < a + 1
  · have h1' : 4096 < (a : Int) + 1 := by omega
    rcases hM with ⟨hM, rfl⟩ | ⟨hM, rfl⟩
    all_goals
      go_enter Tryd.func39, Tryd.ntmps39
      go_wp2_with fail
      go_ret
      refine ⟨false, a + 1, _, rfl, at_old (by simpa using hgl) (unhide H2), (((But.refl g w).setCell _ _).setCell _ _).alloc _, by simp, fun _ => .inl ?_⟩
      have := (unhide HD).1
      omega
  · by_cases h2 : 200 < d
    · have h1' : ¬ 4096 < (a : Int) + 1 := by omega
      have h2' : 200 < (d : Int) := by omega
      have hMd : m < d := by omega
      have hMM : d = M := by omega
      clear hM
      subst hMM
      go_enter Tryd.func39, Tryd.ntmps39
      go_wp2_with fail
      go_ret
      refine ⟨false, a + 1, _, rfl, at_old (by simpa using hgl) (unhide H2), (((But.refl g w).setCell _ _).setCell _ _).alloc _, by simp, fun _ => .inr ?_⟩
      have := (unhide HD).2.1
      omega
    · have h1' : ¬ 4096 < (a : Int) + 1 := by omega
      have h2' : ¬ 200 < (d : Int) := by omega
      obtain ⟨K, hK⟩ : ∃ K, K = (Obj.cells #[.int .i64 T.k, .string T.t, .int .i64 T.n, .string T.nm, .slice T.xa T.len T.cap] 24) := ⟨_, rfl⟩
      have hs0 := at_old (o := K) (by simpa using hgl) (unhide H2)
      have hb0 := (((But.refl g w).setCell 0 (.int .i64 ((a : Int) + 1))).setCell 1 (.int .i64 (M : Int))).alloc K
      obtain ⟨W0, hW0⟩ : ∃ W0, W0 = (((w.setCell ⟨g, 0, none⟩ (.int .i64 ((a : Int) + 1))).setCell ⟨g, 1, none⟩ (.int .i64 (M : Int))).alloc K) := ⟨_, rfl⟩
      rw [← hW0] at hs0 hb0
      have HW := hide hW0
      have HK := hide hK
      have HB0 := hide hb0
      have HS0 := hide hs0
      have hw0 := hb0.size
      clear hW0 hK hb0 hs0
      rcases hM with ⟨hM, hMM⟩ | ⟨hM, hMM⟩
      all_goals
        subst hMM
        go_enter Tryd.func39, Tryd.ntmps39
        go_wp2_with fail
        rw [← unhide HK, ← unhide HW]
        clear c0 c1 f0 f1 hgn hgm H2 hM h1'
        go_loopw [37] (fun i wr => ∃ k A B : Nat, k ≤ T.len ∧ i = .int .i64 (k : Int) ∧ wr.heap[g]? = some (mcells A B) ∧ But g w wr ∧ A = a + 1 + sumTo (fun i => (T.kid i).cnt) k ∧ B = max (max m d) (d + maxTo (fun i => (T.kid i).dep) k) ∧ A ≤ 4096 ∧ B ≤ 200) (fun i _ => T.len - (intOf i).toNat)
        case atStart =>
          refine ⟨0, a + 1, _, by omega, rfl, unhide HS0, unhide HB0, rfl, ?_, by omega, by omega⟩
          have := (unhide HD).2.2.1
          simp only [maxTo]
          omega
        case round =>
          obtain ⟨k, A, B, hk, rfl, hgr, hbr, hA, hB, hA1, hB1⟩ := hrel
          rcases Nat.lt_or_ge k T.len with hkt | hkt
          · obtain ⟨hcn, hdn, -, hT, hbel, ih⟩ := unhide HD
            have hbw := But.below hbel hbr hWg
            have hia := kid_at hT hkt
            obtain ⟨k0, k1, k2, k3, k4⟩ := hT.cells hkt
            have k0 := cell_later hbw k0
            have k1 := cell_later hbw k1
            have k2 := cell_later hbw k2
            have k3 := cell_later hbw k3
            have k4 := cell_later hbw k4
            unfold PT.kv at k4
            have hgl2 : g < wr.heap.size := (Array.getElem?_eq_some_iff.1 hgr).1
            have HI := hide (ih k hkt W)
            have HT := hide (hT.kids hkt)
            have HBW := hide hbw
            have HGR := hide hgr
            have HBR := hide hbr
            have HAB := hide (And.intro hA hB)
            clear hcn hdn hT hbel ih hbw hgr hbr hA hB
            go_wp2_with fail
            refine (unhide HI _ g A B (d + 1) (unhide HT) ((unhide HBW).alloc (unhide HBW).size _) hWg (at_old hgl2 (unhide HGR)) hA1 hB1 (by omega) _ (by omega)).mono ?_
            rintro e w2 ⟨ok, a', m', rfl, hg2, hb2, ht, hf⟩
            have HG2 := hide hg2
            have HB2 := hide (((unhide HBR).alloc _).trans hb2)
            have HTF := hide (And.intro ht hf)
            clear hg2 hb2 ht hf
            cases ok
            · go_wp2_with fail
              go_ret
              refine ⟨false, a', m', rfl, unhide HG2, unhide HB2, by simp, fun _ => ?_⟩
              obtain ⟨hcn, hdn, _⟩ := unhide HD
              have e1 := sumTo_le (fun i => (T.kid i).cnt) (show k + 1 ≤ T.len from hkt)
              have e2 := maxTo_le (fun i => (T.kid i).dep) (show k + 1 ≤ T.len from hkt)
              simp only [sumTo, maxTo] at e1 e2
              have h := (unhide HTF).2 (by simp)
              have hA := (unhide HAB).1
              have hB := (unhide HAB).2
              omega
            · go_wp2_with fail
              go_roundw
              case rel =>
                obtain ⟨h1, h2, h3, h4⟩ := (unhide HTF).1 (by simp)
                refine ⟨k + 1, a', m', by omega, by go_num, unhide HG2, unhide HB2, ?_, ?_, h3, h4⟩
                · have := (unhide HAB).1
                  simp only [sumTo]
                  omega
                · have := (unhide HAB).2
                  simp only [maxTo]
                  omega
              case measure => simp [intOf]; omega
          · have hk' : k = T.len := by omega
            have HGR := hide hgr
            have HBR := hide hbr
            have HAB := hide (And.intro hA hB)
            clear hgr hbr hA hB
            go_wp2_with fail
            go_ret
            refine ⟨true, A, B, rfl, unhide HGR, unhide HBR, fun _ => ?_, by simp⟩
            obtain ⟨hcn, hdn, _⟩ := unhide HD
            have hA := (unhide HAB).1
            have hB := (unhide HAB).2
            rw [hk'] at hA hB
            exact ⟨by omega, by omega, hA1, hB1⟩
theorem add_any : ∀ T : PT, AddSays T := PT.ind add_step
def pv (T : PT) : Value := .agg #[.int .i64 T.k, .string T.t, .int .i64 T.n, .string T.nm, .slice T.xa T.len T.cap]
def sizeSaid (T : PT) : Value := if T.fits then .tuple #[.int .i64 (T.cnt : Int), .int .i64 (T.dep : Int), .int .i64 0] else .tuple #[.int .i64 0, .int .i64 0, .int .i64 4]
set_option maxRecDepth 100000 in
set_option maxHeartbeats 1000000 in
theorem size_any (T : PT) (w : World) (hT : T.In w) :
    Calls Tryd.prog 20 #[pv T] w fun e w' => e = .returned (sizeSaid T) ∧ Below w.heap.size w w' := by
  unfold pv
  have HA := hide (add_any T w)
  have HT := hide hT
  clear hT
  go_enter Tryd.func20, Tryd.ntmps20
  go_wp2_with fail
  have hbel := ((Below.refl w.heap.size w).alloc (Nat.le_refl _) (.cells #[.int .i64 T.k, .string T.t, .int .i64 T.n, .string T.nm, .slice T.xa T.len T.cap] 24)).alloc (by simp) (.cells #[.int .i64 0, .int .i64 0] 79)
  refine (unhide HA _ (w.heap.size + 1) 0 0 1 (unhide HT) hbel (by omega) (at_new (by simp)) (by omega) (by omega) (by omega) _ rfl).mono ?_
  rintro e w1 ⟨ok, a', m', rfl, hg, hb, ht, hf⟩
  have HB := hide (But.below hbel hb (by omega))
  have HTF := hide (And.intro ht hf)
  have c0 : w1.cell? ⟨w.heap.size + 1, 0, none⟩ = some (.int .i64 a') := by rw [cell_of_row w1 _ _ _ _ _ hg]; rfl
  have c1 : w1.cell? ⟨w.heap.size + 1, 1, none⟩ = some (.int .i64 m') := by rw [cell_of_row w1 _ _ _ _ _ hg]; rfl
  clear hbel hb ht hf hg HA
  cases ok
  · have HS := hide (show sizeSaid T = .tuple #[.int .i64 0, .int .i64 0, .int .i64 4] by
      unfold sizeSaid
      rw [if_neg]
      have h := (unhide HTF).2 (by simp)
      unfold PT.fits
      simp
      omega)
    go_wp2_with fail
    go_ret3
    exact ⟨by rw [unhide HS]; rfl, unhide HB⟩
  · have HS := hide (show sizeSaid T = .tuple #[.int .i64 a', .int .i64 m', .int .i64 0] by
      obtain ⟨h1, h2, h3, h4⟩ := (unhide HTF).1 (by simp)
      have := T.dep_pos
      unfold sizeSaid
      rw [if_pos]
      · rw [h1, h2, show max 0 (1 + T.dep - 1) = T.dep by omega, Nat.zero_add]
      · unfold PT.fits
        simp
        omega)
    go_wp2_with fail
    go_quiet (fail)
    go_wp2_with fail
    go_ret3
    exact ⟨by rw [unhide HS]; rfl, below_drewN (unhide HB) _⟩
end Go.Proofs.YtbmngbpillihaaaDoor

namespace Go.Proofs.YtbmngbpillihaaaDoor
open Go.RowKit

def flat {α : Type} (f : α → List Value) (l : List α) : List Value := l.flatMap f
section
variable {α : Type} {f : α → List Value} {sz : Nat}
theorem flat_len (hf : ∀ x, (f x).length = sz) (l : List α) : (flat f l).length = l.length * sz := by
  induction l with
  | nil => simp [flat]
  | cons x l ih =>
    show (f x ++ flat f l).length = _
    rw [List.length_append, hf, ih, List.length_cons, Nat.add_mul]; omega
theorem flat_get (hf : ∀ x, (f x).length = sz) : ∀ (l : List α) (i k : Nat) (x : α), l[i]? = some x → k < sz → (flat f l)[i * sz + k]? = (f x)[k]?
  | [], i, k, x, h, _ => by simp at h
  | y :: l, 0, k, x, h, hk => by
    have : y = x := by simpa using h
    subst this
    show (f y ++ flat f l)[0 * sz + k]? = _
    rw [Nat.zero_mul, Nat.zero_add, List.getElem?_append_left (by rw [hf]; exact hk)]
  | y :: l, i + 1, k, x, h, hk => by
    show (f y ++ flat f l)[(i + 1) * sz + k]? = _
    rw [List.getElem?_append_right (by rw [hf, Nat.add_mul]; omega), hf, show (i + 1) * sz + k - sz = i * sz + k by rw [Nat.add_mul]; omega]
    exact flat_get hf l i k x (by simpa using h) hk
theorem flat_take (hf : ∀ x, (f x).length = sz) : ∀ (l : List α) (m : Nat), (flat f l).take (m * sz) = flat f (l.take m)
  | [], m => by simp [flat]
  | y :: l, 0 => by simp [flat]
  | y :: l, m + 1 => by
    show (f y ++ flat f l).take _ = f y ++ flat f (l.take m)
    rw [List.take_append, hf, List.take_of_length_le (by rw [hf, Nat.add_mul]; omega), show (m + 1) * sz - sz = m * sz by rw [Nat.add_mul]; omega, flat_take hf l m]
theorem flat_set (hf : ∀ x, (f x).length = sz) : ∀ (l : List α) (i k : Nat) (x : α) (y : α) (v : Value), l[i]? = some x → k < sz → f y = (f x).set k v → (flat f l).set (i * sz + k) v = flat f (l.set i y)
  | [], i, k, x, y, v, h, _, _ => by simp at h
  | z :: l, 0, k, x, y, v, h, hk, e => by
    have : z = x := by simpa using h
    subst this
    show (f z ++ flat f l).set (0 * sz + k) v = f y ++ flat f l
    rw [Nat.zero_mul, Nat.zero_add, List.set_append_left _ _ (by rw [hf]; exact hk), e]
  | z :: l, i + 1, k, x, y, v, h, hk, e => by
    show (f z ++ flat f l).set ((i + 1) * sz + k) v = f z ++ flat f (l.set i y)
    rw [List.set_append_right _ _ (by rw [hf, Nat.add_mul]; omega), hf, show (i + 1) * sz + k - sz = i * sz + k by rw [Nat.add_mul]; omega, flat_set hf l i k x y v (by simpa using h) hk e]
end
theorem flat_append {α : Type} (f : α → List Value) (a b : List α) : flat f (a ++ b) = flat f a ++ flat f b := by unfold flat; rw [List.flatMap_append]
theorem flat_one {α : Type} (f : α → List Value) (a : α) : flat f [a] = f a := by simp [flat]
def Row {α : Type} (w : World) (B : Nat) (e : TypeId) (sz : Nat) (f : α → List Value) (v : Value) (l : List α) : Prop := w.ownsRow B e sz v l.length (flat f l)
section
variable {α : Type} {w w' : World} {B : Nat} {e : TypeId} {sz : Nat} {f : α → List Value} {v : Value} {l : List α}
theorem Row.type (h : Row w B e sz f v l) {k : Nat} (hk : v.ownBlock = some k) : ∃ cur, w.heap[k]? = some (.cells cur e (0, 0)) := by
  rcases h.2 with ⟨rfl, _⟩ | ⟨g, cap, cur, rfl, _, hg, _⟩
  · cases hk
  · cases hk; exact ⟨cur, hg⟩
theorem Row.low (h : Row w B e sz f v l) {k : Nat} (hk : v.ownBlock = some k) : B ≤ k ∧ k < w.heap.size := World.ownsRow.lt h k hk
theorem Row.same (h : Row w B e sz f v l) (hs : ∀ k, v.ownBlock = some k → w'.heap[k]? = w.heap[k]?) : Row w' B e sz f v l := by
  rcases h with ⟨h1, ⟨rfl, h2⟩ | ⟨g, cap, cur, rfl, hb, hg, hr⟩⟩
  · exact ⟨h1, .inl ⟨rfl, h2⟩⟩
  · exact ⟨h1, .inr ⟨g, cap, cur, rfl, hb, (hs g rfl).trans hg, hr⟩⟩
theorem Row.later (h : Row w B e sz f v l) (hb : Below w.heap.size w w') : Row w' B e sz f v l := h.same fun k hk => hb.block k (h.low hk).2
theorem Row.keep {β : Type} {e' : TypeId} {sz' B' : Nat} {f' : β → List Value} {v' : Value} {l' : List β} (h : Row w B e sz f v l) (h' : Row w B' e' sz' f' v' l') (hne : e ≠ e') (hg : w.grownBy w' v'.ownBlock) : Row w' B e sz f v l :=
  h.same fun k hk => hg.block k (h.low hk).2 fun x => by
    obtain ⟨c1, h1⟩ := h.type hk
    obtain ⟨c2, h2⟩ := h'.type x.symm
    rw [h1] at h2
    injection h2 with h2
    injection h2 with _ h2
    exact hne h2
theorem Row.keepBut {t : TypeId} {g : Nat} {c : Array Value} (h : Row w B e sz f v l) (hg : w.heap[g]? = some (.cells c t (0, 0))) (hne : e ≠ t) (hb : But g w w') : Row w' B e sz f v l :=
  h.same fun k hk => hb.block k (h.low hk).2 fun x => by
    obtain ⟨c1, h1⟩ := h.type hk
    rw [x, hg] at h1
    injection h1 with h1
    injection h1 with _ h1
    exact hne h1.symm
theorem Row.form (h : Row w B e sz f v l) (hl : l ≠ []) : ∃ g cap, v = .slice (some ⟨g, 0, none⟩) l.length cap ∧ l.length ≤ cap ∧ cap ≤ maxLen := by
  rcases h.2 with ⟨_, h0⟩ | ⟨g, cap, cur, rfl, _, _, h1, h2, _⟩
  · exact absurd (List.eq_nil_of_length_eq_zero h0) hl
  · exact ⟨g, cap, rfl, h1, h2⟩
theorem Row.max (h : Row w B e sz f v l) : l.length ≤ maxLen := by
  rcases h.2 with ⟨_, h0⟩ | ⟨g, cap, cur, rfl, _, _, h1, h2, _⟩
  · rw [h0]; exact Nat.zero_le _
  · omega
def lenV (v : Value) : Nat := match v with | .slice _ n _ => n | _ => 0
theorem Row.len (h : Row w B e sz f v l) : ∃ a cap, v = .slice a l.length cap ∧ (a = none → cap = 0 ∧ l.length = 0) ∧ l.length ≤ cap := by
  rcases h.2 with ⟨rfl, h0⟩ | ⟨g, cap, cur, rfl, _, _, h1, h2, _⟩
  · exact ⟨none, 0, by rw [h0], fun _ => ⟨rfl, h0⟩, by omega⟩
  · exact ⟨_, cap, rfl, fun h => (by cases h), h1⟩
theorem Row.take (h : Row w B e sz f v l) (hf : ∀ x, (f x).length = sz) {a : Option Addr} {cap m : Nat} (hv : v = .slice a l.length cap) (hm : m ≤ l.length) : Row w B e sz f (.slice a m cap) (l.take m) := by
  have hlm : (l.take m).length = m := by simp; omega
  refine ⟨flat_len hf _, ?_⟩
  rcases h.2 with ⟨h1, h0⟩ | ⟨g, cap', cur, h1, hb, hg, hc, hx, hs, ht⟩
  · rw [hv] at h1
    injection h1 with e1 e2 e3
    have : m = 0 := by omega
    subst this e1 e3
    exact .inl ⟨rfl, by simp⟩
  · rw [hv] at h1
    cases h1
    refine .inr ⟨g, cap, cur, by rw [hlm], hb, hg, by omega, hx, hs, ?_⟩
    rw [hlm, ← flat_take hf l m, ← ht, List.take_take, Nat.min_eq_left (Nat.mul_le_mul_right _ hm)]
theorem Row.cell (h : Row w B e sz f v l) (hf : ∀ x, (f x).length = sz) {g cap i k : Nat} {x : α} {u : Value} (hv : v = .slice (some ⟨g, 0, none⟩) l.length cap) (hx : l[i]? = some x) (hu : (f x)[k]? = some u) : w.cell? ⟨g, i * sz + k, none⟩ = some u := by
  have hk : k < sz := by rw [← hf x]; exact (List.getElem?_eq_some_iff.1 hu).1
  rcases h.2 with ⟨h1, h0⟩ | ⟨g', cap', cur, h1, hb, hg, hc, hm, hs, ht⟩
  · rw [hv] at h1; cases h1
  · rw [hv] at h1; cases h1
    have hi : i < l.length := (List.getElem?_eq_some_iff.1 hx).1
    have hlt : i * sz + k < l.length * sz := by
      have : (i + 1) * sz ≤ l.length * sz := Nat.mul_le_mul_right _ hi
      rw [Nat.add_mul] at this; omega
    rw [cell_of_row _ _ _ _ _ _ hg, ← Array.getElem?_toList]
    have := flat_get hf l i k x hx hk
    rw [← ht, List.getElem?_take, if_pos hlt] at this
    rw [this, hu]
theorem Row.frozen (h : Row w B e sz f v l) {g n cap : Nat} (hv : v = .slice (some ⟨g, 0, none⟩) n cap) (o : Nat) : w.frozen? ⟨g, o, none⟩ = false := by
  rcases h.2 with ⟨h1, h0⟩ | ⟨g', cap', cur, h1, hb, hg, hc, hm, hs, ht⟩
  · rw [hv] at h1; cases h1
  · rw [hv] at h1; cases h1
    exact frozen_of_row w g o _ _ hg
theorem Row.set (h : Row w B e sz f v l) (hf : ∀ x, (f x).length = sz) {g n cap i k : Nat} {x y : α} {u : Value} (hv : v = .slice (some ⟨g, 0, none⟩) n cap) (hx : l[i]? = some x) (hk : k < sz) (hy : f y = (f x).set k u) : Row (w.setCell ⟨g, i * sz + k, none⟩ u) B e sz f v (l.set i y) := by
  rcases h.2 with ⟨h1, h0⟩ | ⟨g', cap', cur, h1, hb, hg, hc, hm, hs, ht⟩
  · rw [hv] at h1; cases h1
  · rw [hv] at h1; cases h1
    refine ⟨by rw [flat_len hf], .inr ⟨g, cap, cur.setIfInBounds (i * sz + k) u, ?_, hb, ?_, by simpa using hc, hm, by simpa using hs, ?_⟩⟩
    · rw [hv, List.length_set]
    · exact heap_setCell_same w g (i * sz + k) _ _ u hg
    · rw [List.length_set, ← flat_set hf l i k x y u hx hk hy, ← ht, Array.toList_setIfInBounds, List.take_set]
end

structure Nd where
  k : Int
  t : ByteArray
  n : Int
  nm : ByteArray
  ru : Int
  fi : Nat
  en : Nat
  st : Option Nat
  fr : Int
  to : Int
def ndV (x : Nd) : List Value := [.int .i64 x.k, .string x.t, .int .i64 x.n, .string x.nm, .int .i64 x.ru, .int .i64 (x.fi : Int), .int .i64 (x.en : Int), .pointer (x.st.map fun b => ⟨b, 0, none⟩), .int .i64 x.fr, .int .i64 x.to]
structure Wr where
  node : Nat
  kid : Nat
  i : Nat
  b : Int
def wrV (x : Wr) : List Value := [.int .i64 (x.node : Int), .int .i64 (x.kid : Int), .int .i64 (x.i : Int), .int .i64 x.b]
structure Cr where
  node : Nat
  x : Int
  i : Nat
  b : Int
  ws : Nat
  gs : Nat
def crV (x : Cr) : List Value := [.int .i64 (x.node : Int), .int .i64 x.x, .int .i64 (x.i : Int), .int .i64 x.b, .int .i64 (x.ws : Int), .int .i64 (x.gs : Int)]
def gfV (x : Gft) : List Value := [.string x.1, .string x.2]
def inV (x : Int) : List Value := [.int .i64 x]
theorem ndV_len (x : Nd) : (ndV x).length = 10 := rfl
theorem wrV_len (x : Wr) : (wrV x).length = 4 := rfl
theorem crV_len (x : Cr) : (crV x).length = 6 := rfl
theorem gfV_len (x : Gft) : (gfV x).length = 2 := rfl
theorem inV_len (x : Int) : (inV x).length = 1 := rfl
structure MS where
  s : ByteArray
  rv : Value
  nv : Value
  root : Int
  ro : Value
  begun : Bool
  node : Nat
  i : Nat
  b : Int
  wv : Value
  cv : Value
  gv : Value
  sv : Value
  told : Nat
  room : Nat
  fuel : Nat
  ticks : Nat
  shut : Bool
  err : Int
def MS.row (m : MS) : Array Value := #[.string m.s, m.rv, m.nv, .int .i64 m.root, m.ro, .bool m.begun, .int .i64 (m.node : Int), .int .i64 (m.i : Int), .int .i64 m.b, m.wv, m.cv, m.gv, m.sv, .int .i64 (m.told : Int), .int .i64 (m.room : Int), .int .i64 (m.fuel : Int), .int .i64 (m.ticks : Int), .bool m.shut, .int .i64 m.err]
structure Rep (w : World) (B g : Nat) (m : MS) (N : List Nd) (O : List Int) (W : List Wr) (C : List Cr) (G S : List Gft) : Prop where
  low : B ≤ g
  blk : w.heap[g]? = some (.cells m.row 71 (0, 0))
  nodes : Row w B 121 10 ndV m.nv N
  roots : Row w B 3 1 inV m.ro O
  works : Row w B 131 4 wrV m.wv W
  choices : Row w B 134 6 crV m.cv C
  given : Row w B 74 2 gfV m.gv G
  said : Row w B 74 2 gfV m.sv S
  apart : ∀ k, m.gv.ownBlock = some k → m.sv.ownBlock ≠ some k
  base : B ≤ w.heap.size
section
variable {w w' : World} {B g : Nat} {m : MS} {N : List Nd} {O : List Int} {W : List Wr} {C : List Cr} {G S : List Gft}
theorem Rep.lt (h : Rep w B g m N O W C G S) : g < w.heap.size := (Array.getElem?_eq_some_iff.1 h.blk).1
theorem Rep.later (h : Rep w B g m N O W C G S) (hb : Below w.heap.size w w') : Rep w' B g m N O W C G S :=
  ⟨h.low, row_below h.blk hb, h.nodes.later hb, h.roots.later hb, h.works.later hb, h.choices.later hb, h.given.later hb, h.said.later hb, h.apart, Nat.le_trans h.base hb.size⟩
theorem Rep.cell (h : Rep w B g m N O W C G S) {k : Nat} {v : Value} (hk : m.row[k]? = some v) : w.cell? ⟨g, k, none⟩ = some v := by rw [cell_of_row w _ _ _ _ _ h.blk, hk]
theorem Rep.frozen (h : Rep w B g m N O W C G S) (k : Nat) : w.frozen? ⟨g, k, none⟩ = false := frozen_of_row w g k _ _ h.blk
theorem Rep.c0 (h : Rep w B g m N O W C G S) : w.cell? ⟨g, 0, none⟩ = some (.string m.s) := h.cell rfl
theorem Rep.c1 (h : Rep w B g m N O W C G S) : w.cell? ⟨g, 1, none⟩ = some (m.rv) := h.cell rfl
theorem Rep.c2 (h : Rep w B g m N O W C G S) : w.cell? ⟨g, 2, none⟩ = some (m.nv) := h.cell rfl
theorem Rep.c3 (h : Rep w B g m N O W C G S) : w.cell? ⟨g, 3, none⟩ = some (.int .i64 m.root) := h.cell rfl
theorem Rep.c4 (h : Rep w B g m N O W C G S) : w.cell? ⟨g, 4, none⟩ = some (m.ro) := h.cell rfl
theorem Rep.c5 (h : Rep w B g m N O W C G S) : w.cell? ⟨g, 5, none⟩ = some (.bool m.begun) := h.cell rfl
theorem Rep.c6 (h : Rep w B g m N O W C G S) : w.cell? ⟨g, 6, none⟩ = some (.int .i64 (m.node : Int)) := h.cell rfl
theorem Rep.c7 (h : Rep w B g m N O W C G S) : w.cell? ⟨g, 7, none⟩ = some (.int .i64 (m.i : Int)) := h.cell rfl
theorem Rep.c8 (h : Rep w B g m N O W C G S) : w.cell? ⟨g, 8, none⟩ = some (.int .i64 m.b) := h.cell rfl
theorem Rep.c9 (h : Rep w B g m N O W C G S) : w.cell? ⟨g, 9, none⟩ = some (m.wv) := h.cell rfl
theorem Rep.c10 (h : Rep w B g m N O W C G S) : w.cell? ⟨g, 10, none⟩ = some (m.cv) := h.cell rfl
theorem Rep.c11 (h : Rep w B g m N O W C G S) : w.cell? ⟨g, 11, none⟩ = some (m.gv) := h.cell rfl
theorem Rep.c12 (h : Rep w B g m N O W C G S) : w.cell? ⟨g, 12, none⟩ = some (m.sv) := h.cell rfl
theorem Rep.c13 (h : Rep w B g m N O W C G S) : w.cell? ⟨g, 13, none⟩ = some (.int .i64 (m.told : Int)) := h.cell rfl
theorem Rep.c14 (h : Rep w B g m N O W C G S) : w.cell? ⟨g, 14, none⟩ = some (.int .i64 (m.room : Int)) := h.cell rfl
theorem Rep.c15 (h : Rep w B g m N O W C G S) : w.cell? ⟨g, 15, none⟩ = some (.int .i64 (m.fuel : Int)) := h.cell rfl
theorem Rep.c16 (h : Rep w B g m N O W C G S) : w.cell? ⟨g, 16, none⟩ = some (.int .i64 (m.ticks : Int)) := h.cell rfl
theorem Rep.c17 (h : Rep w B g m N O W C G S) : w.cell? ⟨g, 17, none⟩ = some (.bool m.shut) := h.cell rfl
theorem Rep.c18 (h : Rep w B g m N O W C G S) : w.cell? ⟨g, 18, none⟩ = some (.int .i64 m.err) := h.cell rfl
theorem Rep.put (h : Rep w B g m N O W C G S) (k : Nat) (v : Value) (m' : MS) (hr : m.row.setIfInBounds k v = m'.row) (h1 : m'.nv = m.nv) (h2 : m'.ro = m.ro) (h3 : m'.wv = m.wv) (h4 : m'.cv = m.cv) (h5 : m'.gv = m.gv) (h6 : m'.sv = m.sv) : Rep (w.setCell ⟨g, k, none⟩ v) B g m' N O W C G S := by
  have hb : But g w (w.setCell ⟨g, k, none⟩ v) := (But.refl g w).setCell k v
  refine ⟨h.low, by rw [← hr]; exact heap_setCell_same w g k _ _ v h.blk, ?_, ?_, ?_, ?_, ?_, ?_, ?_, ?_⟩
  · rw [h1]; exact h.nodes.keepBut h.blk (by decide) hb
  · rw [h2]; exact h.roots.keepBut h.blk (by decide) hb
  · rw [h3]; exact h.works.keepBut h.blk (by decide) hb
  · rw [h4]; exact h.choices.keepBut h.blk (by decide) hb
  · rw [h5]; exact h.given.keepBut h.blk (by decide) hb
  · rw [h6]; exact h.said.keepBut h.blk (by decide) hb
  · rw [h5, h6]; exact h.apart
  · exact Nat.le_trans h.base hb.size
theorem Rep.putW (h : Rep w B g m N O W C G S) (v : Value) {W' : List Wr} (hw : Row w B 131 4 wrV v W') : Rep (w.setCell ⟨g, 9, none⟩ v) B g { m with wv := v } N O W' C G S := by
  have hb : But g w (w.setCell ⟨g, 9, none⟩ v) := (But.refl g w).setCell 9 v
  exact ⟨h.low, heap_setCell_same w g 9 _ _ v h.blk, h.nodes.keepBut h.blk (by decide) hb, h.roots.keepBut h.blk (by decide) hb, hw.keepBut h.blk (by decide) hb, h.choices.keepBut h.blk (by decide) hb, h.given.keepBut h.blk (by decide) hb, h.said.keepBut h.blk (by decide) hb, h.apart, Nat.le_trans h.base hb.size⟩
theorem Rep.putC (h : Rep w B g m N O W C G S) (v : Value) {C' : List Cr} (hw : Row w B 134 6 crV v C') : Rep (w.setCell ⟨g, 10, none⟩ v) B g { m with cv := v } N O W C' G S := by
  have hb : But g w (w.setCell ⟨g, 10, none⟩ v) := (But.refl g w).setCell 10 v
  exact ⟨h.low, heap_setCell_same w g 10 _ _ v h.blk, h.nodes.keepBut h.blk (by decide) hb, h.roots.keepBut h.blk (by decide) hb, h.works.keepBut h.blk (by decide) hb, hw.keepBut h.blk (by decide) hb, h.given.keepBut h.blk (by decide) hb, h.said.keepBut h.blk (by decide) hb, h.apart, Nat.le_trans h.base hb.size⟩
theorem Rep.putG (h : Rep w B g m N O W C G S) (v : Value) {G' : List Gft} (hw : Row w B 74 2 gfV v G') (ha : ∀ k, v.ownBlock = some k → m.sv.ownBlock ≠ some k) : Rep (w.setCell ⟨g, 11, none⟩ v) B g { m with gv := v } N O W C G' S := by
  have hb : But g w (w.setCell ⟨g, 11, none⟩ v) := (But.refl g w).setCell 11 v
  exact ⟨h.low, heap_setCell_same w g 11 _ _ v h.blk, h.nodes.keepBut h.blk (by decide) hb, h.roots.keepBut h.blk (by decide) hb, h.works.keepBut h.blk (by decide) hb, h.choices.keepBut h.blk (by decide) hb, hw.keepBut h.blk (by decide) hb, h.said.keepBut h.blk (by decide) hb, ha, Nat.le_trans h.base hb.size⟩
theorem grown_blk {e t : TypeId} {c : Array Value} {v : Value} {k : Nat} (hc : w.heap[k]? = some (.cells c t (0, 0))) (hv : ∀ j, v.ownBlock = some j → ∃ cur, w.heap[j]? = some (.cells cur e (0, 0))) (hne : e ≠ t) (hg : w.grownBy w' v.ownBlock) : w'.heap[k]? = some (.cells c t (0, 0)) :=
  (hg.block k (Array.getElem?_eq_some_iff.1 hc).1 fun x => by
    obtain ⟨c2, h2⟩ := hv k x.symm
    rw [hc] at h2
    injection h2 with h2
    injection h2 with _ h2
    exact hne h2.symm).trans hc
end

theorem idx_run {t e : TypeId} {sz g n cap i : Nat} (hu : Tryd.prog.underlying t = some (.slice e)) (hs : (Tryd.prog.info? e).map (·.size) = some sz) (hi : i < n) (w : World) :
    (Instr.indexAt t (.slice (some ⟨g, 0, none⟩) n cap) (.int .i64 (i : Int))).run Tryd.prog w = .ok (.pointer (some ⟨g, i * sz, none⟩)) w := by
  have h0 : (0 : Int) ≤ (i : Int) ∧ (i : Int) < (n : Int) := by omega
  cases hq : Tryd.prog.info? e with
  | none => simp [hq] at hs
  | some x =>
    have hz : x.size = sz := by simpa [hq] using hs
    simp [Instr.indexAt, asIntOf, run_underlying hu, h0, sizeOf, typeInfo, hq, hz, Addr.add_lit]
    intro h
    omega
theorem size_node : (Tryd.prog.info? 121).map (·.size) = some 10 := by kernel_rfl
theorem size_work : (Tryd.prog.info? 131).map (·.size) = some 4 := by kernel_rfl
theorem size_choice : (Tryd.prog.info? 134).map (·.size) = some 6 := by kernel_rfl
theorem size_gift : (Tryd.prog.info? 74).map (·.size) = some 2 := by kernel_rfl
theorem cut_run {t e : TypeId} {sz : Nat} {a : Option Addr} {n cap k : Nat} (hu : Tryd.prog.underlying t = some (.slice e)) (hs : (Tryd.prog.info? e).map (·.size) = some sz) (hk : k ≤ n) (hn : n ≤ cap) (ha : ∀ x, a = some x → ∃ b, x = ⟨b, 0, none⟩) (w : World) :
    (Instr.sliceAt t (.slice a n cap) none (some (.int .i64 (k : Int))) none).run Tryd.prog w = .ok (.slice a k cap) w := by
  cases hq : Tryd.prog.info? e with
  | none => simp [hq] at hs
  | some i =>
    have hz : i.size = sz := by simpa [hq] using hs
    have he2 : Tryd.prog.elem t = e := by simp [Program.elem, hu]
    have he : Tryd.prog.underlying t = some (.slice (Tryd.prog.elem t)) := by rw [he2]; exact hu
    rw [run_sliceAt_slice _ _ _ _ _ _ he, run_slice_h _ _ _ _ _ he .i64 (k : Int) (by omega) (by omega), he2]
    cases a with
    | none => simp [sizeOf, typeInfo, sliced, hq, hz]
    | some x =>
      obtain ⟨b, rfl⟩ := ha x rfl
      simp [sizeOf, typeInfo, sliced, hq, hz, Addr.add_lit]
theorem append_row {α : Type} {f : α → List Value} {sz bytes : Nat} {z : Value} {t e : TypeId} (hu : Tryd.prog.underlying t = some (.slice e)) (hinf : (Tryd.prog.info? e).map (fun i => (i.zero, i.size, i.bytes)) = some (some z, sz, bytes)) (hz : z.cells.size = sz) (hsz : 0 < sz) (hby : bytes ≤ 1000) (hf : ∀ x, (f x).length = sz) (h1 : ∀ x, ∀ u ∈ f x, u.oneCell' = true)
    {w : World} {B : Nat} {v : Value} {l : List α} (h : Row w B e sz f v l) (hB : B ≤ w.heap.size) (y : α) (g c : Nat) (hc : ∀ k u, (f y)[k]? = some u → w.cell? ⟨g, k, none⟩ = some u) (hl : l.length ≤ 100000000000) (ty : TypeId) :
    ∃ v' w', (Builtin.append_ #[t, t] ty #[v, .slice (some ⟨g, 0, none⟩) 1 c]).run Tryd.prog w = .ok v' w' ∧ Row w' B e sz f v' (l ++ [y]) ∧ w.grownBy w' v.ownBlock ∧ (v'.ownBlock = v.ownBlock ∨ v'.ownBlock = some w.heap.size) := by
  cases hi : Tryd.prog.info? e with
  | none => simp [hi] at hinf
  | some i =>
    simp only [hi, Option.map_some, Option.some.injEq, Prod.mk.injEq] at hinf
    obtain ⟨hz0, hz1, hz2⟩ := hinf
    have hb : (l.length + 1) * bytes ≤ 140737488355328 := by
      have : (l.length + 1) * bytes ≤ 100000000001 * 1000 := Nat.mul_le_mul (by omega) hby
      omega
    obtain ⟨v', w', hr, h2, h3, -, h5⟩ := run_append_own_at (P := Tryd.prog) w B t ty e i z sz bytes hu hi hz0 hz1 hz2 hz hsz v l.length (flat f l) h ⟨g, 0, none⟩ 1 c (f y) (by rw [hf, Nat.one_mul]) (fun j u hj => by rw [Addr.add_lit, Nat.zero_add]; exact hc j u hj) (h1 y) (by unfold maxLen; omega) hb hB
    refine ⟨v', w', hr, ?_, h3, h5⟩
    unfold Row
    rw [List.length_append, flat_append, flat_one]
    exact h2
theorem step_row {α : Type} {f : α → List Value} {sz bytes : Nat} {z : Value} {t e : TypeId} (hu : Tryd.prog.underlying t = some (.slice e)) (hinf : (Tryd.prog.info? e).map (fun i => (i.zero, i.size, i.bytes)) = some (some z, sz, bytes)) (hz : z.cells.size = sz) (hsz : 0 < sz) (hby : bytes ≤ 1000) (hf : ∀ x, (f x).length = sz) (h1 : ∀ x, ∀ u ∈ f x, u.oneCell' = true)
    {w : World} {ops : Array Oper} {o : Oper} {a : Act} {K : Act → World → Prop} {Q : Exit → Act → World → Prop} {E : Prop} (hgd : o.guard = none) (s x : Operand)
    (ho : o.op = .call { callee := .builtin .append, args := #[s, x], argTypes := #[t, t] }) {B : Nat} {v : Value} {l : List α} (h : Row w B e sz f v l) (hB : B ≤ w.heap.size) (y : α) (g c : Nat) (hs : a.eval s = v) (hx : a.eval x = .slice (some ⟨g, 0, none⟩) 1 c) (hc : ∀ k u, (f y)[k]? = some u → w.cell? ⟨g, k, none⟩ = some u) (hl : l.length ≤ 1000000)
    (hK : ∀ v' w', Row w' B e sz f v' (l ++ [y]) → w.grownBy w' v.ownBlock → (v'.ownBlock = v.ownBlock ∨ v'.ownBlock = some w.heap.size) → K (a.put o.dst v') w') :
    if Region.wanted o (yielded ops a.tmps) = true then Oper.wp Tryd.prog o a w K Q else E := by
  have hw : Region.wanted o (yielded ops a.tmps) = true := by simp [Region.wanted, hgd]
  rw [if_pos hw]
  obtain ⟨v', w', hr, h2, h3, h4⟩ := append_row hu hinf hz hsz hby hf h1 h hB y g c hc (Nat.le_trans hl (by decide)) o.type
  unfold Oper.wp execOp
  simp only [ho, resolve, invoke, builtin, Sem.run_bind, Sem.run_pure, Result.andThen_ok, List.map_toArray, List.map_cons, List.map_nil, hs, hx, hr]
  exact hK v' w' h2 h3 h4
theorem wpList_row {α : Type} {f : α → List Value} {sz bytes : Nat} {z : Value} {t e : TypeId} (hu : Tryd.prog.underlying t = some (.slice e)) (hinf : (Tryd.prog.info? e).map (fun i => (i.zero, i.size, i.bytes)) = some (some z, sz, bytes)) (hz : z.cells.size = sz) (hsz : 0 < sz) (hby : bytes ≤ 1000) (hf : ∀ x, (f x).length = sz) (h1 : ∀ x, ∀ u ∈ f x, u.oneCell' = true)
    {w : World} {ops : Array Oper} {rest : List Oper} {o : Oper} {a : Act} {Q : Exit → Act → World → Prop} (hgd : o.guard = none) (s x : Operand)
    (ho : o.op = .call { callee := .builtin .append, args := #[s, x], argTypes := #[t, t] }) {B : Nat} {v : Value} {l : List α} (h : Row w B e sz f v l) (hB : B ≤ w.heap.size) (y : α) (g c : Nat) (hs : a.eval s = v) (hx : a.eval x = .slice (some ⟨g, 0, none⟩) 1 c) (hc : ∀ k u, (f y)[k]? = some u → w.cell? ⟨g, k, none⟩ = some u) (hl : l.length ≤ 1000000)
    (hK : ∀ v' w', Row w' B e sz f v' (l ++ [y]) → w.grownBy w' v.ownBlock → (v'.ownBlock = v.ownBlock ∨ v'.ownBlock = some w.heap.size) → wpList Tryd.prog ops Q rest (a.put o.dst v') w') : wpList Tryd.prog ops Q (o :: rest) a w := by
  refine wpList_plain hgd fun K hK' => ?_
  obtain ⟨v', w', hr, h2, h3, h4⟩ := append_row hu hinf hz hsz hby hf h1 h hB y g c hc (Nat.le_trans hl (by decide)) o.type
  unfold Oper.wp execOp
  simp only [ho, resolve, invoke, builtin, Sem.run_bind, Sem.run_pure, Result.andThen_ok, List.map_toArray, List.map_cons, List.map_nil, hs, hx, hr]
  exact hK' _ _ (hK v' w' h2 h3 h4)
theorem wpList_rowL {α : Type} {f : α → List Value} {sz bytes : Nat} {z : Value} {t e : TypeId} (hu : Tryd.prog.underlying t = some (.slice e)) (hinf : (Tryd.prog.info? e).map (fun i => (i.zero, i.size, i.bytes)) = some (some z, sz, bytes)) (hz : z.cells.size = sz) (hsz : 0 < sz) (hby : bytes ≤ 1000) (hf : ∀ x, (f x).length = sz) (h1 : ∀ x, ∀ u ∈ f x, u.oneCell' = true)
    {w : World} {ops : Array Oper} {rest : List Oper} {o : Oper} {a : Act} {Q : Exit → Act → World → Prop} (hgd : o.guard = none) (s x : Operand)
    (ho : o.op = .call { callee := .builtin .append, args := #[s, x], argTypes := #[t, t] }) {B : Nat} {v : Value} {l : List α} (h : Row w B e sz f v l) (hB : B ≤ w.heap.size) (y : α) (g c : Nat) (hs : a.eval s = v) (hx : a.eval x = .slice (some ⟨g, 0, none⟩) 1 c) (hc : ∀ k u, (f y)[k]? = some u → w.cell? ⟨g, k, none⟩ = some u) (hl : l.length ≤ 100000000000)
    (hK : ∀ v' w', Row w' B e sz f v' (l ++ [y]) → w.grownBy w' v.ownBlock → (v'.ownBlock = v.ownBlock ∨ v'.ownBlock = some w.heap.size) → wpList Tryd.prog ops Q rest (a.put o.dst v') w') : wpList Tryd.prog ops Q (o :: rest) a w := by
  refine wpList_plain hgd fun K hK' => ?_
  obtain ⟨v', w', hr, h2, h3, h4⟩ := append_row hu hinf hz hsz hby hf h1 h hB y g c hc hl o.type
  unfold Oper.wp execOp
  simp only [ho, resolve, invoke, builtin, Sem.run_bind, Sem.run_pure, Result.andThen_ok, List.map_toArray, List.map_cons, List.map_nil, hs, hx, hr]
  exact hK' _ _ (hK v' w' h2 h3 h4)
theorem ndV_one (x : Nd) : ∀ u ∈ ndV x, u.oneCell' = true := by
  intro u hu
  simp only [ndV, List.mem_cons, List.not_mem_nil, or_false] at hu
  rcases hu with rfl | rfl | rfl | rfl | rfl | rfl | rfl | rfl | rfl | rfl <;> rfl
theorem wrV_one (x : Wr) : ∀ u ∈ wrV x, u.oneCell' = true := by
  intro u hu
  simp only [wrV, List.mem_cons, List.not_mem_nil, or_false] at hu
  rcases hu with rfl | rfl | rfl | rfl <;> rfl
theorem crV_one (x : Cr) : ∀ u ∈ crV x, u.oneCell' = true := by
  intro u hu
  simp only [crV, List.mem_cons, List.not_mem_nil, or_false] at hu
  rcases hu with rfl | rfl | rfl | rfl | rfl | rfl <;> rfl
theorem gfV_one (x : Gft) : ∀ u ∈ gfV x, u.oneCell' = true := by
  intro u hu
  simp only [gfV, List.mem_cons, List.not_mem_nil, or_false] at hu
  rcases hu with rfl | rfl <;> rfl
theorem info_choice : (Tryd.prog.info? 134).map (fun i => (i.zero, i.size, i.bytes)) = some (some (.agg #[.int .i64 0, .int .i64 0, .int .i64 0, .int .i64 0, .int .i64 0, .int .i64 0]), 6, 48) := by kernel_rfl
theorem info_work : (Tryd.prog.info? 131).map (fun i => (i.zero, i.size, i.bytes)) = some (some (.agg #[.int .i64 0, .int .i64 0, .int .i64 0, .int .i64 0]), 4, 32) := by kernel_rfl
theorem info_gift : (Tryd.prog.info? 74).map (fun i => (i.zero, i.size, i.bytes)) = some (some (.agg #[.string ⟨#[]⟩, .string ⟨#[]⟩]), 2, 32) := by kernel_rfl
theorem made_cells {w : World} {g : Nat} {c : Array Value} {t : TypeId} (h : w.heap[g]? = some (.cells c t (0, 0))) {l : List Value} (hl : c.toList = l) : ∀ k u, l[k]? = some u → w.cell? ⟨g, k, none⟩ = some u := fun k u hk => by
  rw [cell_of_row _ _ _ _ _ _ h, ← Array.getElem?_toList, hl, hk]
theorem Rep.grownC {w w' : World} {B g : Nat} {m : MS} {N : List Nd} {O : List Int} {W : List Wr} {C : List Cr} {G S : List Gft} {v : Value} {l : List Cr} (h : Rep w B g m N O W C G S) (hg : w.grownBy w' m.cv.ownBlock) (hr : Row w' B 134 6 crV v l) : Rep (w'.setCell ⟨g, 10, none⟩ v) B g { m with cv := v } N O W l G S := by
  have hb : w'.heap[g]? = some (.cells m.row 71 (0, 0)) := grown_blk h.blk (fun j hj => h.choices.type hj) (by decide) hg
  have hBut : But g w' (w'.setCell ⟨g, 10, none⟩ v) := (But.refl g w').setCell 10 v
  exact ⟨h.low, heap_setCell_same w' g 10 _ _ v hb, (h.nodes.keep h.choices (by decide) hg).keepBut hb (by decide) hBut, (h.roots.keep h.choices (by decide) hg).keepBut hb (by decide) hBut, (h.works.keep h.choices (by decide) hg).keepBut hb (by decide) hBut, hr.keepBut hb (by decide) hBut, (h.given.keep h.choices (by decide) hg).keepBut hb (by decide) hBut, (h.said.keep h.choices (by decide) hg).keepBut hb (by decide) hBut, h.apart, Nat.le_trans h.base (Nat.le_trans hg.size hBut.size)⟩
theorem Rep.grownW {w w' : World} {B g : Nat} {m : MS} {N : List Nd} {O : List Int} {W : List Wr} {C : List Cr} {G S : List Gft} {v : Value} {l : List Wr} (h : Rep w B g m N O W C G S) (hg : w.grownBy w' m.wv.ownBlock) (hr : Row w' B 131 4 wrV v l) : Rep (w'.setCell ⟨g, 9, none⟩ v) B g { m with wv := v } N O l C G S := by
  have hb : w'.heap[g]? = some (.cells m.row 71 (0, 0)) := grown_blk h.blk (fun j hj => h.works.type hj) (by decide) hg
  have hBut : But g w' (w'.setCell ⟨g, 9, none⟩ v) := (But.refl g w').setCell 9 v
  exact ⟨h.low, heap_setCell_same w' g 9 _ _ v hb, (h.nodes.keep h.works (by decide) hg).keepBut hb (by decide) hBut, (h.roots.keep h.works (by decide) hg).keepBut hb (by decide) hBut, hr.keepBut hb (by decide) hBut, (h.choices.keep h.works (by decide) hg).keepBut hb (by decide) hBut, (h.given.keep h.works (by decide) hg).keepBut hb (by decide) hBut, (h.said.keep h.works (by decide) hg).keepBut hb (by decide) hBut, h.apart, Nat.le_trans h.base (Nat.le_trans hg.size hBut.size)⟩
theorem Row.apartKeep {w w' : World} {B : Nat} {e : TypeId} {sz : Nat} {α : Type} {f : α → List Value} {v v' : Value} {l : List α} (h : Row w B e sz f v l) (ha : ∀ k, v.ownBlock = some k → v'.ownBlock ≠ some k) (hg : w.grownBy w' v'.ownBlock) : Row w' B e sz f v l :=
  h.same fun k hk => hg.block k (h.low hk).2 fun x => ha k hk x.symm
theorem Rep.grownG {w w' : World} {B g : Nat} {m : MS} {N : List Nd} {O : List Int} {W : List Wr} {C : List Cr} {G S : List Gft} {v : Value} {l : List Gft} (h : Rep w B g m N O W C G S) (hg : w.grownBy w' m.gv.ownBlock) (hr : Row w' B 74 2 gfV v l) (hv : v.ownBlock = m.gv.ownBlock ∨ v.ownBlock = some w.heap.size) : Rep (w'.setCell ⟨g, 11, none⟩ v) B g { m with gv := v } N O W C l S := by
  have hb : w'.heap[g]? = some (.cells m.row 71 (0, 0)) := grown_blk h.blk (fun j hj => h.given.type hj) (by decide) hg
  have hBut : But g w' (w'.setCell ⟨g, 11, none⟩ v) := (But.refl g w').setCell 11 v
  refine ⟨h.low, heap_setCell_same w' g 11 _ _ v hb, (h.nodes.keep h.given (by decide) hg).keepBut hb (by decide) hBut, (h.roots.keep h.given (by decide) hg).keepBut hb (by decide) hBut, (h.works.keep h.given (by decide) hg).keepBut hb (by decide) hBut, (h.choices.keep h.given (by decide) hg).keepBut hb (by decide) hBut, hr.keepBut hb (by decide) hBut, (h.said.apartKeep (fun k hk x => h.apart k x hk) hg).keepBut hb (by decide) hBut, fun k hk hs => ?_, Nat.le_trans h.base (Nat.le_trans hg.size hBut.size)⟩
  rcases hv with e | e
  · exact h.apart k (e ▸ hk) hs
  · have := (h.said.low hs).2
    rw [show (MS.gv { m with gv := v }) = v from rfl, e] at hk
    injection hk with hk
    omega
theorem Rep.grownS {w w' : World} {B g : Nat} {m : MS} {N : List Nd} {O : List Int} {W : List Wr} {C : List Cr} {G S : List Gft} {v : Value} {l : List Gft} (h : Rep w B g m N O W C G S) (hg : w.grownBy w' m.sv.ownBlock) (hr : Row w' B 74 2 gfV v l) (hv : v.ownBlock = m.sv.ownBlock ∨ v.ownBlock = some w.heap.size) : Rep (w'.setCell ⟨g, 12, none⟩ v) B g { m with sv := v } N O W C G l := by
  have hb : w'.heap[g]? = some (.cells m.row 71 (0, 0)) := grown_blk h.blk (fun j hj => h.said.type hj) (by decide) hg
  have hBut : But g w' (w'.setCell ⟨g, 12, none⟩ v) := (But.refl g w').setCell 12 v
  refine ⟨h.low, heap_setCell_same w' g 12 _ _ v hb, (h.nodes.keep h.said (by decide) hg).keepBut hb (by decide) hBut, (h.roots.keep h.said (by decide) hg).keepBut hb (by decide) hBut, (h.works.keep h.said (by decide) hg).keepBut hb (by decide) hBut, (h.choices.keep h.said (by decide) hg).keepBut hb (by decide) hBut, (h.given.apartKeep h.apart hg).keepBut hb (by decide) hBut, hr.keepBut hb (by decide) hBut, fun k hk hs => ?_, Nat.le_trans h.base (Nat.le_trans hg.size hBut.size)⟩
  rcases hv with e | e
  · exact h.apart k hk (e ▸ hs)
  · have := (h.given.low hk).2
    rw [show (MS.sv { m with sv := v }) = v from rfl, e] at hs
    injection hs with hs
    omega
theorem below_grown {B : Nat} {a w w' : World} {α : Type} {e : TypeId} {sz : Nat} {f : α → List Value} {v : Value} {l : List α} (h : Below B a w) (hr : Row w B e sz f v l) (hB : B ≤ a.heap.size) (hg : w.grownBy w' v.ownBlock) : Below B a w' :=
  ⟨hg.os.trans h.os, hg.tape.trans h.tape, hg.output.trans h.output, Nat.le_trans h.size hg.size, fun k hk => (hg.block k (by have := h.size; omega) fun x => by have := (hr.low x.symm).1; omega).trans (h.block k hk)⟩
theorem below_cell {B g : Nat} {a w : World} (h : Below B a w) (hg : B ≤ g) (k : Nat) (v : Value) : Below B a (w.setCell ⟨g, k, none⟩ v) :=
  ⟨h.os, h.tape, h.output, by simpa using h.size, fun i hi => (heap_setCell_other w ⟨g, k, none⟩ i v (by show i ≠ g; omega)).trans (h.block i hi)⟩
theorem Row.neBlk {w : World} {B : Nat} {e t : TypeId} {sz : Nat} {α : Type} {f : α → List Value} {v : Value} {l : List α} (h : Row w B e sz f v l) {g : Nat} {c : Array Value} (hg : w.heap[g]? = some (.cells c t (0, 0))) (hne : e ≠ t) : some g ≠ v.ownBlock := fun x => by
  obtain ⟨c1, h1⟩ := h.type x.symm
  rw [hg] at h1
  injection h1 with h1
  injection h1 with _ h1
  exact hne h1.symm
theorem bel_trans {B : Nat} {a b c : World} (h : Below B a b) (k : Below B b c) (_hB : B ≤ a.heap.size) : Below B a c :=
  ⟨k.os.trans h.os, k.tape.trans h.tape, k.output.trans h.output, Nat.le_trans h.size k.size, fun i hi => (k.block i hi).trans (h.block i hi)⟩
theorem Row.zeroAt {w : World} {B : Nat} {e : TypeId} {sz : Nat} {α : Type} {f : α → List Value} {v : Value} {l : List α} (h : Row w B e sz f v l) {a : Option Addr} {n cap : Nat} (hv : v = .slice a n cap) : ∀ x, a = some x → ∃ b, x = ⟨b, 0, none⟩ := by
  intro x hx
  rcases h.2 with ⟨h1, h0⟩ | ⟨g, cap', cur, h1, _⟩
  · rw [hv, hx] at h1; cases h1
  · rw [hv, hx] at h1
    injection h1 with h1
    injection h1 with h1
    exact ⟨g, h1⟩
def MS.owns (m : MS) (g k : Nat) : Prop := k = g ∨ m.nv.ownBlock = some k ∨ m.ro.ownBlock = some k ∨ m.wv.ownBlock = some k ∨ m.cv.ownBlock = some k ∨ m.gv.ownBlock = some k ∨ m.sv.ownBlock = some k
structure Fr (g : Nat) (m m' : MS) (w w' : World) : Prop where
  os : w'.os = w.os
  tape : w'.tape = w.tape
  output : w'.output = w.output
  size : w.heap.size ≤ w'.heap.size
  block : ∀ k, k < w.heap.size → ¬ m.owns g k → w'.heap[k]? = w.heap[k]?
  own : ∀ k, m'.owns g k → m.owns g k ∨ w.heap.size ≤ k
theorem Fr.refl (g : Nat) (m : MS) (w : World) : Fr g m m w w := ⟨rfl, rfl, rfl, Nat.le_refl _, fun _ _ _ => rfl, fun _ h => .inl h⟩
theorem Fr.trans {g : Nat} {m1 m2 m3 : MS} {a b c : World} (h : Fr g m1 m2 a b) (k : Fr g m2 m3 b c) : Fr g m1 m3 a c :=
  ⟨k.os.trans h.os, k.tape.trans h.tape, k.output.trans h.output, Nat.le_trans h.size k.size, fun i hi hn => (k.block i (Nat.lt_of_lt_of_le hi h.size) fun x => by
    rcases h.own i x with y | y
    · exact hn y
    · omega).trans (h.block i hi hn), fun i hi => by
    rcases k.own i hi with y | y
    · exact h.own i y
    · exact .inr (Nat.le_trans h.size y)⟩
theorem Fr.later {g : Nat} {m : MS} {a b : World} (h : Below a.heap.size a b) : Fr g m m a b := ⟨h.os, h.tape, h.output, h.size, fun k hk _ => h.block k hk, fun _ h => .inl h⟩
theorem Fr.cell {g : Nat} {m m' : MS} {w : World} (k : Nat) (v : Value) (h1 : m'.nv = m.nv) (h2 : m'.ro = m.ro) (h3 : m'.wv = m.wv) (h4 : m'.cv = m.cv) (h5 : m'.gv = m.gv) (h6 : m'.sv = m.sv) : Fr g m m' w (w.setCell ⟨g, k, none⟩ v) :=
  ⟨rfl, rfl, rfl, by simp, fun i _ hn => heap_setCell_other w ⟨g, k, none⟩ i v (fun e => hn (.inl e)), fun i hi => .inl (by unfold MS.owns at *; rw [h1, h2, h3, h4, h5, h6] at hi; exact hi)⟩
theorem Fr.below {w w' : World} {B g : Nat} {m m' : MS} {N : List Nd} {O : List Int} {W : List Wr} {C : List Cr} {G S : List Gft} (h : Rep w B g m N O W C G S) (f : Fr g m m' w w') : Below B w w' :=
  ⟨f.os, f.tape, f.output, f.size, fun k hk => f.block k (Nat.lt_of_lt_of_le hk h.base) fun x => by
    have hl := h.low
    rcases x with x | x | x | x | x | x | x
    · omega
    · have := (h.nodes.low x).1; omega
    · have := (h.roots.low x).1; omega
    · have := (h.works.low x).1; omega
    · have := (h.choices.low x).1; omega
    · have := (h.given.low x).1; omega
    · have := (h.said.low x).1; omega⟩
theorem fr_grow {g : Nat} {m m' : MS} {w w' : World} {o v : Value} (k : Nat) (hg : w.grownBy w' o.ownBlock) (ho : ∀ i, o.ownBlock = some i → m.owns g i) (hv : v.ownBlock = o.ownBlock ∨ v.ownBlock = some w.heap.size)
    (hm : ∀ i, m'.owns g i → m.owns g i ∨ v.ownBlock = some i) : Fr g m m' w (w'.setCell ⟨g, k, none⟩ v) :=
  ⟨hg.os, hg.tape, hg.output, by simpa using hg.size, fun i hi hn => (heap_setCell_other w' ⟨g, k, none⟩ i v (fun e => hn (.inl e))).trans (hg.block i hi fun e => hn (ho i e.symm)), fun i hi => by
    rcases hm i hi with x | x
    · exact .inl x
    · rcases hv with y | y
      · exact .inl (ho i (y ▸ x))
      · rw [y] at x; injection x with x; exact .inr (by omega)⟩
theorem Fr.growC {g : Nat} {m : MS} {w w' : World} {v : Value} (hg : w.grownBy w' m.cv.ownBlock) (hv : v.ownBlock = m.cv.ownBlock ∨ v.ownBlock = some w.heap.size) : Fr g m { m with cv := v } w (w'.setCell ⟨g, 10, none⟩ v) :=
  fr_grow 10 hg (fun i h => .inr (.inr (.inr (.inr (.inl h))))) hv fun i h => by
    rcases h with x | x | x | x | x | x | x
    · exact .inl (.inl x)
    · exact .inl (.inr (.inl x))
    · exact .inl (.inr (.inr (.inl x)))
    · exact .inl (.inr (.inr (.inr (.inl x))))
    · exact .inr x
    · exact .inl (.inr (.inr (.inr (.inr (.inr (.inl x))))))
    · exact .inl (.inr (.inr (.inr (.inr (.inr (.inr x))))))
theorem Fr.growW {g : Nat} {m : MS} {w w' : World} {v : Value} (hg : w.grownBy w' m.wv.ownBlock) (hv : v.ownBlock = m.wv.ownBlock ∨ v.ownBlock = some w.heap.size) : Fr g m { m with wv := v } w (w'.setCell ⟨g, 9, none⟩ v) :=
  fr_grow 9 hg (fun i h => .inr (.inr (.inr (.inl h)))) hv fun i h => by
    rcases h with x | x | x | x | x | x | x
    · exact .inl (.inl x)
    · exact .inl (.inr (.inl x))
    · exact .inl (.inr (.inr (.inl x)))
    · exact .inr x
    · exact .inl (.inr (.inr (.inr (.inr (.inl x)))))
    · exact .inl (.inr (.inr (.inr (.inr (.inr (.inl x))))))
    · exact .inl (.inr (.inr (.inr (.inr (.inr (.inr x))))))
theorem Fr.growG {g : Nat} {m : MS} {w w' : World} {v : Value} (hg : w.grownBy w' m.gv.ownBlock) (hv : v.ownBlock = m.gv.ownBlock ∨ v.ownBlock = some w.heap.size) : Fr g m { m with gv := v } w (w'.setCell ⟨g, 11, none⟩ v) :=
  fr_grow 11 hg (fun i h => .inr (.inr (.inr (.inr (.inr (.inl h)))))) hv fun i h => by
    rcases h with x | x | x | x | x | x | x
    · exact .inl (.inl x)
    · exact .inl (.inr (.inl x))
    · exact .inl (.inr (.inr (.inl x)))
    · exact .inl (.inr (.inr (.inr (.inl x))))
    · exact .inl (.inr (.inr (.inr (.inr (.inl x)))))
    · exact .inr x
    · exact .inl (.inr (.inr (.inr (.inr (.inr (.inr x))))))
theorem Fr.growS {g : Nat} {m : MS} {w w' : World} {v : Value} (hg : w.grownBy w' m.sv.ownBlock) (hv : v.ownBlock = m.sv.ownBlock ∨ v.ownBlock = some w.heap.size) : Fr g m { m with sv := v } w (w'.setCell ⟨g, 12, none⟩ v) :=
  fr_grow 12 hg (fun i h => .inr (.inr (.inr (.inr (.inr (.inr h)))))) hv fun i h => by
    rcases h with x | x | x | x | x | x | x
    · exact .inl (.inl x)
    · exact .inl (.inr (.inl x))
    · exact .inl (.inr (.inr (.inl x)))
    · exact .inl (.inr (.inr (.inr (.inl x))))
    · exact .inl (.inr (.inr (.inr (.inr (.inl x)))))
    · exact .inl (.inr (.inr (.inr (.inr (.inr (.inl x))))))
    · exact .inr x
theorem RepCset {w : World} {B g : Nat} {m : MS} {N : List Nd} {O : List Int} {W : List Wr} {C C' : List Cr} {G S : List Gft} (h : Rep w B g m N O W C G S) {gc : Nat} (ho : m.cv.ownBlock = some gc) (k : Nat) (v : Value) (hr : Row (w.setCell ⟨gc, k, none⟩ v) B 134 6 crV m.cv C') : Rep (w.setCell ⟨gc, k, none⟩ v) B g m N O W C' G S := by
  obtain ⟨cur, hcur⟩ := h.choices.type ho
  have hb : But gc w (w.setCell ⟨gc, k, none⟩ v) := (But.refl gc w).setCell k v
  have hne : g ≠ gc := fun e => h.choices.neBlk h.blk (by decide) (by rw [ho, e])
  exact ⟨h.low, hb.row hne h.blk, h.nodes.keepBut hcur (by decide) hb, h.roots.keepBut hcur (by decide) hb, h.works.keepBut hcur (by decide) hb, hr, h.given.keepBut hcur (by decide) hb, h.said.keepBut hcur (by decide) hb, h.apart, Nat.le_trans h.base hb.size⟩
theorem FrCset {w : World} {g : Nat} {m : MS} {gc : Nat} (ho : m.cv.ownBlock = some gc) (k : Nat) (v : Value) : Fr g m m w (w.setCell ⟨gc, k, none⟩ v) :=
  ⟨rfl, rfl, rfl, by simp, fun i _ hn => heap_setCell_other w ⟨gc, k, none⟩ i v (fun e => hn (.inr (.inr (.inr (.inr (.inl (by rw [ho]; exact congrArg some e.symm))))))), fun _ h => .inl h⟩
theorem FrC {w : World} {g : Nat} {m : MS} {v : Value} (ho : v.ownBlock = m.cv.ownBlock) : Fr g m { m with cv := v } w (w.setCell ⟨g, 10, none⟩ v) :=
  fr_grow 10 (w' := w) (o := m.cv) ⟨rfl, rfl, rfl, Nat.le_refl _, fun _ _ _ => rfl⟩ (fun i h => .inr (.inr (.inr (.inr (.inl h))))) (.inl ho) fun i h => by
    rcases h with x | x | x | x | x | x | x
    · exact .inl (.inl x)
    · exact .inl (.inr (.inl x))
    · exact .inl (.inr (.inr (.inl x)))
    · exact .inl (.inr (.inr (.inr (.inl x))))
    · exact .inr x
    · exact .inl (.inr (.inr (.inr (.inr (.inr (.inl x))))))
    · exact .inl (.inr (.inr (.inr (.inr (.inr (.inr x))))))
theorem Row.neRow {w : World} {B B' : Nat} {e e' : TypeId} {sz sz' : Nat} {α β : Type} {f : α → List Value} {f' : β → List Value} {v v' : Value} {l : List α} {l' : List β} (h : Row w B e sz f v l) (h' : Row w B' e' sz' f' v' l') (hne : e ≠ e') {a b n n' c c' : Nat} (hv : v = .slice (some ⟨a, 0, none⟩) n c) (hv' : v' = .slice (some ⟨b, 0, none⟩) n' c') : ¬ a = b := fun x => by
  obtain ⟨c1, h1⟩ := h.type (k := a) (by rw [hv]; rfl)
  obtain ⟨c2, h2⟩ := h'.type (k := b) (by rw [hv']; rfl)
  rw [← x, h1] at h2
  injection h2 with h2
  injection h2 with _ h2
  exact hne h2
end Go.Proofs.YtbmngbpillihaaaDoor

namespace Go.Proofs.YtbmngbpillihaaaDoor

def bu (f : Nat → Bool) : Nat → Nat
  | 0 => 0
  | n + 1 => bu f n + (if f n then 2 ^ n else 0)
theorem bu_lt (f : Nat → Bool) : ∀ n, bu f n < 2 ^ n
  | 0 => by simp [bu]
  | n + 1 => by
    have := bu_lt f n
    simp only [bu]
    rw [Nat.pow_succ]
    split <;> omega
theorem bu_bit (f : Nat → Bool) : ∀ n i, (bu f n).testBit i = (decide (i < n) && f i)
  | 0, i => by simp [bu]
  | n + 1, i => by
    have hlt := bu_lt f n
    have ih := bu_bit f n i
    simp only [bu]
    cases hf : f n with
    | false =>
      simp only [Bool.false_eq_true, if_false, Nat.add_zero]
      rw [ih]
      by_cases h : i = n
      · subst h; simp [hf]
      · have : decide (i < n + 1) = decide (i < n) := by simp; omega
        rw [this]
    | true =>
      simp only [if_true]
      rw [Nat.add_comm]
      by_cases h : i = n
      · subst h
        rw [Nat.testBit_two_pow_add_eq, ih]
        simp [hf]
      · by_cases h2 : i < n
        · rw [Nat.testBit_two_pow_add_gt h2, ih]
          have : decide (i < n + 1) = decide (i < n) := by simp; omega
          rw [this]
        · have h3 : 2 ^ n + bu f n < 2 ^ i := by
            have : 2 ^ (n + 1) ≤ 2 ^ i := Nat.pow_le_pow_right (by omega) (by omega)
            rw [Nat.pow_succ] at this
            omega
          rw [Nat.testBit_lt_two_pow h3]
          have : decide (i < n + 1) = false := by simp; omega
          rw [this]; rfl
theorem bu_congr {f g : Nat → Bool} {n : Nat} (h : ∀ i, i < n → f i = g i) : bu f n = bu g n := by
  apply Nat.eq_of_testBit_eq
  intro i
  rw [bu_bit, bu_bit]
  by_cases hi : i < n
  · simp [hi, h i hi]
  · simp [hi]
def wd (p : Nat → Bool) (k : Nat) : Nat := bu (fun i => p (64 * k + i)) 64
theorem wd_lt (p : Nat → Bool) (k : Nat) : wd p k < 18446744073709551616 := bu_lt _ 64
theorem wd_bit (p : Nat → Bool) (k i : Nat) : (wd p k).testBit i = (decide (i < 64) && p (64 * k + i)) := bu_bit _ 64 i
theorem wd_congr {p q : Nat → Bool} {k : Nat} (hk : k < 4) (h : ∀ b, b < 256 → p b = q b) : wd p k = wd q k := bu_congr fun i hi => h _ (by omega)
def u64v (n : Nat) : Value := .int .u64 (n : Int)
def sc (p : Nat → Bool) : Array Value := #[u64v (wd p 0), u64v (wd p 1), u64v (wd p 2), u64v (wd p 3)]
def sv (p : Nat → Bool) : Value := .agg (sc p)
theorem sc_size (p : Nat → Bool) : (sc p).size = 4 := rfl
theorem sc_one (p : Nat → Bool) : (sc p).all (·.oneCell') = true := by simp [sc, u64v, Value.oneCell']
theorem sc_at (p : Nat → Bool) (k : Nat) (h : k < 4) : (sc p)[k]? = some (.int .u64 (wd p k : Int)) := by
  match k, h with
  | 0, _ => rfl
  | 1, _ => rfl
  | 2, _ => rfl
  | 3, _ => rfl
theorem sc_congr {p q : Nat → Bool} (h : ∀ b, b < 256 → p b = q b) : sc p = sc q := by
  unfold sc
  rw [wd_congr (k := 0) (by omega) h, wd_congr (k := 1) (by omega) h, wd_congr (k := 2) (by omega) h, wd_congr (k := 3) (by omega) h]
def wc (f : Nat → Nat) : Array Value := #[.int .u64 (f 0 : Int), .int .u64 (f 1 : Int), .int .u64 (f 2 : Int), .int .u64 (f 3 : Int)]
theorem sc_wc (p : Nat → Bool) : sc p = wc (wd p) := rfl
theorem wc_size (f : Nat → Nat) : (wc f).size = 4 := rfl
theorem wc_one (f : Nat → Nat) : (wc f).all (·.oneCell') = true := by simp [wc, Value.oneCell']
theorem wc_at (f : Nat → Nat) (k : Nat) (h : k < 4) : (wc f)[k]? = some (.int .u64 (f k : Int)) := by
  match k, h with
  | 0, _ => rfl
  | 1, _ => rfl
  | 2, _ => rfl
  | 3, _ => rfl
theorem wc_set (f : Nat → Nat) (k v : Nat) (h : k < 4) : (wc f).setIfInBounds k (.int .u64 (v : Int)) = wc fun i => if i = k then v else f i := by
  match k, h with
  | 0, _ => rfl
  | 1, _ => rfl
  | 2, _ => rfl
  | 3, _ => rfl
theorem wc_congr {f g : Nat → Nat} (h : ∀ k, k < 4 → f k = g k) : wc f = wc g := by
  unfold wc
  rw [h 0 (by omega), h 1 (by omega), h 2 (by omega), h 3 (by omega)]
def upTo (k : Nat) (f : Nat → Nat) : Nat → Nat := fun i => if i < k then f i else 0
theorem upTo_step (k : Nat) (f : Nat → Nat) (h : k < 4) : (wc (upTo k f)).setIfInBounds k (.int .u64 (f k : Int)) = wc (upTo (k + 1) f) := by
  rw [wc_set _ _ _ h]
  apply wc_congr
  intro i _
  unfold upTo
  by_cases e : i = k
  · subst e; simp
  · rw [if_neg e]
    by_cases h2 : i < k
    · rw [if_pos h2, if_pos (by omega)]
    · rw [if_neg h2, if_neg (by omega)]
theorem upTo_end (f : Nat → Nat) : wc (upTo 4 f) = wc f := wc_congr fun i hi => by unfold upTo; rw [if_pos hi]
end Go.Proofs.YtbmngbpillihaaaDoor

namespace Go.Proofs.YtbmngbpillihaaaDoor
open Go.RowKit

theorem info_set : (Tryd.prog.info? 33).map (fun i => (i.zero, i.size)) = some (some (.agg (Array.replicate 4 (.int .u64 0))), 4) := by kernel_rfl
theorem run_index_row {t e : TypeId} {n k : Nat} {C : Array Value} {v : Value} (w : World) (hu : Tryd.prog.underlying t = some (.array n e)) (he : Tryd.prog.plainKey e = true) (hs : (Tryd.prog.info? e).map (·.size) = some 1) (hk : k < n) (hc : C[k]? = some v) :
    (Instr.index t (.agg C) (.int .i64 (k : Int))).run Tryd.prog w = .ok v w := by
  have hp := run_part_plain (P := Tryd.prog) (w := w) he hc
  have h0 : (0 : Int) ≤ (k : Int) ∧ (k : Int) < (n : Int) := by omega
  cases hq : Tryd.prog.info? e with
  | none => simp [hq] at hs
  | some i =>
    have hz : i.size = 1 := by simpa [hq] using hs
    simp [Instr.index, asIntOf, run_underlying hu, h0, sizeOf, typeInfo, hq, hz, hp]
    intro h
    omega
theorem plain_u64 : Tryd.prog.plainKey 31 = true := by kernel_rfl
theorem size_u64 : (Tryd.prog.info? 31).map (·.size) = some 1 := by kernel_rfl
theorem has_bit (x i : Nat) (hx : x < 18446744073709551616) : (bits BinOp.and IntKind.u64 ((x : Int) / 2 ^ i) 1 == 1) = x.testBit i := by
  have e : ((x : Int) / 2 ^ i) = ((x / 2 ^ i : Nat) : Int) := by simp
  have hd : x / 2 ^ i ≤ x := Nat.div_le_self _ _
  rw [e, Nat.testBit_eq_decide_div_mod_eq]
  generalize x / 2 ^ i = y at *
  rw [and_one_u64 _ (by omega) (by omega)]
  by_cases h : y % 2 = 1
  · simp only [h, decide_true]; rw [beq_iff_eq]; omega
  · simp only [h, decide_false]; rw [beq_eq_false_iff_ne]; omega
set_option maxHeartbeats 400000 in
theorem has_any (p : Nat → Bool) (b : Nat) (hb : b < 256) (w : World) :
    Calls Tryd.prog 74 #[sv p, .int .u8 (b : Int)] w fun e w' => e = .returned (.bool (p b)) ∧ Below w.heap.size w w' := by
  unfold sv
  have hcs := sc_size p
  have hat := sc_at p (b / 64) (by omega)
  have hbit := has_bit (wd p (b / 64)) (b % 64) (wd_lt _ _)
  have H := hide (show (bits BinOp.and IntKind.u64 (((wd p (b / 64) : Nat) : Int) / 2 ^ (b % 64)) 1 == 1) = p b by
    rw [hbit, wd_bit, show 64 * (b / 64) + b % 64 = b by omega]
    simp; omega)
  generalize sc p = C at *
  clear hbit
  go_enter Tryd.func74, Tryd.ntmps74
  go_wp2
  go_ret
  exact ⟨ret_bool (unhide H), (Below.refl _ _).alloc (Nat.le_refl _) _⟩
theorem sc_with (p : Nat → Bool) (b : Nat) :
    (sc p).setIfInBounds (b / 64) (.int .u64 (bits BinOp.or IntKind.u64 ((wd p (b / 64) : Nat) : Int) (IntKind.u64.wrap (2 ^ (b % 64))))) = sc fun c => p c || c == b := by
  have h64 : (2 : Nat) ^ (b % 64) < 18446744073709551616 := Nat.pow_lt_pow_right (a := 2) (by omega) (show b % 64 < 64 by omega)
  have e : IntKind.u64.wrap (2 ^ (b % 64)) = ((2 ^ (b % 64) : Nat) : Int) := by
    have : ((2 : Int) ^ (b % 64)) = ((2 ^ (b % 64) : Nat) : Int) := by simp
    rw [this]
    generalize 2 ^ (b % 64) = y at *
    rw [IntKind.wrap_u64]
    omega
  rw [e, bits_or_u64_nat _ _ (wd_lt _ _) h64]
  have hw : ∀ k, k < 4 → (if b / 64 = k then wd p (b / 64) ||| 2 ^ (b % 64) else wd p k) = wd (fun c => p c || c == b) k := by
    intro k hk
    apply Nat.eq_of_testBit_eq
    intro i
    rw [wd_bit]
    by_cases h : b / 64 = k
    · rw [if_pos h, Nat.testBit_or, wd_bit, Nat.testBit_two_pow, h]
      by_cases hi : i < 64
      · simp only [hi, decide_true, Bool.true_and]
        congr 1
        by_cases h2 : b % 64 = i
        · rw [decide_eq_true h2]; symm; rw [beq_iff_eq]; omega
        · rw [decide_eq_false h2]; symm; rw [beq_eq_false_iff_ne]; omega
      · simp only [hi, decide_false, Bool.false_and, Bool.false_or]
        rw [decide_eq_false_iff_not]; omega
    · rw [if_neg h, wd_bit]
      by_cases hi : i < 64
      · have : (64 * k + i == b) = false := by rw [beq_eq_false_iff_ne]; omega
        simp [this]
      · simp [hi]
  apply Array.ext_getElem?
  intro k
  by_cases hk : k < 4
  · rw [sc_at _ _ hk, Array.getElem?_setIfInBounds, ← hw k hk]
    by_cases h : b / 64 = k
    · rw [if_pos h, if_pos (by rw [sc_size]; omega), if_pos h]
    · rw [if_neg h, if_neg h, sc_at _ _ hk]
  · rw [Array.getElem?_eq_none (by simp [sc_size]; omega), Array.getElem?_eq_none (by rw [sc_size]; omega)]
def zerosS : Array Value := #[.int .u64 0, .int .u64 0, .int .u64 0, .int .u64 0]
theorem zerosS_eq : zerosS = sc fun _ => false := by
  have : ∀ k, wd (fun _ => false) k = 0 := fun k => Nat.eq_of_testBit_eq fun i => by rw [wd_bit]; simp
  unfold zerosS sc u64v
  rw [this, this, this, this]
  rfl
theorem size_set : (Tryd.prog.info? 33).map (·.size) = some 4 := (zero_of_info info_set).2
set_option maxHeartbeats 400000 in
theorem with_any (p : Nat → Bool) (b : Nat) (hb : b < 256) (w : World) :
    Calls Tryd.prog 73 #[sv p, .int .u8 (b : Int)] w fun e w' => e = .returned (sv fun c => p c || c == b) ∧ Below w.heap.size w w' := by
  unfold sv
  have hcs := sc_size p
  have hat := sc_at p (b / 64) (by omega)
  have hD := sc_with p b
  have hDs := sc_size fun c => p c || c == b
  have hD1 := sc_one fun c => p c || c == b
  generalize sc (fun c => p c || c == b) = D at *
  generalize sc p = C at *
  have HD := hide hD
  have hi := size_set
  rw [← hDs] at hi
  have HI := hide hi
  clear hD hi
  go_enter Tryd.func73, Tryd.ntmps73
  go_wp2_with (first
    | (rw [unhide HD]; refine wpList_load_row rfl 33 _ rfl w.heap.size rfl 33 D (0, 0) _ (heap_alloc2_old w _ _) Tryd.underlying33 rfl (unhide HI) ?_)
    | (refine wpList_store_row rfl 33 _ _ rfl (w.heap.size + 1) D rfl rfl 33 zerosS (heap_alloc2_new w _ _) (unhide HI) hDs.symm hD1 ?_))
  (try simp only [Exit.inBlock, Exit.then])
  exact bodyPost_ret (results_cell_row rfl _ _ (w.heap.size + 1) 33 D (0, 0) _ rfl (setRow_heap _ _ _ _ _ _ (heap_alloc2_new w _ _)) Tryd.underlying33 rfl (unhide HI)) rfl ⟨rfl, below_setRow (((Below.refl _ _).alloc (Nat.le_refl _) _).alloc (by simp) _) _ (by omega) _⟩
end Go.Proofs.YtbmngbpillihaaaDoor

namespace Go.Proofs.YtbmngbpillihaaaDoor
open Go.RowKit

def bc (b : UInt8) : Value := .int .u8 (b.toNat : Int)
theorem info_byte : (Tryd.prog.info? 5).map (fun i => (i.zero, i.size, i.bytes)) = some (some (.int .u8 0), 1, 1) := by kernel_rfl
theorem out_string (v : Value) (l : List UInt8) (B : Nat) (wr : World) (ho : wr.ownsRow B 5 1 v l.length (l.map bc)) :
    (convert 97 9 v).run Tryd.prog wr = .ok (.string ⟨l.toArray⟩) wr := by
  rcases ho.2 with ⟨rfl, h0⟩ | ⟨g, cap, cur, rfl, _, _, _, _, _, _⟩
  · have : l = [] := List.eq_nil_of_length_eq_zero h0
    subst this
    exact run_convert_bytes_nil (P := Tryd.prog) wr 97 5 Tryd.underlying97 Tryd.underlying5 0 0 9 Tryd.underlying9
  · exact run_convert_bytes_back (P := Tryd.prog) wr 97 9 5 ⟨g, 0, none⟩ cap l Tryd.underlying97 Tryd.underlying5 Tryd.underlying9 (fun j hj => ho.cells rfl j _ (by simp only [List.getElem?_map, List.getElem?_eq_getElem hj, Option.map_some, bc]))
theorem bc_nat (k : Nat) (h : k < 256) : bc (UInt8.ofNat k) = .int .u8 (k : Int) := by
  unfold bc
  rw [UInt8.toNat_ofNat', Nat.mod_eq_of_lt h]
def tx (p : Nat → Bool) : Nat → List UInt8
  | 0 => []
  | k + 1 => tx p k ++ (if p k then [UInt8.ofNat k] else [])
theorem tx_le (p : Nat → Bool) : ∀ k, (tx p k).length ≤ k
  | 0 => Nat.le_refl _
  | k + 1 => by
    have := tx_le p k
    unfold tx
    rw [List.length_append]
    split <;> simp <;> omega
theorem tx_yes (p : Nat → Bool) (k : Nat) (h : k < 256) (hp : p k = true) : (tx p (k + 1)).map bc = (tx p k).map bc ++ [.int .u8 (k : Int)] ∧ (tx p (k + 1)).length = (tx p k).length + 1 := by
  have : tx p (k + 1) = tx p k ++ [UInt8.ofNat k] := by show tx p k ++ _ = _; rw [hp]; rfl
  rw [this, List.map_append, List.length_append]
  exact ⟨by rw [← bc_nat k h]; rfl, rfl⟩
theorem tx_no (p : Nat → Bool) (k : Nat) (hp : p k = false) : tx p (k + 1) = tx p k := by
  show tx p k ++ _ = _
  rw [hp]
  exact List.append_nil _
end Go.Proofs.YtbmngbpillihaaaDoor

namespace Go.Proofs.YtbmngbpillihaaaDoor
open Go.RowKit

def mkP (k : Int) (t : ByteArray) (n : Int) (nm : ByteArray) (l : List PT) : PT := ⟨k, t, n, nm, none, 0, 0, l.length, l.length, fun i => l[i]⟩
def PT.lst (T : PT) : List PT := List.ofFn T.kids
def PT.can : PT → PT
  | .node k t n nm _ _ _ _ _ kids => mkP k t n nm (List.ofFn fun i => PT.can (kids i))
def litP (t : ByteArray) : PT := mkP 1 t 0 ⟨#[]⟩ []
def txt (p : Nat → Bool) : ByteArray := ⟨(tx p 256).toArray⟩
def anyP (p : Nat → Bool) : PT := if (tx p 256).length = 1 then litP (txt p) else mkP 3 (txt p) 0 ⟨#[]⟩ []
def cntP (k n : Int) : PT := if k = 2 ∧ n = 0 then litP ⟨#[]⟩ else if k = 9 ∧ n = 0 then mkP 12 ⟨#[]⟩ 0 ⟨#[]⟩ [] else mkP k ⟨#[]⟩ n ⟨#[]⟩ []
def isE (T : PT) : Bool := decide (T.k = 1) && decide (T.t.size = 0)
def isF (T : PT) : Bool := decide (T.k = 15)
def isA (T : PT) : Bool := decide (T.k = 17)
def nev (T : PT) : Bool := isF T || isA T
def oneB (T : PT) : Bool := decide (T.k = 3) || (decide (T.k = 1) && decide (T.t.size = 1))
def behindP (a b : PT) : Option PT :=
  if a.k ≠ b.k then none else if a.k = 1 ∧ a.t.size + b.t.size ≤ 65536 then some (litP (a.t ++ b.t)) else if a.k = 2 ∧ a.n + b.n ≤ 65536 then some (cntP 2 (a.n + b.n)) else none
def eitherP (a b : PT) : Option PT :=
  if (oneB a && oneB b) = false then none else if (tx (fun c => inB a.t c && inB b.t c) 256).isEmpty = true then some (anyP fun c => inB a.t c || inB b.t c) else none
def stay (last idle : PT → Bool) : Bool → List PT → List PT
  | _, [] => []
  | true, _ :: l => stay last idle true l
  | false, p :: l => if idle p then stay last idle false l else p :: stay last idle (last p) l
def addP (join : PT → PT → Option PT) (out : List PT) (p : PT) : List PT :=
  match out.getLast? with
  | none => [p]
  | some x => match join x p with
    | some y => out.dropLast ++ [y]
    | none => out ++ [p]
def flatK (k : Int) (l : List PT) : List PT := l.flatMap fun p => if p.k = k then p.lst else [p]
def fewP (k : Int) (last idle : PT → Bool) (join : PT → PT → Option PT) (l : List PT) : List PT := (stay last idle false (flatK k l)).foldl (addP join) []
def oneOrP (k : Int) (l : List PT) (none : PT) : PT :=
  match l with
  | [] => none
  | [x] => x
  | l => mkP k ⟨#[]⟩ 0 ⟨#[]⟩ l
def catP (l : List PT) : PT := oneOrP 18 (fewP 18 nev isE behindP l) (litP ⟨#[]⟩)
def altP (l : List PT) : PT := oneOrP 19 (fewP 19 isA isF eitherP l) (mkP 15 ⟨#[]⟩ 0 ⟨#[]⟩ [])
def arbP (l : List PT) : PT :=
  if (isF (l.getD 0 PT.nul) || isE (l.getD 0 PT.nul)) = true then litP ⟨#[]⟩ else if (l.getD 0 PT.nul).k = 2 ∧ (l.getD 0 PT.nul).n = 1 then mkP 13 ⟨#[]⟩ 0 ⟨#[]⟩ [] else mkP 20 ⟨#[]⟩ 0 ⟨#[]⟩ l
def simpN (k : Int) (t : ByteArray) (n : Int) (nm : ByteArray) (l : List PT) : PT :=
  if k = 1 then litP t
  else if k = 3 then anyP (inB t)
  else if k = 4 ∨ k = 5 ∨ k = 6 ∨ k = 7 then mkP k (txt (inB t)) 0 ⟨#[]⟩ []
  else if k = 2 ∨ k = 8 ∨ k = 9 ∨ k = 10 ∨ k = 11 then cntP k n
  else if k = 18 then catP l
  else if k = 19 then altP l
  else if k = 20 then arbP l
  else if k = 21 ∨ k = 22 then (if nev (l.getD 0 PT.nul) = true then l.getD 0 PT.nul else mkP k ⟨#[]⟩ 0 nm l)
  else if k = 23 ∨ k = 24 then mkP k ⟨#[]⟩ 0 nm l
  else mkP k ⟨#[]⟩ 0 ⟨#[]⟩ l
def PT.simp : PT → PT
  | .node k t n nm _ _ _ _ _ kids => simpN k t n nm (List.ofFn fun i => PT.simp (kids i))
theorem PT.can_eq (T : PT) : T.can = mkP T.k T.t T.n T.nm (T.lst.map PT.can) := by
  obtain ⟨k, t, n, nm, xa, b, o, len, cap, kids⟩ := T
  show mkP k t n nm (List.ofFn fun i => PT.can (kids i)) = mkP k t n nm ((List.ofFn kids).map PT.can)
  rw [List.map_ofFn]
  rfl
theorem PT.simp_eq (T : PT) : T.simp = simpN T.k T.t T.n T.nm (T.lst.map PT.simp) := by
  obtain ⟨k, t, n, nm, xa, b, o, len, cap, kids⟩ := T
  show simpN k t n nm (List.ofFn fun i => PT.simp (kids i)) = simpN k t n nm ((List.ofFn kids).map PT.simp)
  rw [List.map_ofFn]
  rfl
theorem PT.lst_len (T : PT) : T.lst.length = T.len := by unfold PT.lst; simp
theorem PT.lst_at {T : PT} {i : Nat} (h : i < T.len) : T.lst[i]? = some (T.kid i) := by
  unfold PT.lst
  rw [List.getElem?_ofFn, dif_pos h, PT.kid_at h]
theorem mkP_lst (k : Int) (t : ByteArray) (n : Int) (nm : ByteArray) (l : List PT) : (mkP k t n nm l).lst = l := by
  unfold PT.lst mkP
  exact List.ofFn_getElem
theorem can_k (T : PT) : T.can.k = T.k := by rw [PT.can_eq]; rfl
theorem can_t (T : PT) : T.can.t = T.t := by rw [PT.can_eq]; rfl
theorem can_n (T : PT) : T.can.n = T.n := by rw [PT.can_eq]; rfl
theorem can_nm (T : PT) : T.can.nm = T.nm := by rw [PT.can_eq]; rfl
theorem can_lst (T : PT) : T.can.lst = T.lst.map PT.can := by rw [PT.can_eq, mkP_lst]
theorem mem_lst_ind {P : PT → Prop} (h : ∀ T : PT, (∀ x ∈ T.lst, P x) → P T) : ∀ T, P T := PT.ind fun T ih => h T fun x hx => by
  obtain ⟨i, hi⟩ := List.mem_iff_getElem?.1 hx
  have hlt : i < T.len := by have := (List.getElem?_eq_some_iff.1 hi).1; rwa [PT.lst_len] at this
  rw [PT.lst_at hlt] at hi
  rw [← Option.some.inj hi]
  exact ih i hlt
theorem simp_can : ∀ T : PT, T.can.simp = T.simp := mem_lst_ind fun T ih => by
  rw [PT.simp_eq T.can, can_k, can_t, can_n, can_nm, can_lst, PT.simp_eq T, List.map_map]
  exact congrArg _ (List.map_congr_left fun x hx => ih x hx)
end Go.Proofs.YtbmngbpillihaaaDoor

namespace Go.Proofs.YtbmngbpillihaaaDoor
open Go.RowKit

def Lies (rn : ByteArray → Int) (N : List Nd) : PT → Nat → Prop
  | .node k t n nm _ _ _ len _ kids, idx => ∃ x, N[idx]? = some x ∧ x.k = k ∧ x.t = t ∧ x.n = n ∧ ((k = 21 ∨ k = 22 ∨ k = 23) → x.nm = nm) ∧ (k = 24 → x.ru = rn nm) ∧ x.en = x.fi + len ∧ x.en ≤ 1000000 ∧ ∀ j : Fin len, Lies rn N (kids j) (x.fi + j.val)
theorem Lies.node {rn : ByteArray → Int} {N : List Nd} {T : PT} {i : Nat} (h : Lies rn N T i) : ∃ x, N[i]? = some x ∧ x.k = T.k ∧ x.t = T.t ∧ x.n = T.n ∧ ((T.k = 21 ∨ T.k = 22 ∨ T.k = 23) → x.nm = T.nm) ∧ (T.k = 24 → x.ru = rn T.nm) ∧ x.en = x.fi + T.len ∧ x.en ≤ 1000000 ∧ ∀ j, j < T.len → Lies rn N (T.kid j) (x.fi + j) := by
  obtain ⟨k, t, n, nm, xa, b, o, len, cap, kids⟩ := T
  obtain ⟨x, h1, h2, h3, h4, h5, h6, h7, h8, h9⟩ := h
  refine ⟨x, h1, h2, h3, h4, h5, h6, h7, h8, fun j hj => ?_⟩
  rw [PT.kid_at (T := .node k t n nm xa b o len cap kids) hj]
  exact h9 ⟨j, hj⟩
def Same (N N' : List Nd) : Prop := ∀ (i : Nat) (x : Nd), N[i]? = some x → ∃ y : Nd, N'[i]? = some y ∧ y.k = x.k ∧ y.t = x.t ∧ y.n = x.n ∧ y.nm = x.nm ∧ y.ru = x.ru ∧ y.fi = x.fi ∧ y.en = x.en
theorem Same.refl (N : List Nd) : Same N N := fun _ x h => ⟨x, h, rfl, rfl, rfl, rfl, rfl, rfl, rfl⟩
theorem Lies.mono {rn : ByteArray → Int} {N N' : List Nd} (hs : Same N N') : ∀ {T : PT} {i : Nat}, Lies rn N T i → Lies rn N' T i
  | .node k t n nm xa b o len cap kids, i, h => by
    have ih := fun (j : Fin len) (q : Nat) => Lies.mono (rn := rn) hs (T := kids j) (i := q)
    obtain ⟨x, h1, h2, h3, h4, h5, h6, h7, h8, h9⟩ := h
    obtain ⟨y, k1, k2, k3, k4, k5, k6, k7, k8⟩ := hs i x h1
    exact ⟨y, k1, k2.trans h2, k3.trans h3, k4.trans h4, fun q => k5.trans (h5 q), fun q => k6.trans (h6 q), by rw [k8, k7]; exact h7, by rw [k8]; exact h8, fun j => by rw [k7]; exact ih j _ (h9 j)⟩
section
variable {rn : ByteArray → Int} {sz : Nat} {N : List Nd}
theorem take_all {α : Type} (l : List α) : l.take l.length = l := List.take_length
end

def Deep (f d i : Nat) (ch : List Wk) : Prop := ∀ k ∈ ch, f + 1 ≤ k.n ∧ (k.T.k = 20 → f + d ≤ k.m) ∧ k.i ≤ i
def DeepC (f : Nat) (cs : List Ch) : Prop := ∀ c ∈ cs, f + 1 ≤ c.n ∧ (c.T.k = 20 → f ≤ c.m) ∧ Deep f 1 c.i c.ch
theorem Deep.less {f f' d d' i i' : Nat} {ch : List Wk} (h : Deep f d i ch) (hf : f' ≤ f) (hd : f' + d' ≤ f + d) (hi : i ≤ i') : Deep f' d' i' ch := fun k hk => ⟨by have := (h k hk).1; omega, fun q => by have := (h k hk).2.1 q; omega, by have := (h k hk).2.2; omega⟩
theorem DeepC.less {f f' : Nat} {cs : List Ch} (h : DeepC f cs) (hf : f' ≤ f) : DeepC f' cs := fun c hc => ⟨by have := (h c hc).1; omega, fun q => by have := (h c hc).2.1 q; omega, (h c hc).2.2.less hf (by omega) (Nat.le_refl _)⟩
end Go.Proofs.YtbmngbpillihaaaDoor
