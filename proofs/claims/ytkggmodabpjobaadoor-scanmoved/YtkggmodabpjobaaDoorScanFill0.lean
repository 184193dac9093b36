/- What fill does with a pattern of kinds that bear no name: its nodes are laid among the machine's. -/
import Derived.Test.YtkggmodabpjobaaDoorScanZeros
import Derived.Test.YtkggmodabpjobaaDoorScanSim
import Derived.Test.YtkggmodabpjobaaDoorRegionSink
import Derived.Maps.RangeWalk
import Derived.Deep.RegionHeld3
import Derived.BigRegion
import Derived.Deep.QuietTactic
import Derived.BigQuiet
namespace Go.Proofs.YtkggmodabpjobaaDoor
open Go.RowKit

/-- Kinds without names. -/
def Bare : PT → Prop
  | .node k _ _ _ _ _ _ len _ kids => (k ≠ 21 ∧ k ≠ 22 ∧ k ≠ 23 ∧ k ≠ 24 ∧ k ≠ 0) ∧ ∀ j : Fin len, Bare (kids j)

theorem bare_here {T : PT} (h : Bare T) : T.k ≠ 21 ∧ T.k ≠ 22 ∧ T.k ≠ 23 ∧ T.k ≠ 24 ∧ T.k ≠ 0 := by cases T; exact h.1
theorem bare_kid {T : PT} (h : Bare T) {j : Nat} (hj : j < T.len) : Bare (T.kid j) := by
  rw [PT.kid_at hj]
  cases T; exact h.2 ⟨j, hj⟩

theorem bare_mono {rn : ByteArray → Int} {N N' : List Nd} (hs : ∀ (i : Nat) (x : Nd), N[i]? = some x → x.k ≠ 0 → N'[i]? = some x) : ∀ {T : PT} {i : Nat}, Bare T → Lies rn N T i → Lies rn N' T i
  | .node k t n nm xa b o len cap kids, i, hb, h => by
    have ih := fun (j : Fin len) (q : Nat) => bare_mono (rn := rn) hs (T := kids j) (i := q) (hb.2 j)
    obtain ⟨x, h1, h2, h3, h4, h5, h6, h7, h8, h9⟩ := h
    exact ⟨x, hs i x h1 (by rw [h2]; exact hb.1.2.2.2.2), h2, h3, h4, h5, h6, h7, h8, fun j => ih j _ (h9 j)⟩
theorem RepNset {w : World} {B g : Nat} {m : MS} {N : List Nd} {O : List Int} {W : List Wr} {C : List Cr} {G S : List Gft} (h : Rep w B g m N O W C G S) {gn n cap a k : Nat} {x y : Nd} {v : Value} (hv : m.nv = .slice (some ⟨gn, 0, none⟩) n cap) (hx : N[a]? = some x) (hk : k < 10) (hy : ndV y = (ndV x).set k v) : Rep (w.setCell ⟨gn, a * 10 + k, none⟩ v) B g m (N.set a y) O W C G S := by
  have ho : m.nv.ownBlock = some gn := by rw [hv]; rfl
  obtain ⟨cur, hcur⟩ := h.nodes.type ho
  have hb : But gn w (w.setCell ⟨gn, a * 10 + k, none⟩ v) := (But.refl gn w).setCell _ v
  have hne : g ≠ gn := fun e => h.nodes.neBlk h.blk (by decide) (by rw [ho, e])
  exact ⟨h.low, hb.row hne h.blk, h.nodes.set ndV_len hv hx hk hy, h.roots.keepBut hcur (by decide) hb, h.works.keepBut hcur (by decide) hb, h.choices.keepBut hcur (by decide) hb, h.given.keepBut hcur (by decide) hb, h.said.keepBut hcur (by decide) hb, h.apart, Nat.le_trans h.base hb.size⟩
theorem FrNset {w : World} {g : Nat} {m : MS} {gn : Nat} (ho : m.nv.ownBlock = some gn) (k : Nat) (v : Value) : Fr g m m w (w.setCell ⟨gn, k, none⟩ v) :=
  ⟨rfl, rfl, rfl, by simp, fun i _ hn => heap_setCell_other w ⟨gn, k, none⟩ i v (fun e => hn (.inr (.inl (by rw [ho]; exact congrArg some e.symm)))), fun _ h => .inl h⟩
/-- Ten cells at once. -/
theorem RepNput {w : World} {B g : Nat} {m : MS} {N : List Nd} {O : List Int} {W : List Wr} {C : List Cr} {G S : List Gft} (h : Rep w B g m N O W C G S) {gn n cap a : Nat} {x : Nd} (hv : m.nv = .slice (some ⟨gn, 0, none⟩) n cap) (hx : N[a]? = some x) (y : Nd) (w' : World)
    (hw : w' = (((((((((w.setCell ⟨gn, a * 10, none⟩ (.int .i64 y.k)).setCell ⟨gn, a * 10 + 1, none⟩ (.string y.t)).setCell ⟨gn, a * 10 + 2, none⟩ (.int .i64 y.n)).setCell ⟨gn, a * 10 + 3, none⟩ (.string y.nm)).setCell ⟨gn, a * 10 + 4, none⟩ (.int .i64 y.ru)).setCell ⟨gn, a * 10 + 5, none⟩ (.int .i64 (y.fi : Int))).setCell ⟨gn, a * 10 + 6, none⟩ (.int .i64 (y.en : Int))).setCell ⟨gn, a * 10 + 7, none⟩ (.pointer (y.st.map fun b => ⟨b, 0, none⟩))).setCell ⟨gn, a * 10 + 8, none⟩ (.int .i64 y.fr)).setCell ⟨gn, a * 10 + 9, none⟩ (.int .i64 y.to)) :
    Rep w' B g m (N.set a y) O W C G S ∧ Fr g m m w w' := by
  have ho : m.nv.ownBlock = some gn := by rw [hv]; rfl
  have ha : a < N.length := (List.getElem?_eq_some_iff.1 hx).1
  have hset : ∀ (z : Nd), (N.set a z)[a]? = some z := fun z => by rw [List.getElem?_set_self ha]
  have r0 := RepNset (y := { x with k := y.k }) (k := 0) h hv hx (by decide) rfl
  have r1 := RepNset (y := { x with k := y.k, t := y.t }) (k := 1) r0 hv (hset _) (by decide) rfl
  rw [List.set_set] at r1
  have r2 := RepNset (y := { x with k := y.k, t := y.t, n := y.n }) (k := 2) r1 hv (hset _) (by decide) rfl
  rw [List.set_set] at r2
  have r3 := RepNset (y := { x with k := y.k, t := y.t, n := y.n, nm := y.nm }) (k := 3) r2 hv (hset _) (by decide) rfl
  rw [List.set_set] at r3
  have r4 := RepNset (y := { x with k := y.k, t := y.t, n := y.n, nm := y.nm, ru := y.ru }) (k := 4) r3 hv (hset _) (by decide) rfl
  rw [List.set_set] at r4
  have r5 := RepNset (y := { x with k := y.k, t := y.t, n := y.n, nm := y.nm, ru := y.ru, fi := y.fi }) (k := 5) r4 hv (hset _) (by decide) rfl
  rw [List.set_set] at r5
  have r6 := RepNset (y := { x with k := y.k, t := y.t, n := y.n, nm := y.nm, ru := y.ru, fi := y.fi, en := y.en }) (k := 6) r5 hv (hset _) (by decide) rfl
  rw [List.set_set] at r6
  have r7 := RepNset (y := { x with k := y.k, t := y.t, n := y.n, nm := y.nm, ru := y.ru, fi := y.fi, en := y.en, st := y.st }) (k := 7) r6 hv (hset _) (by decide) rfl
  rw [List.set_set] at r7
  have r8 := RepNset (y := { x with k := y.k, t := y.t, n := y.n, nm := y.nm, ru := y.ru, fi := y.fi, en := y.en, st := y.st, fr := y.fr }) (k := 8) r7 hv (hset _) (by decide) rfl
  rw [List.set_set] at r8
  have r9 := RepNset (y := y) (k := 9) r8 hv (hset _) (by decide) rfl
  rw [List.set_set] at r9
  have hf : ∀ (W0 : World) (k : Nat) (v : Value), Fr g m m W0 (W0.setCell ⟨gn, k, none⟩ v) := fun W0 k v => FrNset ho k v
  refine ⟨by rw [hw]; exact r9, ?_⟩
  rw [hw]
  exact (hf _ _ _).trans ((hf _ _ _).trans ((hf _ _ _).trans ((hf _ _ _).trans ((hf _ _ _).trans ((hf _ _ _).trans ((hf _ _ _).trans ((hf _ _ _).trans ((hf _ _ _).trans (hf _ _ _)))))))))

theorem Rep.notOwn {w : World} {B g : Nat} {m : MS} {N : List Nd} {O : List Int} {W : List Wr} {C : List Cr} {G S : List Gft} (h : Rep w B g m N O W C G S) {z : Nat} {c : Array Value} (hz : w.heap[z]? = some (.cells c 24 (0, 0))) : ¬ m.owns g z := by
  have key : ∀ {e : TypeId} {cur : Array Value}, w.heap[z]? = some (.cells cur e (0, 0)) → e ≠ 24 → False := fun h1 hne => by
    rw [hz] at h1
    injection h1 with h1
    injection h1 with _ h1
    exact hne h1.symm
  rintro (rfl | x | x | x | x | x | x)
  · exact key h.blk (by decide)
  · obtain ⟨_, q⟩ := h.nodes.type x; exact key q (by decide)
  · obtain ⟨_, q⟩ := h.roots.type x; exact key q (by decide)
  · obtain ⟨_, q⟩ := h.works.type x; exact key q (by decide)
  · obtain ⟨_, q⟩ := h.choices.type x; exact key q (by decide)
  · obtain ⟨_, q⟩ := h.given.type x; exact key q (by decide)
  · obtain ⟨_, q⟩ := h.said.type x; exact key q (by decide)
theorem Fr.box {w w' : World} {B g : Nat} {m m' : MS} {N : List Nd} {O : List Int} {W : List Wr} {C : List Cr} {G S : List Gft} (f : Fr g m m' w w') (h : Rep w B g m N O W C G S) {z : Nat} {c : Array Value} (hz : w.heap[z]? = some (.cells c 24 (0, 0))) : w'.heap[z]? = some (.cells c 24 (0, 0)) :=
  (f.block z (Array.getElem?_eq_some_iff.1 hz).1 (h.notOwn hz)).trans hz
theorem lies_mk {rn : ByteArray → Int} {N : List Nd} {T : PT} {i : Nat} {x : Nd} (h1 : N[i]? = some x) (h2 : x.k = T.k) (h3 : x.t = T.t) (h4 : x.n = T.n) (h5 : (T.k = 21 ∨ T.k = 22 ∨ T.k = 23) → x.nm = T.nm) (h6 : T.k = 24 → x.ru = rn T.nm) (h7 : x.en = x.fi + T.len) (h8 : x.en ≤ 1000000) (h9 : ∀ j, j < T.len → Lies rn N (T.kid j) (x.fi + j)) : Lies rn N T i := by
  obtain ⟨k, t, n, nm, xa, b, o, len, cap, kids⟩ := T
  refine ⟨x, h1, h2, h3, h4, h5, h6, h7, h8, fun j => ?_⟩
  have := h9 j.val j.isLt
  rwa [PT.kid_at (T := .node k t n nm xa b o len cap kids) j.isLt] at this
theorem sumTo_gap (f : Nat → Nat) (hf : ∀ i, 0 < f i) {m n : Nat} (h : m ≤ n) : sumTo f m + (n - m) ≤ sumTo f n := by
  induction n with
  | zero => rw [Nat.le_zero.1 h]; simp
  | succ n ih =>
    rcases Nat.lt_or_ge m (n + 1) with h1 | h1
    · have := ih (by omega)
      have := hf n
      simp only [sumTo]
      omega
    · rw [show m = n + 1 by omega]; omega
end Go.Proofs.YtkggmodabpjobaaDoor
