/- How the machine lies in memory: a block of nineteen fields and six rows. -/
import Derived.Test.YtkggmodabpjobaaDoorPatSize
import Derived.Test.YtkggmodabpjobaaDoorScanPlain2
import Derived.Maps.AppendAt
namespace Go.Proofs.YtkggmodabpjobaaDoor
open Go.RowKit

/-- Rows of entries, each of as many cells. -/
def flat {α : Type} (f : α → List Value) (l : List α) : List Value := l.flatMap f
section
variable {α : Type} {f : α → List Value} {sz : Nat}
theorem flat_len (hf : ∀ x, (f x).length = sz) (l : List α) : (flat f l).length = l.length * sz := by
  induction l with
  | nil => simp [flat]
  | cons x l ih =>
    show (f x ++ flat f l).length = _
    rw [List.length_append, hf, ih, List.length_cons, Nat.add_mul]; omega
theorem flat_get (hf : ∀ x, (f x).length = sz) : ∀ (l : List α) (i k : Nat) (x : α), l[i]? = some x → k < sz → (flat f l)[i * sz + k]? = (f x)[k]?
  | [], i, k, x, h, _ => by simp at h
  | y :: l, 0, k, x, h, hk => by
    have : y = x := by simpa using h
    subst this
    show (f y ++ flat f l)[0 * sz + k]? = _
    rw [Nat.zero_mul, Nat.zero_add, List.getElem?_append_left (by rw [hf]; exact hk)]
  | y :: l, i + 1, k, x, h, hk => by
    show (f y ++ flat f l)[(i + 1) * sz + k]? = _
    rw [List.getElem?_append_right (by rw [hf, Nat.add_mul]; omega), hf, show (i + 1) * sz + k - sz = i * sz + k by rw [Nat.add_mul]; omega]
    exact flat_get hf l i k x (by simpa using h) hk
theorem flat_take (hf : ∀ x, (f x).length = sz) : ∀ (l : List α) (m : Nat), (flat f l).take (m * sz) = flat f (l.take m)
  | [], m => by simp [flat]
  | y :: l, 0 => by simp [flat]
  | y :: l, m + 1 => by
    show (f y ++ flat f l).take _ = f y ++ flat f (l.take m)
    rw [List.take_append, hf, List.take_of_length_le (by rw [hf, Nat.add_mul]; omega), show (m + 1) * sz - sz = m * sz by rw [Nat.add_mul]; omega, flat_take hf l m]
theorem flat_set (hf : ∀ x, (f x).length = sz) : ∀ (l : List α) (i k : Nat) (x : α) (y : α) (v : Value), l[i]? = some x → k < sz → f y = (f x).set k v → (flat f l).set (i * sz + k) v = flat f (l.set i y)
  | [], i, k, x, y, v, h, _, _ => by simp at h
  | z :: l, 0, k, x, y, v, h, hk, e => by
    have : z = x := by simpa using h
    subst this
    show (f z ++ flat f l).set (0 * sz + k) v = f y ++ flat f l
    rw [Nat.zero_mul, Nat.zero_add, List.set_append_left _ _ (by rw [hf]; exact hk), e]
  | z :: l, i + 1, k, x, y, v, h, hk, e => by
    show (f z ++ flat f l).set ((i + 1) * sz + k) v = f z ++ flat f (l.set i y)
    rw [List.set_append_right _ _ (by rw [hf, Nat.add_mul]; omega), hf, show (i + 1) * sz + k - sz = i * sz + k by rw [Nat.add_mul]; omega, flat_set hf l i k x y v (by simpa using h) hk e]
end
theorem flat_append {α : Type} (f : α → List Value) (a b : List α) : flat f (a ++ b) = flat f a ++ flat f b := by unfold flat; rw [List.flatMap_append]
theorem flat_one {α : Type} (f : α → List Value) (a : α) : flat f [a] = f a := by simp [flat]

/-- A row of the call's own. -/
def Row {α : Type} (w : World) (B : Nat) (e : TypeId) (sz : Nat) (f : α → List Value) (v : Value) (l : List α) : Prop := w.ownsRow B e sz v l.length (flat f l)
section
variable {α : Type} {w w' : World} {B : Nat} {e : TypeId} {sz : Nat} {f : α → List Value} {v : Value} {l : List α}
theorem Row.type (h : Row w B e sz f v l) {k : Nat} (hk : v.ownBlock = some k) : ∃ cur, w.heap[k]? = some (.cells cur e (0, 0)) := by
  rcases h.2 with ⟨rfl, _⟩ | ⟨g, cap, cur, rfl, _, hg, _⟩
  · cases hk
  · cases hk; exact ⟨cur, hg⟩
theorem Row.low (h : Row w B e sz f v l) {k : Nat} (hk : v.ownBlock = some k) : B ≤ k ∧ k < w.heap.size := World.ownsRow.lt h k hk
theorem Row.same (h : Row w B e sz f v l) (hs : ∀ k, v.ownBlock = some k → w'.heap[k]? = w.heap[k]?) : Row w' B e sz f v l := by
  rcases h with ⟨h1, ⟨rfl, h2⟩ | ⟨g, cap, cur, rfl, hb, hg, hr⟩⟩
  · exact ⟨h1, .inl ⟨rfl, h2⟩⟩
  · exact ⟨h1, .inr ⟨g, cap, cur, rfl, hb, (hs g rfl).trans hg, hr⟩⟩
theorem Row.later (h : Row w B e sz f v l) (hb : Below w.heap.size w w') : Row w' B e sz f v l := h.same fun k hk => hb.block k (h.low hk).2
/-- What another row's growing leaves. -/
theorem Row.keep {β : Type} {e' : TypeId} {sz' B' : Nat} {f' : β → List Value} {v' : Value} {l' : List β} (h : Row w B e sz f v l) (h' : Row w B' e' sz' f' v' l') (hne : e ≠ e') (hg : w.grownBy w' v'.ownBlock) : Row w' B e sz f v l :=
  h.same fun k hk => hg.block k (h.low hk).2 fun x => by
    obtain ⟨c1, h1⟩ := h.type hk
    obtain ⟨c2, h2⟩ := h'.type x.symm
    rw [h1] at h2
    injection h2 with h2
    injection h2 with _ h2
    exact hne h2
theorem Row.keepBut {t : TypeId} {g : Nat} {c : Array Value} (h : Row w B e sz f v l) (hg : w.heap[g]? = some (.cells c t (0, 0))) (hne : e ≠ t) (hb : But g w w') : Row w' B e sz f v l :=
  h.same fun k hk => hb.block k (h.low hk).2 fun x => by
    obtain ⟨c1, h1⟩ := h.type hk
    rw [x, hg] at h1
    injection h1 with h1
    injection h1 with _ h1
    exact hne h1.symm
theorem Row.form (h : Row w B e sz f v l) (hl : l ≠ []) : ∃ g cap, v = .slice (some ⟨g, 0, none⟩) l.length cap ∧ l.length ≤ cap ∧ cap ≤ maxLen := by
  rcases h.2 with ⟨_, h0⟩ | ⟨g, cap, cur, rfl, _, _, h1, h2, _⟩
  · exact absurd (List.eq_nil_of_length_eq_zero h0) hl
  · exact ⟨g, cap, rfl, h1, h2⟩
theorem Row.max (h : Row w B e sz f v l) : l.length ≤ maxLen := by
  rcases h.2 with ⟨_, h0⟩ | ⟨g, cap, cur, rfl, _, _, h1, h2, _⟩
  · rw [h0]; exact Nat.zero_le _
  · omega
/-- What comes of its length: as a value. -/
def lenV (v : Value) : Nat := match v with | .slice _ n _ => n | _ => 0
theorem Row.len (h : Row w B e sz f v l) : ∃ a cap, v = .slice a l.length cap ∧ (a = none → cap = 0 ∧ l.length = 0) ∧ l.length ≤ cap := by
  rcases h.2 with ⟨rfl, h0⟩ | ⟨g, cap, cur, rfl, _, _, h1, h2, _⟩
  · exact ⟨none, 0, by rw [h0], fun _ => ⟨rfl, h0⟩, by omega⟩
  · exact ⟨_, cap, rfl, fun h => (by cases h), h1⟩
theorem Row.take (h : Row w B e sz f v l) (hf : ∀ x, (f x).length = sz) {a : Option Addr} {cap m : Nat} (hv : v = .slice a l.length cap) (hm : m ≤ l.length) : Row w B e sz f (.slice a m cap) (l.take m) := by
  have hlm : (l.take m).length = m := by simp; omega
  refine ⟨flat_len hf _, ?_⟩
  rcases h.2 with ⟨h1, h0⟩ | ⟨g, cap', cur, h1, hb, hg, hc, hx, hs, ht⟩
  · rw [hv] at h1
    injection h1 with e1 e2 e3
    have : m = 0 := by omega
    subst this e1 e3
    exact .inl ⟨rfl, by simp⟩
  · rw [hv] at h1
    cases h1
    refine .inr ⟨g, cap, cur, by rw [hlm], hb, hg, by omega, hx, hs, ?_⟩
    rw [hlm, ← flat_take hf l m, ← ht, List.take_take, Nat.min_eq_left (Nat.mul_le_mul_right _ hm)]
theorem Row.cell (h : Row w B e sz f v l) (hf : ∀ x, (f x).length = sz) {g cap i k : Nat} {x : α} {u : Value} (hv : v = .slice (some ⟨g, 0, none⟩) l.length cap) (hx : l[i]? = some x) (hu : (f x)[k]? = some u) : w.cell? ⟨g, i * sz + k, none⟩ = some u := by
  have hk : k < sz := by rw [← hf x]; exact (List.getElem?_eq_some_iff.1 hu).1
  rcases h.2 with ⟨h1, h0⟩ | ⟨g', cap', cur, h1, hb, hg, hc, hm, hs, ht⟩
  · rw [hv] at h1; cases h1
  · rw [hv] at h1; cases h1
    have hi : i < l.length := (List.getElem?_eq_some_iff.1 hx).1
    have hlt : i * sz + k < l.length * sz := by
      have : (i + 1) * sz ≤ l.length * sz := Nat.mul_le_mul_right _ hi
      rw [Nat.add_mul] at this; omega
    rw [cell_of_row _ _ _ _ _ _ hg, ← Array.getElem?_toList]
    have := flat_get hf l i k x hx hk
    rw [← ht, List.getElem?_take, if_pos hlt] at this
    rw [this, hu]
theorem Row.frozen (h : Row w B e sz f v l) {g n cap : Nat} (hv : v = .slice (some ⟨g, 0, none⟩) n cap) (o : Nat) : w.frozen? ⟨g, o, none⟩ = false := by
  rcases h.2 with ⟨h1, h0⟩ | ⟨g', cap', cur, h1, hb, hg, hc, hm, hs, ht⟩
  · rw [hv] at h1; cases h1
  · rw [hv] at h1; cases h1
    exact frozen_of_row w g o _ _ hg
/-- One cell of an entry is stored. -/
theorem Row.set (h : Row w B e sz f v l) (hf : ∀ x, (f x).length = sz) {g n cap i k : Nat} {x y : α} {u : Value} (hv : v = .slice (some ⟨g, 0, none⟩) n cap) (hx : l[i]? = some x) (hk : k < sz) (hy : f y = (f x).set k u) : Row (w.setCell ⟨g, i * sz + k, none⟩ u) B e sz f v (l.set i y) := by
  rcases h.2 with ⟨h1, h0⟩ | ⟨g', cap', cur, h1, hb, hg, hc, hm, hs, ht⟩
  · rw [hv] at h1; cases h1
  · rw [hv] at h1; cases h1
    refine ⟨by rw [flat_len hf], .inr ⟨g, cap, cur.setIfInBounds (i * sz + k) u, ?_, hb, ?_, by simpa using hc, hm, by simpa using hs, ?_⟩⟩
    · rw [hv, List.length_set]
    · exact heap_setCell_same w g (i * sz + k) _ _ u hg
    · rw [List.length_set, ← flat_set hf l i k x y u hx hk hy, ← ht, Array.toList_setIfInBounds, List.take_set]
end

/-- A node of the machine. -/
structure Nd where
  k : Int
  t : ByteArray
  n : Int
  nm : ByteArray
  ru : Int
  fi : Nat
  en : Nat
  st : Option Nat
  fr : Int
  to : Int
def ndV (x : Nd) : List Value := [.int .i64 x.k, .string x.t, .int .i64 x.n, .string x.nm, .int .i64 x.ru, .int .i64 (x.fi : Int), .int .i64 (x.en : Int), .pointer (x.st.map fun b => ⟨b, 0, none⟩), .int .i64 x.fr, .int .i64 x.to]
/-- What is to be done. -/
structure Wr where
  node : Nat
  kid : Nat
  i : Nat
  b : Int
def wrV (x : Wr) : List Value := [.int .i64 (x.node : Int), .int .i64 (x.kid : Int), .int .i64 (x.i : Int), .int .i64 x.b]
/-- A choice. -/
structure Cr where
  node : Nat
  x : Int
  i : Nat
  b : Int
  ws : Nat
  gs : Nat
def crV (x : Cr) : List Value := [.int .i64 (x.node : Int), .int .i64 x.x, .int .i64 (x.i : Int), .int .i64 x.b, .int .i64 (x.ws : Int), .int .i64 (x.gs : Int)]
def gfV (x : Gft) : List Value := [.string x.1, .string x.2]
def inV (x : Int) : List Value := [.int .i64 x]
theorem ndV_len (x : Nd) : (ndV x).length = 10 := rfl
theorem wrV_len (x : Wr) : (wrV x).length = 4 := rfl
theorem crV_len (x : Cr) : (crV x).length = 6 := rfl
theorem gfV_len (x : Gft) : (gfV x).length = 2 := rfl
theorem inV_len (x : Int) : (inV x).length = 1 := rfl

/-- The machine's fields. -/
structure MS where
  s : ByteArray
  rv : Value
  nv : Value
  root : Int
  ro : Value
  begun : Bool
  node : Nat
  i : Nat
  b : Int
  wv : Value
  cv : Value
  gv : Value
  sv : Value
  told : Nat
  room : Nat
  fuel : Nat
  ticks : Nat
  shut : Bool
  err : Int
def MS.row (m : MS) : Array Value := #[.string m.s, m.rv, m.nv, .int .i64 m.root, m.ro, .bool m.begun, .int .i64 (m.node : Int), .int .i64 (m.i : Int), .int .i64 m.b, m.wv, m.cv, m.gv, m.sv, .int .i64 (m.told : Int), .int .i64 (m.room : Int), .int .i64 (m.fuel : Int), .int .i64 (m.ticks : Int), .bool m.shut, .int .i64 m.err]

/-- The machine in memory. -/
structure Rep (w : World) (B g : Nat) (m : MS) (N : List Nd) (O : List Int) (W : List Wr) (C : List Cr) (G S : List Gft) : Prop where
  low : B ≤ g
  blk : w.heap[g]? = some (.cells m.row 54 (0, 0))
  nodes : Row w B 71 10 ndV m.nv N
  roots : Row w B 3 1 inV m.ro O
  works : Row w B 81 4 wrV m.wv W
  choices : Row w B 84 6 crV m.cv C
  given : Row w B 44 2 gfV m.gv G
  said : Row w B 44 2 gfV m.sv S
  apart : ∀ k, m.gv.ownBlock = some k → m.sv.ownBlock ≠ some k
  base : B ≤ w.heap.size

section
variable {w w' : World} {B g : Nat} {m : MS} {N : List Nd} {O : List Int} {W : List Wr} {C : List Cr} {G S : List Gft}
theorem Rep.lt (h : Rep w B g m N O W C G S) : g < w.heap.size := (Array.getElem?_eq_some_iff.1 h.blk).1
theorem Rep.later (h : Rep w B g m N O W C G S) (hb : Below w.heap.size w w') : Rep w' B g m N O W C G S :=
  ⟨h.low, row_below h.blk hb, h.nodes.later hb, h.roots.later hb, h.works.later hb, h.choices.later hb, h.given.later hb, h.said.later hb, h.apart, Nat.le_trans h.base hb.size⟩
theorem Rep.cell (h : Rep w B g m N O W C G S) {k : Nat} {v : Value} (hk : m.row[k]? = some v) : w.cell? ⟨g, k, none⟩ = some v := by rw [cell_of_row w _ _ _ _ _ h.blk, hk]
theorem Rep.frozen (h : Rep w B g m N O W C G S) (k : Nat) : w.frozen? ⟨g, k, none⟩ = false := frozen_of_row w g k _ _ h.blk
theorem Rep.c0 (h : Rep w B g m N O W C G S) : w.cell? ⟨g, 0, none⟩ = some (.string m.s) := h.cell rfl
theorem Rep.c1 (h : Rep w B g m N O W C G S) : w.cell? ⟨g, 1, none⟩ = some (m.rv) := h.cell rfl
theorem Rep.c2 (h : Rep w B g m N O W C G S) : w.cell? ⟨g, 2, none⟩ = some (m.nv) := h.cell rfl
theorem Rep.c3 (h : Rep w B g m N O W C G S) : w.cell? ⟨g, 3, none⟩ = some (.int .i64 m.root) := h.cell rfl
theorem Rep.c4 (h : Rep w B g m N O W C G S) : w.cell? ⟨g, 4, none⟩ = some (m.ro) := h.cell rfl
theorem Rep.c5 (h : Rep w B g m N O W C G S) : w.cell? ⟨g, 5, none⟩ = some (.bool m.begun) := h.cell rfl
theorem Rep.c6 (h : Rep w B g m N O W C G S) : w.cell? ⟨g, 6, none⟩ = some (.int .i64 (m.node : Int)) := h.cell rfl
theorem Rep.c7 (h : Rep w B g m N O W C G S) : w.cell? ⟨g, 7, none⟩ = some (.int .i64 (m.i : Int)) := h.cell rfl
theorem Rep.c8 (h : Rep w B g m N O W C G S) : w.cell? ⟨g, 8, none⟩ = some (.int .i64 m.b) := h.cell rfl
theorem Rep.c9 (h : Rep w B g m N O W C G S) : w.cell? ⟨g, 9, none⟩ = some (m.wv) := h.cell rfl
theorem Rep.c10 (h : Rep w B g m N O W C G S) : w.cell? ⟨g, 10, none⟩ = some (m.cv) := h.cell rfl
theorem Rep.c11 (h : Rep w B g m N O W C G S) : w.cell? ⟨g, 11, none⟩ = some (m.gv) := h.cell rfl
theorem Rep.c12 (h : Rep w B g m N O W C G S) : w.cell? ⟨g, 12, none⟩ = some (m.sv) := h.cell rfl
theorem Rep.c13 (h : Rep w B g m N O W C G S) : w.cell? ⟨g, 13, none⟩ = some (.int .i64 (m.told : Int)) := h.cell rfl
theorem Rep.c14 (h : Rep w B g m N O W C G S) : w.cell? ⟨g, 14, none⟩ = some (.int .i64 (m.room : Int)) := h.cell rfl
theorem Rep.c15 (h : Rep w B g m N O W C G S) : w.cell? ⟨g, 15, none⟩ = some (.int .i64 (m.fuel : Int)) := h.cell rfl
theorem Rep.c16 (h : Rep w B g m N O W C G S) : w.cell? ⟨g, 16, none⟩ = some (.int .i64 (m.ticks : Int)) := h.cell rfl
theorem Rep.c17 (h : Rep w B g m N O W C G S) : w.cell? ⟨g, 17, none⟩ = some (.bool m.shut) := h.cell rfl
theorem Rep.c18 (h : Rep w B g m N O W C G S) : w.cell? ⟨g, 18, none⟩ = some (.int .i64 m.err) := h.cell rfl
/-- A field is stored that is no row. -/
theorem Rep.put (h : Rep w B g m N O W C G S) (k : Nat) (v : Value) (m' : MS) (hr : m.row.setIfInBounds k v = m'.row) (h1 : m'.nv = m.nv) (h2 : m'.ro = m.ro) (h3 : m'.wv = m.wv) (h4 : m'.cv = m.cv) (h5 : m'.gv = m.gv) (h6 : m'.sv = m.sv) : Rep (w.setCell ⟨g, k, none⟩ v) B g m' N O W C G S := by
  have hb : But g w (w.setCell ⟨g, k, none⟩ v) := (But.refl g w).setCell k v
  refine ⟨h.low, by rw [← hr]; exact heap_setCell_same w g k _ _ v h.blk, ?_, ?_, ?_, ?_, ?_, ?_, ?_, ?_⟩
  · rw [h1]; exact h.nodes.keepBut h.blk (by decide) hb
  · rw [h2]; exact h.roots.keepBut h.blk (by decide) hb
  · rw [h3]; exact h.works.keepBut h.blk (by decide) hb
  · rw [h4]; exact h.choices.keepBut h.blk (by decide) hb
  · rw [h5]; exact h.given.keepBut h.blk (by decide) hb
  · rw [h6]; exact h.said.keepBut h.blk (by decide) hb
  · rw [h5, h6]; exact h.apart
  · exact Nat.le_trans h.base hb.size
/-- The works are another row, or a piece of it. -/
theorem Rep.putW (h : Rep w B g m N O W C G S) (v : Value) {W' : List Wr} (hw : Row w B 81 4 wrV v W') : Rep (w.setCell ⟨g, 9, none⟩ v) B g { m with wv := v } N O W' C G S := by
  have hb : But g w (w.setCell ⟨g, 9, none⟩ v) := (But.refl g w).setCell 9 v
  exact ⟨h.low, heap_setCell_same w g 9 _ _ v h.blk, h.nodes.keepBut h.blk (by decide) hb, h.roots.keepBut h.blk (by decide) hb, hw.keepBut h.blk (by decide) hb, h.choices.keepBut h.blk (by decide) hb, h.given.keepBut h.blk (by decide) hb, h.said.keepBut h.blk (by decide) hb, h.apart, Nat.le_trans h.base hb.size⟩
theorem Rep.putC (h : Rep w B g m N O W C G S) (v : Value) {C' : List Cr} (hw : Row w B 84 6 crV v C') : Rep (w.setCell ⟨g, 10, none⟩ v) B g { m with cv := v } N O W C' G S := by
  have hb : But g w (w.setCell ⟨g, 10, none⟩ v) := (But.refl g w).setCell 10 v
  exact ⟨h.low, heap_setCell_same w g 10 _ _ v h.blk, h.nodes.keepBut h.blk (by decide) hb, h.roots.keepBut h.blk (by decide) hb, h.works.keepBut h.blk (by decide) hb, hw.keepBut h.blk (by decide) hb, h.given.keepBut h.blk (by decide) hb, h.said.keepBut h.blk (by decide) hb, h.apart, Nat.le_trans h.base hb.size⟩
theorem Rep.putG (h : Rep w B g m N O W C G S) (v : Value) {G' : List Gft} (hw : Row w B 44 2 gfV v G') (ha : ∀ k, v.ownBlock = some k → m.sv.ownBlock ≠ some k) : Rep (w.setCell ⟨g, 11, none⟩ v) B g { m with gv := v } N O W C G' S := by
  have hb : But g w (w.setCell ⟨g, 11, none⟩ v) := (But.refl g w).setCell 11 v
  exact ⟨h.low, heap_setCell_same w g 11 _ _ v h.blk, h.nodes.keepBut h.blk (by decide) hb, h.roots.keepBut h.blk (by decide) hb, h.works.keepBut h.blk (by decide) hb, h.choices.keepBut h.blk (by decide) hb, hw.keepBut h.blk (by decide) hb, h.said.keepBut h.blk (by decide) hb, ha, Nat.le_trans h.base hb.size⟩
theorem Rep.putS (h : Rep w B g m N O W C G S) (v : Value) {S' : List Gft} (hw : Row w B 44 2 gfV v S') (ha : ∀ k, m.gv.ownBlock = some k → v.ownBlock ≠ some k) : Rep (w.setCell ⟨g, 12, none⟩ v) B g { m with sv := v } N O W C G S' := by
  have hb : But g w (w.setCell ⟨g, 12, none⟩ v) := (But.refl g w).setCell 12 v
  exact ⟨h.low, heap_setCell_same w g 12 _ _ v h.blk, h.nodes.keepBut h.blk (by decide) hb, h.roots.keepBut h.blk (by decide) hb, h.works.keepBut h.blk (by decide) hb, h.choices.keepBut h.blk (by decide) hb, h.given.keepBut h.blk (by decide) hb, hw.keepBut h.blk (by decide) hb, ha, Nat.le_trans h.base hb.size⟩
/-- What an append to one of the rows leaves. -/
theorem grown_blk {e t : TypeId} {c : Array Value} {v : Value} {k : Nat} (hc : w.heap[k]? = some (.cells c t (0, 0))) (hv : ∀ j, v.ownBlock = some j → ∃ cur, w.heap[j]? = some (.cells cur e (0, 0))) (hne : e ≠ t) (hg : w.grownBy w' v.ownBlock) : w'.heap[k]? = some (.cells c t (0, 0)) :=
  (hg.block k (Array.getElem?_eq_some_iff.1 hc).1 fun x => by
    obtain ⟨c2, h2⟩ := hv k x.symm
    rw [hc] at h2
    injection h2 with h2
    injection h2 with _ h2
    exact hne h2.symm).trans hc
end

/-- Where an entry of a slice lies. -/
theorem idx_run {t e : TypeId} {sz g n cap i : Nat} (hu : Tryd.prog.underlying t = some (.slice e)) (hs : (Tryd.prog.info? e).map (·.size) = some sz) (hi : i < n) (w : World) :
    (Instr.indexAt t (.slice (some ⟨g, 0, none⟩) n cap) (.int .i64 (i : Int))).run Tryd.prog w = .ok (.pointer (some ⟨g, i * sz, none⟩)) w := by
  have h0 : (0 : Int) ≤ (i : Int) ∧ (i : Int) < (n : Int) := by omega
  cases hq : Tryd.prog.info? e with
  | none => simp [hq] at hs
  | some x =>
    have hz : x.size = sz := by simpa [hq] using hs
    simp [Instr.indexAt, asIntOf, run_underlying hu, h0, sizeOf, typeInfo, hq, hz, Addr.add_lit]
    intro h
    omega
theorem size_node : (Tryd.prog.info? 71).map (·.size) = some 10 := by kernel_rfl
theorem size_work : (Tryd.prog.info? 81).map (·.size) = some 4 := by kernel_rfl
theorem size_choice : (Tryd.prog.info? 84).map (·.size) = some 6 := by kernel_rfl
theorem size_gift : (Tryd.prog.info? 44).map (·.size) = some 2 := by kernel_rfl
/-- A slice up to a place. -/
theorem cut_run {t e : TypeId} {sz : Nat} {a : Option Addr} {n cap k : Nat} (hu : Tryd.prog.underlying t = some (.slice e)) (hs : (Tryd.prog.info? e).map (·.size) = some sz) (hk : k ≤ n) (hn : n ≤ cap) (ha : ∀ x, a = some x → ∃ b, x = ⟨b, 0, none⟩) (w : World) :
    (Instr.sliceAt t (.slice a n cap) none (some (.int .i64 (k : Int))) none).run Tryd.prog w = .ok (.slice a k cap) w := by
  cases hq : Tryd.prog.info? e with
  | none => simp [hq] at hs
  | some i =>
    have hz : i.size = sz := by simpa [hq] using hs
    have he2 : Tryd.prog.elem t = e := by simp [Program.elem, hu]
    have he : Tryd.prog.underlying t = some (.slice (Tryd.prog.elem t)) := by rw [he2]; exact hu
    rw [run_sliceAt_slice _ _ _ _ _ _ he, run_slice_h _ _ _ _ _ he .i64 (k : Int) (by omega) (by omega), he2]
    cases a with
    | none => simp [sizeOf, typeInfo, sliced, hq, hz]
    | some x =>
      obtain ⟨b, rfl⟩ := ha x rfl
      simp [sizeOf, typeInfo, sliced, hq, hz, Addr.add_lit]
/-- An append of one entry to a row of the call's own. -/
theorem append_row {α : Type} {f : α → List Value} {sz bytes : Nat} {z : Value} {t e : TypeId} (hu : Tryd.prog.underlying t = some (.slice e)) (hinf : (Tryd.prog.info? e).map (fun i => (i.zero, i.size, i.bytes)) = some (some z, sz, bytes)) (hz : z.cells.size = sz) (hsz : 0 < sz) (hby : bytes ≤ 1000) (hf : ∀ x, (f x).length = sz) (h1 : ∀ x, ∀ u ∈ f x, u.oneCell' = true)
    {w : World} {B : Nat} {v : Value} {l : List α} (h : Row w B e sz f v l) (hB : B ≤ w.heap.size) (y : α) (g c : Nat) (hc : ∀ k u, (f y)[k]? = some u → w.cell? ⟨g, k, none⟩ = some u) (hl : l.length ≤ 100000000000) (ty : TypeId) :
    ∃ v' w', (Builtin.append_ #[t, t] ty #[v, .slice (some ⟨g, 0, none⟩) 1 c]).run Tryd.prog w = .ok v' w' ∧ Row w' B e sz f v' (l ++ [y]) ∧ w.grownBy w' v.ownBlock ∧ (v'.ownBlock = v.ownBlock ∨ v'.ownBlock = some w.heap.size) := by
  cases hi : Tryd.prog.info? e with
  | none => simp [hi] at hinf
  | some i =>
    simp only [hi, Option.map_some, Option.some.injEq, Prod.mk.injEq] at hinf
    obtain ⟨hz0, hz1, hz2⟩ := hinf
    have hb : (l.length + 1) * bytes ≤ 140737488355328 := by
      have : (l.length + 1) * bytes ≤ 100000000001 * 1000 := Nat.mul_le_mul (by omega) hby
      omega
    obtain ⟨v', w', hr, h2, h3, -, h5⟩ := run_append_own_at (P := Tryd.prog) w B t ty e i z sz bytes hu hi hz0 hz1 hz2 hz hsz v l.length (flat f l) h ⟨g, 0, none⟩ 1 c (f y) (by rw [hf, Nat.one_mul]) (fun j u hj => by rw [Addr.add_lit, Nat.zero_add]; exact hc j u hj) (h1 y) (by unfold maxLen; omega) hb hB
    refine ⟨v', w', hr, ?_, h3, h5⟩
    unfold Row
    rw [List.length_append, flat_append, flat_one]
    exact h2
theorem step_row {α : Type} {f : α → List Value} {sz bytes : Nat} {z : Value} {t e : TypeId} (hu : Tryd.prog.underlying t = some (.slice e)) (hinf : (Tryd.prog.info? e).map (fun i => (i.zero, i.size, i.bytes)) = some (some z, sz, bytes)) (hz : z.cells.size = sz) (hsz : 0 < sz) (hby : bytes ≤ 1000) (hf : ∀ x, (f x).length = sz) (h1 : ∀ x, ∀ u ∈ f x, u.oneCell' = true)
    {w : World} {ops : Array Oper} {o : Oper} {a : Act} {K : Act → World → Prop} {Q : Exit → Act → World → Prop} {E : Prop} (hgd : o.guard = none) (s x : Operand)
    (ho : o.op = .call { callee := .builtin .append, args := #[s, x], argTypes := #[t, t] }) {B : Nat} {v : Value} {l : List α} (h : Row w B e sz f v l) (hB : B ≤ w.heap.size) (y : α) (g c : Nat) (hs : a.eval s = v) (hx : a.eval x = .slice (some ⟨g, 0, none⟩) 1 c) (hc : ∀ k u, (f y)[k]? = some u → w.cell? ⟨g, k, none⟩ = some u) (hl : l.length ≤ 1000000)
    (hK : ∀ v' w', Row w' B e sz f v' (l ++ [y]) → w.grownBy w' v.ownBlock → (v'.ownBlock = v.ownBlock ∨ v'.ownBlock = some w.heap.size) → K (a.put o.dst v') w') :
    if Region.wanted o (yielded ops a.tmps) = true then Oper.wp Tryd.prog o a w K Q else E := by
  have hw : Region.wanted o (yielded ops a.tmps) = true := by simp [Region.wanted, hgd]
  rw [if_pos hw]
  obtain ⟨v', w', hr, h2, h3, h4⟩ := append_row hu hinf hz hsz hby hf h1 h hB y g c hc (Nat.le_trans hl (by decide)) o.type
  unfold Oper.wp execOp
  simp only [ho, resolve, invoke, builtin, Sem.run_bind, Sem.run_pure, Result.andThen_ok, List.map_toArray, List.map_cons, List.map_nil, hs, hx, hr]
  exact hK v' w' h2 h3 h4
theorem wpList_row {α : Type} {f : α → List Value} {sz bytes : Nat} {z : Value} {t e : TypeId} (hu : Tryd.prog.underlying t = some (.slice e)) (hinf : (Tryd.prog.info? e).map (fun i => (i.zero, i.size, i.bytes)) = some (some z, sz, bytes)) (hz : z.cells.size = sz) (hsz : 0 < sz) (hby : bytes ≤ 1000) (hf : ∀ x, (f x).length = sz) (h1 : ∀ x, ∀ u ∈ f x, u.oneCell' = true)
    {w : World} {ops : Array Oper} {rest : List Oper} {o : Oper} {a : Act} {Q : Exit → Act → World → Prop} (hgd : o.guard = none) (s x : Operand)
    (ho : o.op = .call { callee := .builtin .append, args := #[s, x], argTypes := #[t, t] }) {B : Nat} {v : Value} {l : List α} (h : Row w B e sz f v l) (hB : B ≤ w.heap.size) (y : α) (g c : Nat) (hs : a.eval s = v) (hx : a.eval x = .slice (some ⟨g, 0, none⟩) 1 c) (hc : ∀ k u, (f y)[k]? = some u → w.cell? ⟨g, k, none⟩ = some u) (hl : l.length ≤ 1000000)
    (hK : ∀ v' w', Row w' B e sz f v' (l ++ [y]) → w.grownBy w' v.ownBlock → (v'.ownBlock = v.ownBlock ∨ v'.ownBlock = some w.heap.size) → wpList Tryd.prog ops Q rest (a.put o.dst v') w') : wpList Tryd.prog ops Q (o :: rest) a w := by
  refine wpList_plain hgd fun K hK' => ?_
  obtain ⟨v', w', hr, h2, h3, h4⟩ := append_row hu hinf hz hsz hby hf h1 h hB y g c hc (Nat.le_trans hl (by decide)) o.type
  unfold Oper.wp execOp
  simp only [ho, resolve, invoke, builtin, Sem.run_bind, Sem.run_pure, Result.andThen_ok, List.map_toArray, List.map_cons, List.map_nil, hs, hx, hr]
  exact hK' _ _ (hK v' w' h2 h3 h4)
theorem wpList_rowL {α : Type} {f : α → List Value} {sz bytes : Nat} {z : Value} {t e : TypeId} (hu : Tryd.prog.underlying t = some (.slice e)) (hinf : (Tryd.prog.info? e).map (fun i => (i.zero, i.size, i.bytes)) = some (some z, sz, bytes)) (hz : z.cells.size = sz) (hsz : 0 < sz) (hby : bytes ≤ 1000) (hf : ∀ x, (f x).length = sz) (h1 : ∀ x, ∀ u ∈ f x, u.oneCell' = true)
    {w : World} {ops : Array Oper} {rest : List Oper} {o : Oper} {a : Act} {Q : Exit → Act → World → Prop} (hgd : o.guard = none) (s x : Operand)
    (ho : o.op = .call { callee := .builtin .append, args := #[s, x], argTypes := #[t, t] }) {B : Nat} {v : Value} {l : List α} (h : Row w B e sz f v l) (hB : B ≤ w.heap.size) (y : α) (g c : Nat) (hs : a.eval s = v) (hx : a.eval x = .slice (some ⟨g, 0, none⟩) 1 c) (hc : ∀ k u, (f y)[k]? = some u → w.cell? ⟨g, k, none⟩ = some u) (hl : l.length ≤ 100000000000)
    (hK : ∀ v' w', Row w' B e sz f v' (l ++ [y]) → w.grownBy w' v.ownBlock → (v'.ownBlock = v.ownBlock ∨ v'.ownBlock = some w.heap.size) → wpList Tryd.prog ops Q rest (a.put o.dst v') w') : wpList Tryd.prog ops Q (o :: rest) a w := by
  refine wpList_plain hgd fun K hK' => ?_
  obtain ⟨v', w', hr, h2, h3, h4⟩ := append_row hu hinf hz hsz hby hf h1 h hB y g c hc hl o.type
  unfold Oper.wp execOp
  simp only [ho, resolve, invoke, builtin, Sem.run_bind, Sem.run_pure, Result.andThen_ok, List.map_toArray, List.map_cons, List.map_nil, hs, hx, hr]
  exact hK' _ _ (hK v' w' h2 h3 h4)
theorem ndV_one (x : Nd) : ∀ u ∈ ndV x, u.oneCell' = true := by
  intro u hu
  simp only [ndV, List.mem_cons, List.not_mem_nil, or_false] at hu
  rcases hu with rfl | rfl | rfl | rfl | rfl | rfl | rfl | rfl | rfl | rfl <;> rfl
theorem wrV_one (x : Wr) : ∀ u ∈ wrV x, u.oneCell' = true := by
  intro u hu
  simp only [wrV, List.mem_cons, List.not_mem_nil, or_false] at hu
  rcases hu with rfl | rfl | rfl | rfl <;> rfl
theorem crV_one (x : Cr) : ∀ u ∈ crV x, u.oneCell' = true := by
  intro u hu
  simp only [crV, List.mem_cons, List.not_mem_nil, or_false] at hu
  rcases hu with rfl | rfl | rfl | rfl | rfl | rfl <;> rfl
theorem gfV_one (x : Gft) : ∀ u ∈ gfV x, u.oneCell' = true := by
  intro u hu
  simp only [gfV, List.mem_cons, List.not_mem_nil, or_false] at hu
  rcases hu with rfl | rfl <;> rfl
theorem info_choice : (Tryd.prog.info? 84).map (fun i => (i.zero, i.size, i.bytes)) = some (some (.agg #[.int .i64 0, .int .i64 0, .int .i64 0, .int .i64 0, .int .i64 0, .int .i64 0]), 6, 48) := by kernel_rfl
theorem info_work : (Tryd.prog.info? 81).map (fun i => (i.zero, i.size, i.bytes)) = some (some (.agg #[.int .i64 0, .int .i64 0, .int .i64 0, .int .i64 0]), 4, 32) := by kernel_rfl
theorem info_gift : (Tryd.prog.info? 44).map (fun i => (i.zero, i.size, i.bytes)) = some (some (.agg #[.string ⟨#[]⟩, .string ⟨#[]⟩]), 2, 32) := by kernel_rfl
/-- The cells of a block that is just made. -/
theorem made_cells {w : World} {g : Nat} {c : Array Value} {t : TypeId} (h : w.heap[g]? = some (.cells c t (0, 0))) {l : List Value} (hl : c.toList = l) : ∀ k u, l[k]? = some u → w.cell? ⟨g, k, none⟩ = some u := fun k u hk => by
  rw [cell_of_row _ _ _ _ _ _ h, ← Array.getElem?_toList, hl, hk]
/-- A cell of the machine's block behind a row's growing. -/
theorem Rep.grownC {w w' : World} {B g : Nat} {m : MS} {N : List Nd} {O : List Int} {W : List Wr} {C : List Cr} {G S : List Gft} {v : Value} {l : List Cr} (h : Rep w B g m N O W C G S) (hg : w.grownBy w' m.cv.ownBlock) (hr : Row w' B 84 6 crV v l) : Rep (w'.setCell ⟨g, 10, none⟩ v) B g { m with cv := v } N O W l G S := by
  have hb : w'.heap[g]? = some (.cells m.row 54 (0, 0)) := grown_blk h.blk (fun j hj => h.choices.type hj) (by decide) hg
  have hBut : But g w' (w'.setCell ⟨g, 10, none⟩ v) := (But.refl g w').setCell 10 v
  exact ⟨h.low, heap_setCell_same w' g 10 _ _ v hb, (h.nodes.keep h.choices (by decide) hg).keepBut hb (by decide) hBut, (h.roots.keep h.choices (by decide) hg).keepBut hb (by decide) hBut, (h.works.keep h.choices (by decide) hg).keepBut hb (by decide) hBut, hr.keepBut hb (by decide) hBut, (h.given.keep h.choices (by decide) hg).keepBut hb (by decide) hBut, (h.said.keep h.choices (by decide) hg).keepBut hb (by decide) hBut, h.apart, Nat.le_trans h.base (Nat.le_trans hg.size hBut.size)⟩
theorem Rep.grownW {w w' : World} {B g : Nat} {m : MS} {N : List Nd} {O : List Int} {W : List Wr} {C : List Cr} {G S : List Gft} {v : Value} {l : List Wr} (h : Rep w B g m N O W C G S) (hg : w.grownBy w' m.wv.ownBlock) (hr : Row w' B 81 4 wrV v l) : Rep (w'.setCell ⟨g, 9, none⟩ v) B g { m with wv := v } N O l C G S := by
  have hb : w'.heap[g]? = some (.cells m.row 54 (0, 0)) := grown_blk h.blk (fun j hj => h.works.type hj) (by decide) hg
  have hBut : But g w' (w'.setCell ⟨g, 9, none⟩ v) := (But.refl g w').setCell 9 v
  exact ⟨h.low, heap_setCell_same w' g 9 _ _ v hb, (h.nodes.keep h.works (by decide) hg).keepBut hb (by decide) hBut, (h.roots.keep h.works (by decide) hg).keepBut hb (by decide) hBut, hr.keepBut hb (by decide) hBut, (h.choices.keep h.works (by decide) hg).keepBut hb (by decide) hBut, (h.given.keep h.works (by decide) hg).keepBut hb (by decide) hBut, (h.said.keep h.works (by decide) hg).keepBut hb (by decide) hBut, h.apart, Nat.le_trans h.base (Nat.le_trans hg.size hBut.size)⟩
theorem Row.apartKeep {w w' : World} {B : Nat} {e : TypeId} {sz : Nat} {α : Type} {f : α → List Value} {v v' : Value} {l : List α} (h : Row w B e sz f v l) (ha : ∀ k, v.ownBlock = some k → v'.ownBlock ≠ some k) (hg : w.grownBy w' v'.ownBlock) : Row w' B e sz f v l :=
  h.same fun k hk => hg.block k (h.low hk).2 fun x => ha k hk x.symm
theorem Rep.grownG {w w' : World} {B g : Nat} {m : MS} {N : List Nd} {O : List Int} {W : List Wr} {C : List Cr} {G S : List Gft} {v : Value} {l : List Gft} (h : Rep w B g m N O W C G S) (hg : w.grownBy w' m.gv.ownBlock) (hr : Row w' B 44 2 gfV v l) (hv : v.ownBlock = m.gv.ownBlock ∨ v.ownBlock = some w.heap.size) : Rep (w'.setCell ⟨g, 11, none⟩ v) B g { m with gv := v } N O W C l S := by
  have hb : w'.heap[g]? = some (.cells m.row 54 (0, 0)) := grown_blk h.blk (fun j hj => h.given.type hj) (by decide) hg
  have hBut : But g w' (w'.setCell ⟨g, 11, none⟩ v) := (But.refl g w').setCell 11 v
  refine ⟨h.low, heap_setCell_same w' g 11 _ _ v hb, (h.nodes.keep h.given (by decide) hg).keepBut hb (by decide) hBut, (h.roots.keep h.given (by decide) hg).keepBut hb (by decide) hBut, (h.works.keep h.given (by decide) hg).keepBut hb (by decide) hBut, (h.choices.keep h.given (by decide) hg).keepBut hb (by decide) hBut, hr.keepBut hb (by decide) hBut, (h.said.apartKeep (fun k hk x => h.apart k x hk) hg).keepBut hb (by decide) hBut, fun k hk hs => ?_, Nat.le_trans h.base (Nat.le_trans hg.size hBut.size)⟩
  rcases hv with e | e
  · exact h.apart k (e ▸ hk) hs
  · have := (h.said.low hs).2
    rw [show (MS.gv { m with gv := v }) = v from rfl, e] at hk
    injection hk with hk
    omega
theorem Rep.grownS {w w' : World} {B g : Nat} {m : MS} {N : List Nd} {O : List Int} {W : List Wr} {C : List Cr} {G S : List Gft} {v : Value} {l : List Gft} (h : Rep w B g m N O W C G S) (hg : w.grownBy w' m.sv.ownBlock) (hr : Row w' B 44 2 gfV v l) (hv : v.ownBlock = m.sv.ownBlock ∨ v.ownBlock = some w.heap.size) : Rep (w'.setCell ⟨g, 12, none⟩ v) B g { m with sv := v } N O W C G l := by
  have hb : w'.heap[g]? = some (.cells m.row 54 (0, 0)) := grown_blk h.blk (fun j hj => h.said.type hj) (by decide) hg
  have hBut : But g w' (w'.setCell ⟨g, 12, none⟩ v) := (But.refl g w').setCell 12 v
  refine ⟨h.low, heap_setCell_same w' g 12 _ _ v hb, (h.nodes.keep h.said (by decide) hg).keepBut hb (by decide) hBut, (h.roots.keep h.said (by decide) hg).keepBut hb (by decide) hBut, (h.works.keep h.said (by decide) hg).keepBut hb (by decide) hBut, (h.choices.keep h.said (by decide) hg).keepBut hb (by decide) hBut, (h.given.apartKeep h.apart hg).keepBut hb (by decide) hBut, hr.keepBut hb (by decide) hBut, fun k hk hs => ?_, Nat.le_trans h.base (Nat.le_trans hg.size hBut.size)⟩
  rcases hv with e | e
  · exact h.apart k hk (e ▸ hs)
  · have := (h.given.low hk).2
    rw [show (MS.sv { m with sv := v }) = v from rfl, e] at hs
    injection hs with hs
    omega
/-- What lies below is as it was. -/
theorem below_grown {B : Nat} {a w w' : World} {α : Type} {e : TypeId} {sz : Nat} {f : α → List Value} {v : Value} {l : List α} (h : Below B a w) (hr : Row w B e sz f v l) (hB : B ≤ a.heap.size) (hg : w.grownBy w' v.ownBlock) : Below B a w' :=
  ⟨hg.os.trans h.os, hg.tape.trans h.tape, hg.output.trans h.output, Nat.le_trans h.size hg.size, fun k hk => (hg.block k (by have := h.size; omega) fun x => by have := (hr.low x.symm).1; omega).trans (h.block k hk)⟩
theorem below_cell {B g : Nat} {a w : World} (h : Below B a w) (hg : B ≤ g) (k : Nat) (v : Value) : Below B a (w.setCell ⟨g, k, none⟩ v) :=
  ⟨h.os, h.tape, h.output, by simpa using h.size, fun i hi => (heap_setCell_other w ⟨g, k, none⟩ i v (by show i ≠ g; omega)).trans (h.block i hi)⟩
theorem Row.neBlk {w : World} {B : Nat} {e t : TypeId} {sz : Nat} {α : Type} {f : α → List Value} {v : Value} {l : List α} (h : Row w B e sz f v l) {g : Nat} {c : Array Value} (hg : w.heap[g]? = some (.cells c t (0, 0))) (hne : e ≠ t) : some g ≠ v.ownBlock := fun x => by
  obtain ⟨c1, h1⟩ := h.type x.symm
  rw [hg] at h1
  injection h1 with h1
  injection h1 with _ h1
  exact hne h1.symm
theorem bel_trans {B : Nat} {a b c : World} (h : Below B a b) (k : Below B b c) (_hB : B ≤ a.heap.size) : Below B a c :=
  ⟨k.os.trans h.os, k.tape.trans h.tape, k.output.trans h.output, Nat.le_trans h.size k.size, fun i hi => (k.block i hi).trans (h.block i hi)⟩
theorem Row.zeroAt {w : World} {B : Nat} {e : TypeId} {sz : Nat} {α : Type} {f : α → List Value} {v : Value} {l : List α} (h : Row w B e sz f v l) {a : Option Addr} {n cap : Nat} (hv : v = .slice a n cap) : ∀ x, a = some x → ∃ b, x = ⟨b, 0, none⟩ := by
  intro x hx
  rcases h.2 with ⟨h1, h0⟩ | ⟨g, cap', cur, h1, _⟩
  · rw [hv, hx] at h1; cases h1
  · rw [hv, hx] at h1
    injection h1 with h1
    injection h1 with h1
    exact ⟨g, h1⟩

/-- The blocks that the machine has. -/
def MS.owns (m : MS) (g k : Nat) : Prop := k = g ∨ m.nv.ownBlock = some k ∨ m.ro.ownBlock = some k ∨ m.wv.ownBlock = some k ∨ m.cv.ownBlock = some k ∨ m.gv.ownBlock = some k ∨ m.sv.ownBlock = some k
/-- Nothing else has changed, and what it has now it had, or is new. -/
structure Fr (g : Nat) (m m' : MS) (w w' : World) : Prop where
  os : w'.os = w.os
  tape : w'.tape = w.tape
  output : w'.output = w.output
  size : w.heap.size ≤ w'.heap.size
  block : ∀ k, k < w.heap.size → ¬ m.owns g k → w'.heap[k]? = w.heap[k]?
  own : ∀ k, m'.owns g k → m.owns g k ∨ w.heap.size ≤ k
theorem Fr.refl (g : Nat) (m : MS) (w : World) : Fr g m m w w := ⟨rfl, rfl, rfl, Nat.le_refl _, fun _ _ _ => rfl, fun _ h => .inl h⟩
theorem Fr.trans {g : Nat} {m1 m2 m3 : MS} {a b c : World} (h : Fr g m1 m2 a b) (k : Fr g m2 m3 b c) : Fr g m1 m3 a c :=
  ⟨k.os.trans h.os, k.tape.trans h.tape, k.output.trans h.output, Nat.le_trans h.size k.size, fun i hi hn => (k.block i (Nat.lt_of_lt_of_le hi h.size) fun x => by
    rcases h.own i x with y | y
    · exact hn y
    · omega).trans (h.block i hi hn), fun i hi => by
    rcases k.own i hi with y | y
    · exact h.own i y
    · exact .inr (Nat.le_trans h.size y)⟩
theorem Fr.later {g : Nat} {m : MS} {a b : World} (h : Below a.heap.size a b) : Fr g m m a b := ⟨h.os, h.tape, h.output, h.size, fun k hk _ => h.block k hk, fun _ h => .inl h⟩
theorem Fr.cell {g : Nat} {m m' : MS} {w : World} (k : Nat) (v : Value) (h1 : m'.nv = m.nv) (h2 : m'.ro = m.ro) (h3 : m'.wv = m.wv) (h4 : m'.cv = m.cv) (h5 : m'.gv = m.gv) (h6 : m'.sv = m.sv) : Fr g m m' w (w.setCell ⟨g, k, none⟩ v) :=
  ⟨rfl, rfl, rfl, by simp, fun i _ hn => heap_setCell_other w ⟨g, k, none⟩ i v (fun e => hn (.inl e)), fun i hi => .inl (by unfold MS.owns at *; rw [h1, h2, h3, h4, h5, h6] at hi; exact hi)⟩
theorem Fr.below {w w' : World} {B g : Nat} {m m' : MS} {N : List Nd} {O : List Int} {W : List Wr} {C : List Cr} {G S : List Gft} (h : Rep w B g m N O W C G S) (f : Fr g m m' w w') : Below B w w' :=
  ⟨f.os, f.tape, f.output, f.size, fun k hk => f.block k (Nat.lt_of_lt_of_le hk h.base) fun x => by
    have hl := h.low
    rcases x with x | x | x | x | x | x | x
    · omega
    · have := (h.nodes.low x).1; omega
    · have := (h.roots.low x).1; omega
    · have := (h.works.low x).1; omega
    · have := (h.choices.low x).1; omega
    · have := (h.given.low x).1; omega
    · have := (h.said.low x).1; omega⟩
/-- A row has grown, and its new value is stored. -/
theorem fr_grow {g : Nat} {m m' : MS} {w w' : World} {o v : Value} (k : Nat) (hg : w.grownBy w' o.ownBlock) (ho : ∀ i, o.ownBlock = some i → m.owns g i) (hv : v.ownBlock = o.ownBlock ∨ v.ownBlock = some w.heap.size)
    (hm : ∀ i, m'.owns g i → m.owns g i ∨ v.ownBlock = some i) : Fr g m m' w (w'.setCell ⟨g, k, none⟩ v) :=
  ⟨hg.os, hg.tape, hg.output, by simpa using hg.size, fun i hi hn => (heap_setCell_other w' ⟨g, k, none⟩ i v (fun e => hn (.inl e))).trans (hg.block i hi fun e => hn (ho i e.symm)), fun i hi => by
    rcases hm i hi with x | x
    · exact .inl x
    · rcases hv with y | y
      · exact .inl (ho i (y ▸ x))
      · rw [y] at x; injection x with x; exact .inr (by omega)⟩
theorem Fr.growC {g : Nat} {m : MS} {w w' : World} {v : Value} (hg : w.grownBy w' m.cv.ownBlock) (hv : v.ownBlock = m.cv.ownBlock ∨ v.ownBlock = some w.heap.size) : Fr g m { m with cv := v } w (w'.setCell ⟨g, 10, none⟩ v) :=
  fr_grow 10 hg (fun i h => .inr (.inr (.inr (.inr (.inl h))))) hv fun i h => by
    rcases h with x | x | x | x | x | x | x
    · exact .inl (.inl x)
    · exact .inl (.inr (.inl x))
    · exact .inl (.inr (.inr (.inl x)))
    · exact .inl (.inr (.inr (.inr (.inl x))))
    · exact .inr x
    · exact .inl (.inr (.inr (.inr (.inr (.inr (.inl x))))))
    · exact .inl (.inr (.inr (.inr (.inr (.inr (.inr x))))))
theorem Fr.growW {g : Nat} {m : MS} {w w' : World} {v : Value} (hg : w.grownBy w' m.wv.ownBlock) (hv : v.ownBlock = m.wv.ownBlock ∨ v.ownBlock = some w.heap.size) : Fr g m { m with wv := v } w (w'.setCell ⟨g, 9, none⟩ v) :=
  fr_grow 9 hg (fun i h => .inr (.inr (.inr (.inl h)))) hv fun i h => by
    rcases h with x | x | x | x | x | x | x
    · exact .inl (.inl x)
    · exact .inl (.inr (.inl x))
    · exact .inl (.inr (.inr (.inl x)))
    · exact .inr x
    · exact .inl (.inr (.inr (.inr (.inr (.inl x)))))
    · exact .inl (.inr (.inr (.inr (.inr (.inr (.inl x))))))
    · exact .inl (.inr (.inr (.inr (.inr (.inr (.inr x))))))
theorem Fr.growG {g : Nat} {m : MS} {w w' : World} {v : Value} (hg : w.grownBy w' m.gv.ownBlock) (hv : v.ownBlock = m.gv.ownBlock ∨ v.ownBlock = some w.heap.size) : Fr g m { m with gv := v } w (w'.setCell ⟨g, 11, none⟩ v) :=
  fr_grow 11 hg (fun i h => .inr (.inr (.inr (.inr (.inr (.inl h)))))) hv fun i h => by
    rcases h with x | x | x | x | x | x | x
    · exact .inl (.inl x)
    · exact .inl (.inr (.inl x))
    · exact .inl (.inr (.inr (.inl x)))
    · exact .inl (.inr (.inr (.inr (.inl x))))
    · exact .inl (.inr (.inr (.inr (.inr (.inl x)))))
    · exact .inr x
    · exact .inl (.inr (.inr (.inr (.inr (.inr (.inr x))))))
theorem Fr.growS {g : Nat} {m : MS} {w w' : World} {v : Value} (hg : w.grownBy w' m.sv.ownBlock) (hv : v.ownBlock = m.sv.ownBlock ∨ v.ownBlock = some w.heap.size) : Fr g m { m with sv := v } w (w'.setCell ⟨g, 12, none⟩ v) :=
  fr_grow 12 hg (fun i h => .inr (.inr (.inr (.inr (.inr (.inr h)))))) hv fun i h => by
    rcases h with x | x | x | x | x | x | x
    · exact .inl (.inl x)
    · exact .inl (.inr (.inl x))
    · exact .inl (.inr (.inr (.inl x)))
    · exact .inl (.inr (.inr (.inr (.inl x))))
    · exact .inl (.inr (.inr (.inr (.inr (.inl x)))))
    · exact .inl (.inr (.inr (.inr (.inr (.inr (.inl x))))))
    · exact .inr x
/-- A cell of the choices is stored. -/
theorem RepCset {w : World} {B g : Nat} {m : MS} {N : List Nd} {O : List Int} {W : List Wr} {C C' : List Cr} {G S : List Gft} (h : Rep w B g m N O W C G S) {gc : Nat} (ho : m.cv.ownBlock = some gc) (k : Nat) (v : Value) (hr : Row (w.setCell ⟨gc, k, none⟩ v) B 84 6 crV m.cv C') : Rep (w.setCell ⟨gc, k, none⟩ v) B g m N O W C' G S := by
  obtain ⟨cur, hcur⟩ := h.choices.type ho
  have hb : But gc w (w.setCell ⟨gc, k, none⟩ v) := (But.refl gc w).setCell k v
  have hne : g ≠ gc := fun e => h.choices.neBlk h.blk (by decide) (by rw [ho, e])
  exact ⟨h.low, hb.row hne h.blk, h.nodes.keepBut hcur (by decide) hb, h.roots.keepBut hcur (by decide) hb, h.works.keepBut hcur (by decide) hb, hr, h.given.keepBut hcur (by decide) hb, h.said.keepBut hcur (by decide) hb, h.apart, Nat.le_trans h.base hb.size⟩
theorem FrCset {w : World} {g : Nat} {m : MS} {gc : Nat} (ho : m.cv.ownBlock = some gc) (k : Nat) (v : Value) : Fr g m m w (w.setCell ⟨gc, k, none⟩ v) :=
  ⟨rfl, rfl, rfl, by simp, fun i _ hn => heap_setCell_other w ⟨gc, k, none⟩ i v (fun e => hn (.inr (.inr (.inr (.inr (.inl (by rw [ho]; exact congrArg some e.symm))))))), fun _ h => .inl h⟩
/-- The choices are another row that lies in the same block. -/
theorem FrC {w : World} {g : Nat} {m : MS} {v : Value} (ho : v.ownBlock = m.cv.ownBlock) : Fr g m { m with cv := v } w (w.setCell ⟨g, 10, none⟩ v) :=
  fr_grow 10 (w' := w) (o := m.cv) ⟨rfl, rfl, rfl, Nat.le_refl _, fun _ _ _ => rfl⟩ (fun i h => .inr (.inr (.inr (.inr (.inl h))))) (.inl ho) fun i h => by
    rcases h with x | x | x | x | x | x | x
    · exact .inl (.inl x)
    · exact .inl (.inr (.inl x))
    · exact .inl (.inr (.inr (.inl x)))
    · exact .inl (.inr (.inr (.inr (.inl x))))
    · exact .inr x
    · exact .inl (.inr (.inr (.inr (.inr (.inr (.inl x))))))
    · exact .inl (.inr (.inr (.inr (.inr (.inr (.inr x))))))
theorem Row.neRow {w : World} {B B' : Nat} {e e' : TypeId} {sz sz' : Nat} {α β : Type} {f : α → List Value} {f' : β → List Value} {v v' : Value} {l : List α} {l' : List β} (h : Row w B e sz f v l) (h' : Row w B' e' sz' f' v' l') (hne : e ≠ e') {a b n n' c c' : Nat} (hv : v = .slice (some ⟨a, 0, none⟩) n c) (hv' : v' = .slice (some ⟨b, 0, none⟩) n' c') : ¬ a = b := fun x => by
  obtain ⟨c1, h1⟩ := h.type (k := a) (by rw [hv]; rfl)
  obtain ⟨c2, h2⟩ := h'.type (k := b) (by rw [hv']; rfl)
  rw [← x, h1] at h2
  injection h2 with h2
  injection h2 with _ h2
  exact hne h2
end Go.Proofs.YtkggmodabpjobaaDoor
