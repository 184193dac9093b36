/- The reader of patterns: rows of kids; what is made lies in new memory; pieces together. -/
import Derived.Test.YtimbfelbalfmiaaDoorRdE
namespace Go.Proofs.YtimbfelbalfmiaaDoor
open Go.RowKit

theorem pats5s {w : World} {z : Nat} {v0 v1 v2 v3 v4 : Value} (h : w.heap[z]? = some (.cells #[v0, v1, v2, v3, v4] 24 (0, 0))) :
    w.cell? ⟨z, 0, none⟩ = some v0 ∧ w.cell? ⟨z, 1, none⟩ = some v1 ∧ w.cell? ⟨z, 2, none⟩ = some v2 ∧ w.cell? ⟨z, 3, none⟩ = some v3 ∧ w.cell? ⟨z, 4, none⟩ = some v4 := by
  refine ⟨?_, ?_, ?_, ?_, ?_⟩ <;> (rw [cell_of_row _ _ _ _ _ _ h]; rfl)
def patO (T : PT) : Array Value := #[.int .i64 T.k, .string T.t, .int .i64 T.n, .string T.nm, .slice T.xa T.len T.cap]
def zeroP : Array Value := #[.int .i64 0, .string ⟨#[]⟩, .int .i64 0, .string ⟨#[]⟩, .slice none 0 0]
theorem patO_oneC (T : PT) : (patO T).all (·.oneCell') = true := by simp [patO, Value.oneCell']
def five (T : PT) : List Value := [.int .i64 T.k, .string T.t, .int .i64 T.n, .string T.nm, .slice T.xa T.len T.cap]
theorem five_len (T : PT) : (five T).length = 5 := rfl
theorem five_one (T : PT) : ∀ u ∈ five T, u.oneCell' = true := by
  intro u hu
  simp only [five, List.mem_cons, List.not_mem_nil, or_false] at hu
  rcases hu with rfl | rfl | rfl | rfl | rfl <;> rfl
theorem info_pat : (Tryd.prog.info? 24).map (fun i => (i.zero, i.size, i.bytes)) = some (some (.agg zeroP), 5, 72) := by kernel_rfl
theorem row_five {w : World} {B g cap i : Nat} {v : Value} {l : List PT} {x : PT} (h : Row w B 24 5 five v l) (hv : v = .slice (some ⟨g, 0, none⟩) l.length cap) (hx : l[i]? = some x) :
    w.cell? ⟨g, i * 5, none⟩ = some (.int .i64 x.k) ∧ w.cell? ⟨g, i * 5 + 1, none⟩ = some (.string x.t) ∧ w.cell? ⟨g, i * 5 + 2, none⟩ = some (.int .i64 x.n) ∧ w.cell? ⟨g, i * 5 + 3, none⟩ = some (.string x.nm) ∧ w.cell? ⟨g, i * 5 + 4, none⟩ = some (.slice x.xa x.len x.cap) :=
  ⟨h.cell five_len hv hx (k := 0) rfl, h.cell five_len hv hx (k := 1) rfl, h.cell five_len hv hx (k := 2) rfl, h.cell five_len hv hx (k := 3) rfl, h.cell five_len hv hx (k := 4) rfl⟩
/-- A node over a row. -/
def rowN (k : Int) (nm : ByteArray) (g cap : Nat) (L : List PT) : PT := ⟨k, ⟨#[]⟩, 0, nm, some ⟨g, 0, none⟩, g, 0, L.length, cap, fun i => L[i]⟩
theorem rowN_lst (k : Int) (nm : ByteArray) (g cap : Nat) (L : List PT) : (rowN k nm g cap L).lst = L := by unfold PT.lst rowN; exact List.ofFn_getElem
theorem rowN_can (k : Int) (nm : ByteArray) (g cap : Nat) (L : List PT) : (rowN k nm g cap L).can = mkP k ⟨#[]⟩ 0 nm (L.map PT.can) := by
  rw [PT.can_eq, rowN_lst]; rfl
theorem rowN_in {w : World} {B k' g cap : Nat} {L : List PT} {nm : ByteArray} (h : Row w B 24 5 five (.slice (some ⟨g, 0, none⟩) L.length cap) L) (hL : ∀ x ∈ L, x.In w) (k : Int) (hk : k = (k' : Int)) (hk' : k' ≤ 100) (hn : nm.size ≤ 65536) : (rowN k nm g cap L).In w := by
  have hf := h.max
  have hle : L.length ≤ cap := by
    obtain ⟨a, c, e, -, hc⟩ := h.len
    injection e with _ _ e3
    omega
  refine ⟨by rw [hk]; constructor <;> omega, by unfold maxLen; decide, by decide, by unfold maxLen; omega, hf, hle, fun _ => rfl, fun i => ?_⟩
  obtain ⟨x0, x1, x2, x3, x4⟩ := row_five h rfl (i := i.val) (x := L[i]) (List.getElem?_eq_getElem i.isLt)
  simp only [Nat.zero_add]
  exact ⟨⟨x0, x1, x2, x3, x4⟩, hL _ (List.getElem_mem i.isLt)⟩

/-- It lies in what is new since B, and nowhere else. -/
def Lies (B : Nat) (w : World) (U : PT) : Prop := ∀ X : World, (∀ i, B ≤ i → i < w.heap.size → X.heap[i]? = w.heap[i]?) → U.In X
/-- It lies in what is new since B, but for one block. -/
def LiesX (B : Nat) (g : Option Nat) (w : World) (U : PT) : Prop := ∀ X : World, (∀ i, B ≤ i → i < w.heap.size → some i ≠ g → X.heap[i]? = w.heap[i]?) → U.In X
theorem Lies.here {B : Nat} {w : World} {U : PT} (h : Lies B w U) : U.In w := h w fun _ _ _ => rfl
theorem Lies.step {B : Nat} {w w' : World} {U : PT} (h : Lies B w U) (hs : w.heap.size ≤ w'.heap.size) (hb : ∀ i, B ≤ i → i < w.heap.size → w'.heap[i]? = w.heap[i]?) : Lies B w' U :=
  fun X hX => h X fun i h1 h2 => (hX i h1 (by omega)).trans (hb i h1 h2)
theorem Lies.mono {B C : Nat} {w : World} {U : PT} (h : Lies C w U) (hc : B ≤ C) : Lies B w U := fun X hX => h X fun i h1 h2 => hX i (by omega) h2
theorem Lies.below {B : Nat} {w w' : World} {U : PT} (h : Lies B w U) (hb : Below w.heap.size w w') : Lies B w' U := h.step hb.size fun i _ h2 => hb.block i h2
theorem Lies.but {B z : Nat} {w w' : World} {U : PT} (h : Lies B w U) (hb : But z w w') (hz : z < B) : Lies B w' U := h.step hb.size fun i h1 h2 => hb.block i h2 (by omega)
theorem Lies.setRow {B g : Nat} {w : World} {U : PT} (h : Lies B w U) (hg : g < B) (cs : Array Value) : Lies B (w.setRow g cs) U := h.step (by simp) fun i h1 _ => setRow_other w g i cs (by omega)
theorem Lies.except {B C : Nat} {g : Option Nat} {w : World} {U : PT} (h : Lies C w U) (hc : B ≤ C) (hg : ∀ i, g = some i → i < C) : LiesX B g w U := fun X hX => h X fun i h1 h2 => hX i (by omega) h2 fun e => by have := hg i e.symm; omega
theorem LiesX.step {B : Nat} {g : Option Nat} {w w' : World} {U : PT} (h : LiesX B g w U) (hs : w.heap.size ≤ w'.heap.size) (hb : ∀ i, B ≤ i → i < w.heap.size → some i ≠ g → w'.heap[i]? = w.heap[i]?) : LiesX B g w' U :=
  fun X hX => h X fun i h1 h2 h3 => (hX i h1 (by omega) h3).trans (hb i h1 h2 h3)
theorem LiesX.below {B : Nat} {g : Option Nat} {w w' : World} {U : PT} (h : LiesX B g w U) (hb : Below w.heap.size w w') : LiesX B g w' U := h.step hb.size fun i _ h2 _ => hb.block i h2
theorem LiesX.but {B z : Nat} {g : Option Nat} {w w' : World} {U : PT} (h : LiesX B g w U) (hb : But z w w') (hz : z < B) : LiesX B g w' U := h.step hb.size fun i h1 h2 _ => hb.block i h2 (by omega)
theorem LiesX.lies {B : Nat} {g : Option Nat} {w : World} {U : PT} (h : LiesX B g w U) : Lies B w U := fun X hX => h X fun i h1 h2 _ => hX i h1 h2
/-- What an append to the row leaves. -/
theorem LiesX.grown {B : Nat} {g g' : Option Nat} {w w' : World} {U : PT} (h : LiesX B g w U) (hg : w.grownBy w' g) (hn : g' = g ∨ g' = some w.heap.size) : LiesX B g' w' U := fun X hX => h X fun i h1 h2 h3 => by
  refine (hX i h1 (Nat.lt_of_lt_of_le h2 hg.size) ?_).trans (hg.block i h2 h3)
  rcases hn with rfl | rfl
  · exact h3
  · intro e; injection e with e; omega
theorem leaf_lies {B : Nat} {w : World} {k n : Int} {t nm : ByteArray} (hk : 0 ≤ k ∧ k ≤ 100) (hn : 0 ≤ n ∧ n ≤ 100000) (ht : t.size ≤ 65536) (hm : nm.size ≤ 65536) : Lies B w (mkP k t n nm []) := fun X _ =>
  ⟨by constructor <;> omega, by unfold maxLen; omega, by constructor <;> omega, by unfold maxLen; omega, by unfold maxLen; decide, Nat.le_refl _, fun h => absurd h (Nat.lt_irrefl _), fun i => i.elim0⟩
theorem leaf_can (k n : Int) (t nm : ByteArray) : (mkP k t n nm []).can = mkP k t n nm [] := by rw [PT.can_eq, mkP_lst]; rfl
def patL (B : Nat) (p : PT) (e : Ending) (w : World) : Prop := ∃ U : PT, e = .returned (pv U) ∧ U.can = p ∧ Lies B w U
/-- The kids so far, and their row. -/
structure KidsL (B : Nat) (w : World) (v : Value) (L : List PT) (l : List PT) : Prop where
  row : Row w B 24 5 five v L
  can : L.map PT.can = l
  lies : ∀ x ∈ L, LiesX B v.ownBlock w x

/-- What together hands back. -/
def TogU (k : Int) (v : Value) (L : List PT) (U : PT) : Prop := (∃ x, L = [x] ∧ U = x) ∨ (2 ≤ L.length ∧ ∃ g cap, v = .slice (some ⟨g, 0, none⟩) L.length cap ∧ U = rowN k ⟨#[]⟩ g cap L)
theorem togU_can {k : Int} {v : Value} {L : List PT} {U : PT} (h : TogU k v L U) : U.can = togP k (L.map PT.can) := by
  rcases h with ⟨x, rfl, rfl⟩ | ⟨h, g, cap, -, rfl⟩
  · rfl
  · rw [rowN_can]
    match L, h with
    | _ :: _ :: _, _ => rfl
theorem togU_lies {k' B : Nat} {v : Value} {L l : List PT} {U : PT} {w : World} (hk : k' ≤ 100) (h : TogU (k' : Int) v L U) (hK : KidsL B w v L l) : Lies B w U := by
  rcases h with ⟨x, rfl, rfl⟩ | ⟨h, g, cap, rfl, rfl⟩
  · exact (hK.lies U (by simp)).lies
  · intro X hX
    have hlow := hK.row.low (k := g) rfl
    have hr : Row X B 24 5 five (.slice (some ⟨g, 0, none⟩) L.length cap) L := hK.row.same fun k hk => by
      have : k = g := by simpa [Value.ownBlock] using hk.symm
      subst this
      exact hX k hlow.1 hlow.2
    exact rowN_in hr (fun x hx => (hK.lies x hx).lies X hX) (k' : Int) rfl hk (by decide)
set_option maxRecDepth 100000 in
set_option maxHeartbeats 2000000 in
theorem together_any (k : Nat) (v : Value) (L : List PT) (B : Nat) (w : World) (hr : Row w B 24 5 five v L) (hL : L ≠ []) :
    Calls Tryd.prog 22 #[.int .i64 (k : Int), v] w fun e w' => (∃ U, e = .returned (pv U) ∧ TogU (k : Int) v L U) ∧ Below w.heap.size w w' := by
  have hb2 : Below w.heap.size w (w.alloc (.cells zeroP 24)) := (Below.refl _ _).alloc (Nat.le_refl _) _
  have hz : (w.alloc (.cells zeroP 24)).heap[w.heap.size]? = some (.cells zeroP 24 (0, 0)) := at_new rfl
  have HZ := hide (And.intro hz hb2)
  match L, hr, hL with
  | [], _, hL => exact absurd rfl hL
  | [x], hr, _ =>
    obtain ⟨g, cap, rfl, -, -⟩ := hr.form (by simp)
    obtain ⟨x0, x1, x2, x3, x4⟩ := row_five (hr.later hb2) rfl (i := 0) (x := x) rfl
    have hix := idx_run (g := g) (cap := cap) (i := 0) (n := 1) Tryd.underlying22 size_pat (by decide)
    simp only [Nat.zero_mul, Nat.zero_add] at x0 x1 x2 x3 x4
    unfold zeroP at x0 x1 x2 x3 x4
    clear hr hz hb2
    go_enter Tryd.func22, Tryd.ntmps22
    go_wp2_with (first
      | (refine wpList_store_row rfl 24 _ _ rfl w.heap.size (patO x) rfl rfl 24 zeroP (unhide HZ).1 size_pat rfl (patO_oneC x) ?_)
      | fail)
    (try simp only [Exit.inBlock, Exit.then])
    exact bodyPost_ret (results_cell_row rfl _ _ w.heap.size 24 (patO x) (0, 0) _ rfl (setRow_heap _ _ _ _ _ _ (unhide HZ).1) Tryd.underlying24 rfl size_pat) rfl ⟨⟨x, rfl, .inl ⟨x, rfl, rfl⟩⟩, below_setRow (unhide HZ).2 _ (by omega) _⟩
  | x :: y :: L', hr, _ =>
    obtain ⟨g, cap, rfl, -, -⟩ := hr.form (by simp)
    have hm := hr.max
    unfold maxLen at hm
    obtain ⟨n, hn2⟩ : ∃ n, n = (x :: y :: L').length := ⟨_, rfl⟩
    have hge : 2 ≤ n := by rw [hn2]; simp
    have HU := hide (show TogU (k : Int) (.slice (some ⟨g, 0, none⟩) n cap) (x :: y :: L') (rowN (k : Int) ⟨#[]⟩ g cap (x :: y :: L')) from .inr ⟨by simp, g, cap, by rw [hn2], rfl⟩)
    have HPV := hide (show pv (rowN (k : Int) ⟨#[]⟩ g cap (x :: y :: L')) = .agg #[.int .i64 (k : Int), .string ⟨#[]⟩, .int .i64 0, .string ⟨#[]⟩, .slice (some ⟨g, 0, none⟩) n cap] by rw [hn2]; rfl)
    rw [← hn2] at hm ⊢
    have q1 : ((n : Int) == 1) = false := by rw [beq_eq_false_iff_ne]; omega
    clear hr hz hb2 hn2
    generalize rowN (k : Int) ⟨#[]⟩ g cap (x :: y :: L') = U at *
    go_enter Tryd.func22, Tryd.ntmps22
    go_wp2_with (first
      | (refine wpList_store_row rfl 24 _ _ rfl w.heap.size #[.int .i64 (k : Int), .string ⟨#[]⟩, .int .i64 0, .string ⟨#[]⟩, .slice (some ⟨g, 0, none⟩) n cap] rfl rfl 24 zeroP (unhide HZ).1 size_pat rfl (by simp [Value.oneCell']) ?_)
      | fail)
    (try simp only [Exit.inBlock, Exit.then])
    exact bodyPost_ret (results_cell_row rfl _ _ w.heap.size 24 #[.int .i64 (k : Int), .string ⟨#[]⟩, .int .i64 0, .string ⟨#[]⟩, .slice (some ⟨g, 0, none⟩) n cap] (0, 0) _ rfl (setRow_heap _ _ _ _ _ _ (unhide HZ).1) Tryd.underlying24 rfl size_pat) rfl ⟨⟨U, by rw [unhide HPV], unhide HU⟩, below_setRow (unhide HZ).2 _ (by omega) _⟩
end Go.Proofs.YtimbfelbalfmiaaDoor
