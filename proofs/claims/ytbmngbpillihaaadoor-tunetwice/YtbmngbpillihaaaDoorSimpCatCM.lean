/- Kids made simpler, in a row that grows. What tune.catOf hands back. -/
import Derived.Test.YtbmngbpillihaaaDoorSimpArbM
import Derived.Test.YtbmngbpillihaaaDoorSimpFewCP
namespace Go.Proofs.YtbmngbpillihaaaDoor
open Go.RowKit

/-- A pattern lies in blocks from lo to hi, and the row's own block is none of them. -/
def Rests (w : World) (B : Nat) (v : Value) (U : PT) : Prop := ∃ lo hi, B ≤ lo ∧ hi ≤ w.heap.size ∧ (∀ k, v.ownBlock = some k → k < lo ∨ hi ≤ k) ∧ ∀ X : World, (∀ i, lo ≤ i → i < hi → X.heap[i]? = w.heap[i]?) → U.In X
theorem Rests.later {w w' : World} {B : Nat} {v : Value} {U : PT} (h : Rests w B v U) (hb : Below w.heap.size w w') : Rests w' B v U := by
  obtain ⟨lo, hi, h1, h2, h3, h4⟩ := h
  exact ⟨lo, hi, h1, Nat.le_trans h2 hb.size, h3, fun X hX => h4 X fun i a b => (hX i a b).trans (hb.block i (by omega))⟩
theorem Rests.grown {w w' : World} {B : Nat} {v v' : Value} {U : PT} (h : Rests w B v U) (hg : w.grownBy w' v.ownBlock) (hown : v'.ownBlock = v.ownBlock ∨ v'.ownBlock = some w.heap.size) : Rests w' B v' U := by
  obtain ⟨lo, hi, h1, h2, h3, h4⟩ := h
  refine ⟨lo, hi, h1, Nat.le_trans h2 hg.size, fun k hk => ?_, fun X hX => h4 X fun i a b => (hX i a b).trans (hg.block i (by omega) fun e => ?_)⟩
  · rcases hown with e | e
    · exact h3 k (e ▸ hk)
    · rw [e] at hk
      injection hk with hk
      right; omega
  · have := h3 i e.symm
    omega
structure KidsAt (w : World) (B : Nat) (v : Value) (Us : List PT) : Prop where
  row : Row w B 24 5 five v Us
  lie : ∀ U ∈ Us, Rests w B v U
theorem KidsAt.nil (w : World) (B : Nat) : KidsAt w B (.slice none 0 0) [] := ⟨World.ownsRow_nil _ _ _ 5, fun U hU => by cases hU⟩
theorem KidsAt.later {w w' : World} {B : Nat} {v : Value} {Us : List PT} (h : KidsAt w B v Us) (hb : Below w.heap.size w w') : KidsAt w' B v Us := ⟨h.row.later hb, fun U hU => (h.lie U hU).later hb⟩
theorem KidsAt.put {w w1 w2 w' : World} {B : Nat} {v v' : Value} {Us : List PT} {U : PT} (h : KidsAt w B v Us) (hB : B ≤ w.heap.size) (hb : Below w.heap.size w w1) (hU : ∀ X : World, (∀ i, w.heap.size ≤ i → i < w1.heap.size → X.heap[i]? = w1.heap[i]?) → U.In X) (hb2 : Below w1.heap.size w1 w2) (hr : Row w' B 24 5 five v' (Us ++ [U])) (hg : w2.grownBy w' v.ownBlock) (hown : v'.ownBlock = v.ownBlock ∨ v'.ownBlock = some w2.heap.size) : KidsAt w' B v' (Us ++ [U]) := by
  have h2 := (h.later hb).later hb2
  refine ⟨hr, fun x hx => ?_⟩
  rcases List.mem_append.1 hx with hx | hx
  · exact (h2.lie x hx).grown hg hown
  · rw [List.mem_singleton.1 hx]
    have : Rests w1 B v U := ⟨w.heap.size, w1.heap.size, hB, Nat.le_refl _, fun k hk => .inl (h.row.low hk).2, hU⟩
    exact (this.later hb2).grown hg hown
/-- The row's patterns, as the kids of one. -/
theorem KidsAt.pt {w : World} {B : Nat} {v : Value} {Us : List PT} (h : KidsAt w B v Us) : ∃ K : PT, v = .slice K.xa K.len K.cap ∧ K.lst = Us ∧ ∀ X : World, (∀ i, B ≤ i → i < w.heap.size → X.heap[i]? = w.heap[i]?) → K.In X := by
  match Us, h with
  | [], h =>
    obtain ⟨a, c, rfl, -, -⟩ := h.row.len
    refine ⟨⟨0, ⟨#[]⟩, 0, ⟨#[]⟩, a, 0, 0, 0, c, fun i => i.elim0⟩, rfl, rfl, fun X _ => ⟨by decide, by unfold maxLen; decide, by decide, by unfold maxLen; decide, by unfold maxLen; decide, Nat.zero_le _, fun h => absurd h (by decide), fun i => i.elim0⟩⟩
  | x :: l, h =>
    obtain ⟨g, cap, rfl, -, -⟩ := h.row.form (by simp)
    refine ⟨rowP ((0 : Nat) : Int) g cap (x :: l), rfl, rowP_lst _ _ _ _, fun X hX => rowP_in (B := B) (k' := 0) (h.row.same fun k hk => hX k (h.row.low hk).1 (h.row.low hk).2) (fun y hy => ?_) _ rfl (by decide)⟩
    obtain ⟨lo, hi, h1, h2, h3, h4⟩ := h.lie y hy
    exact h4 X fun i a b => hX i (by omega) (by omega)
/-- The same kids, another kind and a name. -/
def nmP (k : Int) (nm : ByteArray) (K : PT) : PT := ⟨k, ⟨#[]⟩, 0, nm, K.xa, K.b, K.o, K.len, K.cap, K.kids⟩
theorem nmP_can (k : Int) (nm : ByteArray) (K : PT) : (nmP k nm K).can = (mkP k ⟨#[]⟩ 0 nm K.lst).can := by rw [PT.can_eq, PT.can_eq, mkP_lst]; rfl
theorem nmP_in {w : World} {K : PT} (h : K.In w) (k : Nat) (hk : k ≤ 100) {nm : ByteArray} (hn : nm.size ≤ maxLen) : (nmP (k : Int) nm K).In w := by
  cases K
  exact ⟨by constructor <;> omega, by unfold maxLen; decide, by decide, hn, h.2.2.2.2.1, h.2.2.2.2.2.1, h.2.2.2.2.2.2.1, h.2.2.2.2.2.2.2⟩
/-- What is made of kids, out of new memory alone. -/
theorem gives_new {F : List PT} {S S' : PT} {w W w' w'' : World} {B : Nat} {e : Ending} (h : GivesP F S W e w') (hS : S.can = S'.can) (hB : B = w.heap.size) (hs : w'.heap.size ≤ w''.heap.size) (hw : ∀ i, B + 2 ≤ i → i < w'.heap.size → w''.heap[i]? = w'.heap[i]?) (hb2 : Below B w w'') (hF2 : ∀ X : World, (∀ i, w.heap.size + 2 ≤ i → i < W.heap.size → X.heap[i]? = W.heap[i]?) → ∀ x ∈ F, x.In X) (hlt : w.heap.size + 2 ≤ W.heap.size) : GivesP [] S' w e w'' := by
  obtain ⟨U, rfl, hU, hc, hb1⟩ := h
  refine ⟨U, rfl, fun X _ hX => hU X (hF2 X fun i a b => ?_) fun i a b => ?_, hc.trans hS, hB ▸ hb2⟩
  · have := hb1.size
    rw [hX i (by omega) (by omega), hw i (by omega) (by omega), hb1.block i b]
  · rw [hX i (by omega) (by omega), hw i (by omega) b]
end Go.Proofs.YtbmngbpillihaaaDoor

namespace Go.Proofs.YtbmngbpillihaaaDoor
open Go.RowKit

theorem few_inC {K : PT} (hF : ∀ x ∈ flatK 18 K.lst, Fine5 x) : ∀ x ∈ fewP 18 nev isE behindP K.lst, Fine5 x ∧ ∀ X : World, (∀ y ∈ flatK 18 K.lst, y.In X) → x.In X :=
  few_all (P := fun x => Fine5 x ∧ ∀ X : World, (∀ y ∈ flatK 18 K.lst, y.In X) → x.In X) (fun a b y ha hb h => ⟨behind_fine a b y ha.1 hb.1 h, fun X _ => behind_in X a b y ha.1 hb.1 h⟩) (fun x hx => ⟨hF x hx, fun _ hX => hX x hx⟩)
set_option maxRecDepth 100000 in
set_option maxHeartbeats 2000000 in
theorem catOfC (K : PT) (w : World) (hK : K.In w) (hc : (flatK 18 K.lst).length ≤ 90000) (hF : ∀ x ∈ flatK 18 K.lst, Fine5 x) : Calls Tryd.prog 46 #[.slice K.xa K.len K.cap] w fun e w' => GivesP (flatK 18 K.lst) (catP K.lst) w e w' := by
  have hb0 : Below w.heap.size w (w.alloc (.cells zeroP 24)) := (Below.refl _ _).alloc (Nat.le_refl _) _
  have hz0 : (w.alloc (.cells zeroP 24)).heap[w.heap.size]? = some (.cells zeroP 24 (0, 0)) := at_new rfl
  have hs0 : (w.alloc (.cells zeroP 24)).heap.size = w.heap.size + 1 := World.size_alloc _ _
  have HFew := hide (fun w1 zo zi zl => fewerC K (w.alloc (.cells zeroP 24)) w1 zo zi zl (PT.In.later hb0 hK))
  have HIn := hide (few_inC hF)
  have HCF := hide (And.intro hc hF)
  unfold zeroP leafO at hb0 hz0 hs0 HFew
  have H0 := hide (And.intro hb0 (And.intro hz0 hs0))
  clear hK hc hF hb0 hz0 hs0
  go_enter Tryd.func46, Tryd.ntmps46
  go_wp2_with fail
  generalize w.alloc (.cells #[.int .i64 0, .string ⟨#[]⟩, .int .i64 0, .string ⟨#[]⟩, .slice none 0 0] 24) = w0 at *
  refine (upTo_any 49 78 w0).mono ?_
  rintro e w1 ⟨rfl, b1, b2, b3, hb1⟩
  have HC := hide (unhide HFew w1 _ _ _ hb1 (by omega) b1 b2 b3 (unhide HCF).1 (unhide HCF).2)
  clear b1 b2 b3 hb1 HFew
  unfold stV fnV at HC
  unfold stV
  go_wp2_with fail
  refine (unhide HC).mono ?_
  rintro e w2 ⟨v, rfl, hr2, hb2⟩
  have HR2 := hide (And.intro hr2 hb2)
  clear hr2 hb2 HC
  go_wp2_with fail
  refine (literalS ⟨#[]⟩ _).mono ?_
  rintro e w3 ⟨rfl, hb3⟩
  have HB3 := hide hb3
  clear hb3
  unfold leafO
  go_wp2_with fail
  refine (oneOrMore_any 18 v _ (litP ⟨#[]⟩) _ w3 ((unhide HR2).1.later (unhide HB3))).mono ?_
  rintro e w4 ⟨⟨U, rfl, hU⟩, hb4⟩
  have hbz := bnext (bnext (unhide HR2).2 (unhide HB3)) hb4
  have hrow := ((unhide HR2).1.later (unhide HB3)).later hb4
  have gz := row_below (unhide H0).2.1 hbz
  have HE := hide (cat_end (F := flatK 18 K.lst) (S := catP K.lst) (unhide HIn) hU (fun X => leaf_in X (by decide) (by decide) (by unfold maxLen; decide)) rfl hrow (bnext (unhide H0).1 hbz) (unhide H0).2.2)
  clear hb4 hbz hrow hU
  unfold pv
  go_wp2_with (first
    | (refine wpList_store_row rfl 24 _ _ rfl w.heap.size (patO U) rfl rfl 24 zeroP gz size_pat rfl (patO_oneC U) ?_)
    | fail)
  exact bodyPost_ret (results_cell_row rfl _ _ w.heap.size 24 (patO U) (0, 0) _ rfl (setRow_heap _ _ _ _ _ _ gz) Tryd.underlying24 rfl size_pat) rfl (unhide HE)
end Go.Proofs.YtbmngbpillihaaaDoor
