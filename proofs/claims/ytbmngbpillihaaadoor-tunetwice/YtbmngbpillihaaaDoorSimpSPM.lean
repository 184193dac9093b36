/- What tune.altOf hands back. What strings.Clone answers, laid from the library. What strings.Clone does: the same bytes. What tune.simpler's walks ask for. -/
import Derived.Test.YtbmngbpillihaaaDoorSimpArbM
import Derived.Test.YtbmngbpillihaaaDoorSimpFewAP
import Derived.Shelf.LaysM
import Derived.Below
import Derived.Shelf.Strconv.Clone
import Derived.Test.YtbmngbpillihaaaDoorProg
import Derived.Test.YtbmngbpillihaaaDoorPatBaseM
import Derived.Test.YtbmngbpillihaaaDoorSimpCatCM
namespace Go.Proofs.YtbmngbpillihaaaDoor
open Go.RowKit

theorem few_inA {K : PT} (hF : ∀ x ∈ flatK 19 K.lst, Fine5 x) : ∀ x ∈ fewP 19 isA isF eitherP K.lst, Fine5 x ∧ ∀ X : World, (∀ y ∈ flatK 19 K.lst, y.In X) → x.In X :=
  few_all (P := fun x => Fine5 x ∧ ∀ X : World, (∀ y ∈ flatK 19 K.lst, y.In X) → x.In X) (fun a b y ha hb h => ⟨either_fine a b y ha.1 hb.1 h, fun X _ => either_in X a b y h⟩) (fun x hx => ⟨hF x hx, fun _ hX => hX x hx⟩)
set_option maxRecDepth 100000 in
set_option maxHeartbeats 2000000 in
theorem catOfA (K : PT) (w : World) (hK : K.In w) (hc : (flatK 19 K.lst).length ≤ 90000) (hF : ∀ x ∈ flatK 19 K.lst, Fine5 x) : Calls Tryd.prog 47 #[.slice K.xa K.len K.cap] w fun e w' => GivesP (flatK 19 K.lst) (altP K.lst) w e w' := by
  have hb0 : Below w.heap.size w (w.alloc (.cells zeroP 24)) := (Below.refl _ _).alloc (Nat.le_refl _) _
  have hz0 : (w.alloc (.cells zeroP 24)).heap[w.heap.size]? = some (.cells zeroP 24 (0, 0)) := at_new rfl
  have hs0 : (w.alloc (.cells zeroP 24)).heap.size = w.heap.size + 1 := World.size_alloc _ _
  have HFew := hide (fun w1 zo zi zl => fewerA K (w.alloc (.cells zeroP 24)) w1 zo zi zl (PT.In.later hb0 hK))
  have HIn := hide (few_inA hF)
  have HCF := hide (And.intro hc hF)
  unfold zeroP leafO at hb0 hz0 hs0 HFew
  have H0 := hide (And.intro hb0 (And.intro hz0 hs0))
  clear hK hc hF hb0 hz0 hs0
  go_enter Tryd.func47, Tryd.ntmps47
  go_wp2_with fail
  generalize w.alloc (.cells #[.int .i64 0, .string ⟨#[]⟩, .int .i64 0, .string ⟨#[]⟩, .slice none 0 0] 24) = w0 at *
  refine (upTo_any 80 81 w0).mono ?_
  rintro e w1 ⟨rfl, b1, b2, b3, hb1⟩
  have HC := hide (unhide HFew w1 _ _ _ hb1 (by omega) b1 b2 b3 (unhide HCF).1 (unhide HCF).2)
  clear b1 b2 b3 hb1 HFew
  unfold stV fnV at HC
  unfold stV
  go_wp2_with fail
  refine (unhide HC).mono ?_
  rintro e w2 ⟨v, rfl, hr2, hb2⟩
  have HR2 := hide (And.intro hr2 hb2)
  clear hr2 hb2 HC
  go_wp2_with fail
  refine (oneOrMore_any 19 v _ (mkP 15 ⟨#[]⟩ 0 ⟨#[]⟩ []) _ w2 (unhide HR2).1).mono ?_
  rintro e w4 ⟨⟨U, rfl, hU⟩, hb4⟩
  have hbz := bnext (unhide HR2).2 hb4
  have hrow := (unhide HR2).1.later hb4
  have gz := row_below (unhide H0).2.1 hbz
  have HE := hide (cat_end (F := flatK 19 K.lst) (S := altP K.lst) (unhide HIn) hU (fun X => leaf_in X (by decide) (by decide) (by unfold maxLen; decide)) rfl hrow (bnext (unhide H0).1 hbz) (unhide H0).2.2)
  clear hb4 hbz hrow hU
  unfold pv
  go_wp2_with (first
    | (refine wpList_store_row rfl 24 _ _ rfl w.heap.size (patO U) rfl rfl 24 zeroP gz size_pat rfl (patO_oneC U) ?_)
    | fail)
  exact bodyPost_ret (results_cell_row rfl _ _ w.heap.size 24 (patO U) (0, 0) _ rfl (setRow_heap _ _ _ _ _ _ gz) Tryd.underlying24 rfl size_pat) rfl (unhide HE)
end Go.Proofs.YtbmngbpillihaaaDoor

namespace Go.Proofs
open Go.Shelf Go.RowKit Go.Lib
def Tryd.laysM316_ren : Go.Shelf.Ren := ⟨fun | 316 => 71 | n => n, fun | 9 => 9 | 3 => 3 | 4 => 4 | 37 => 97 | 0 => 0 | 127 => 139 | 5 => 5 | n => n, fun | n => n⟩
theorem Tryd.laysM316 : Go.Proofs.LaysM.n316 Tryd.prog Tryd.laysM316_ren := {
  mixed := by kernel_rfl
  f316 := Tryd.func71.trans (congrArg some (by kernel_rfl))
  t0 := Tryd.underlying0
  a0 := Tryd.isAgg0
  z0 := Tryd.sizeOf0
  v0 := Tryd.zeroValue0
  t3 := Tryd.underlying3
  a3 := Tryd.isAgg3
  z3 := Tryd.sizeOf3
  v3 := Tryd.zeroValue3
  t4 := Tryd.underlying4
  a4 := Tryd.isAgg4
  z4 := Tryd.sizeOf4
  v4 := Tryd.zeroValue4
  t9 := Tryd.underlying9
  a9 := Tryd.isAgg9
  z9 := Tryd.sizeOf9
  v9 := Tryd.zeroValue9
  t37 := Tryd.underlying97
  a37 := Tryd.isAgg97
  z37 := Tryd.sizeOf97
  v37 := Tryd.zeroValue97
  t127 := Tryd.underlying139
  a127 := Tryd.isAgg139
  z127 := Tryd.sizeOf139
  v127 := Tryd.zeroValue139
  t5 := Tryd.underlying5
  a5 := Tryd.isAgg5
  z5 := Tryd.sizeOf5
  v5 := Tryd.zeroValue5
  i0 := by kernel_rfl
  i3 := by kernel_rfl
  i4 := by kernel_rfl
  i5 := by kernel_rfl
  i9 := by kernel_rfl
  i37 := by kernel_rfl
  i127 := by kernel_rfl }
theorem Tryd.stringslite_Clone (s : ByteArray) (w : World) (hlim : s.size ≤ 281474976710656) :
    Calls Tryd.prog 71 #[.string s] w fun e w' => e = .returned (.string s) ∧ Below w.heap.size w w' := Any.stringslite_Clone Tryd.laysM316 s w hlim
end Go.Proofs

namespace Go.Proofs.YtbmngbpillihaaaDoor
open Go.RowKit

set_option maxHeartbeats 400000 in
theorem clone_any (s : ByteArray) (w : World) (hs : s.size ≤ 1000000) : Calls Tryd.prog 41 #[.string s] w fun e w' => e = .returned (.string s) ∧ Below w.heap.size w w' := by
  go_enter Tryd.func41, Tryd.ntmps41
  go_wp2_with (go_at_call 71; refine (Tryd.stringslite_Clone s _ (by omega)).mono ?_; rintro e w' ⟨rfl, hb⟩)
  go_ret
  exact ⟨rfl, hb⟩
end Go.Proofs.YtbmngbpillihaaaDoor

namespace Go.Proofs.YtbmngbpillihaaaDoor
open Go.RowKit
/-- The kids' own calls. -/
def SimpIH (T : PT) : Prop := ∀ j, j < T.len → ∀ W : World, (T.kid j).In W → Calls Tryd.prog 21 #[pv (T.kid j)] W fun e w' => GivesP [] (T.kid j).simp W e w'
theorem bnext2 {w a b : World} (h : Below w.heap.size w a) (k : Below a.heap.size a b) : Below w.heap.size w b := h.trans (k.mono h.size)
theorem five_cell {w : World} {T : PT} : ∀ k u, (five T)[k]? = some u → (w.alloc (.cells (patO T) 24)).cell? ⟨w.heap.size, k, none⟩ = some u := by
  intro k u h
  rw [cell_of_row _ _ _ _ _ _ (at_new rfl)]
  exact (show (five T).toArray[k]? = some u by rw [List.getElem?_toArray]; exact h)
theorem setRow_size (w : World) (g : Nat) (cs : Array Value) : (w.setRow g cs).heap.size = w.heap.size := by unfold World.setRow; exact Array.size_modify
theorem gives_leafS {S U : PT} {w W : World} (hU : ∀ X, U.In X) (hc : U = S) (hb : Below w.heap.size w W) : GivesP [] S w (.returned (pv U)) W := ⟨U, rfl, fun X _ _ => hU X, by rw [hc], hb⟩
theorem cntP_in (X : World) {k n : Int} (hk : -9223372036854775808 ≤ k ∧ k ≤ 9223372036854775807) (hn : 0 ≤ n ∧ n ≤ 65536) : (cntP k n).In X := by
  unfold cntP
  split
  · exact leaf_in X (by decide) (by decide) (by unfold maxLen; decide)
  · split
    · exact leaf_in X (by decide) (by decide) (by unfold maxLen; decide)
    · exact leaf_in X hk (by omega) (by unfold maxLen; decide)
theorem zr_cells {w : World} {g : Nat} (h : w.heap[g]? = some (.cells zeroP 24 (0, 0))) : w.cell? ⟨g, 0, none⟩ = some (.int .i64 0) ∧ w.cell? ⟨g, 1, none⟩ = some (.string ⟨#[]⟩) ∧ w.cell? ⟨g, 2, none⟩ = some (.int .i64 0) ∧ w.cell? ⟨g, 3, none⟩ = some (.string ⟨#[]⟩) ∧ w.cell? ⟨g, 4, none⟩ = some (.slice none 0 0) ∧ ∀ o, w.frozen? ⟨g, o, none⟩ = false :=
  ⟨(cell_of_row _ _ 0 _ _ _ h).trans rfl, (cell_of_row _ _ 1 _ _ _ h).trans rfl, (cell_of_row _ _ 2 _ _ _ h).trans rfl, (cell_of_row _ _ 3 _ _ _ h).trans rfl, (cell_of_row _ _ 4 _ _ _ h).trans rfl, fun o => frozen_of_row _ _ o _ _ h⟩
theorem gives_kids {S K U : PT} {w wr w'' : World} (hK : ∀ X : World, (∀ i, w.heap.size + 2 ≤ i → i < wr.heap.size → X.heap[i]? = wr.heap[i]?) → K.In X) (hU : ∀ X : World, K.In X → U.In X) (hc : U.can = S.can) (hs : wr.heap.size ≤ w''.heap.size) (hw : ∀ i, w.heap.size + 2 ≤ i → i < wr.heap.size → w''.heap[i]? = wr.heap[i]?) (hb : Below w.heap.size w w'') : GivesP [] S w (.returned (pv U)) w'' :=
  ⟨U, rfl, fun X _ hX => hU X (hK X fun i a b => (hX i (by omega) (by omega)).trans (hw i a b)), hc, hb⟩
end Go.Proofs.YtbmngbpillihaaaDoor
