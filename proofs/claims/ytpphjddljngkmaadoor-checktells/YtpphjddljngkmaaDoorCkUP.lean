/- What is come to: coming, where labels lead. -/
import Derived.Test.YtpphjddljngkmaaDoorCkU0M
namespace Go.Proofs.YtpphjddljngkmaaDoor
open Go.RowKit

/-- Who goes through a program, in memory. -/
structure WkM (B z bl bf n : Nat) (pv : Value) (c : CS) (wb rb N : Nat) (q : List Bool × List Nat) (w : World) : Prop where
  ck : CkM B z bl bf n pv c w
  blk : ∃ ov, w.heap[wb]? = some (.cells #[.pointer (some ⟨z, 0, none⟩), .slice (some ⟨rb, 0, none⟩) N N, ov] 68 (0, 0)) ∧ Row w B 3 1 nI ov q.2
  rch : w.heap[rb]? = some (.cells (bV q.1) 4 (0, 0))
  len : q.1.length = N
  max : N ≤ 1000
  low : B ≤ wb ∧ B ≤ rb
  few : q.2.length + fals q.1 ≤ N
/-- What stays: what is old, and blocks of expressions and statements. -/
structure Stay (B : Nat) (w w' : World) : Prop where
  old : Below B w w'
  exp : KT 43 w w'
  stm : KT 49 w w'
theorem Stay.refl (B : Nat) (w : World) : Stay B w w := ⟨Below.refl _ _, KT.refl _ _, KT.refl _ _⟩
theorem Stay.trans {B : Nat} {a b c : World} (h : Stay B a b) (k : Stay B b c) : Stay B a c := ⟨h.old.trans k.old, h.exp.trans k.exp, h.stm.trans k.stm⟩
theorem Stay.below {B : Nat} {w w' : World} (h : Below w.heap.size w w') (hB : B ≤ w.heap.size) : Stay B w w' := ⟨h.mono hB, KT.below h, KT.below h⟩
section
variable {B z bl bf n : Nat} {pv : Value} {c : CS} {wb rb N : Nat} {q : List Bool × List Nat} {w w' : World}
theorem WkM.later (h : WkM B z bl bf n pv c wb rb N q w) (hb : Below w.heap.size w w') : WkM B z bl bf n pv c wb rb N q w' := by
  obtain ⟨ov, h1, h2⟩ := h.blk
  exact ⟨h.ck.later hb, ⟨ov, row_below h1 hb, h2.later hb⟩, row_below h.rch hb, h.len, h.max, h.low, h.few⟩
theorem WkM.same (h : WkM B z bl bf n pv c wb rb N q w) (hb : w'.heap = w.heap) : WkM B z bl bf n pv c wb rb N q w' := by
  obtain ⟨ov, h1, h2⟩ := h.blk
  exact ⟨h.ck.same hb, ⟨ov, by rw [hb]; exact h1, h2.same (fun k _ => by rw [hb])⟩, by rw [hb]; exact h.rch, h.len, h.max, h.low, h.few⟩
theorem WkM.c0 (h : WkM B z bl bf n pv c wb rb N q w) : w.cell? ⟨wb, 0, none⟩ = some (.pointer (some ⟨z, 0, none⟩)) := by obtain ⟨ov, h1, -⟩ := h.blk; rw [cell_of_row _ _ _ _ _ _ h1]; rfl
theorem WkM.c1 (h : WkM B z bl bf n pv c wb rb N q w) : w.cell? ⟨wb, 1, none⟩ = some (.slice (some ⟨rb, 0, none⟩) N N) := by obtain ⟨ov, h1, -⟩ := h.blk; rw [cell_of_row _ _ _ _ _ _ h1]; rfl
theorem WkM.rc (h : WkM B z bl bf n pv c wb rb N q w) {x : Nat} {b : Bool} (hx : q.1[x]? = some b) : w.cell? ⟨rb, x, none⟩ = some (.bool b) := by
  rw [cell_of_row _ _ _ _ _ _ h.rch]
  unfold bV
  rw [List.getElem?_toArray, List.getElem?_map, hx]; rfl
end
theorem come_not {q : List Bool × List Nat} {x : Nat} (h : q.1[x]? ≠ some false) : comeN q x = q := if_neg h
def ComePost (B z bl bf n : Nat) (pv : Value) (c : CS) (wb rb N : Nat) (q : List Bool × List Nat) (w : World) (e : Ending) (w' : World) : Prop := e = .returned (.tuple #[]) ∧ WkM B z bl bf n pv c wb rb N q w' ∧ Stay B w w'
/-- One more is come to. -/
theorem come_end {B z bl bf n : Nat} {pv : Value} {c : CS} {wb rb N x : Nat} {q : List Bool × List Nat} {w w6 : World} {ov v' : Value} (h : WkM B z bl bf n pv c wb rb N q w) (hx : q.1[x]? = some false)
    (hov : w.heap[wb]? = some (.cells #[.pointer (some ⟨z, 0, none⟩), .slice (some ⟨rb, 0, none⟩) N N, ov] 68 (0, 0))) (hrw : Row w B 3 1 nI ov q.2)
    (hrow : Row w6 B 3 1 nI v' (q.2 ++ [x])) (hg : ((w.setCell ⟨rb, x, none⟩ (.bool true)).alloc (.cells #[.int .i64 (x : Int)] 3)).grownBy w6 ov.ownBlock) :
    WkM B z bl bf n pv c wb rb N (comeN q x) (w6.setCell ⟨wb, 2, none⟩ v') ∧ Stay B w (w6.setCell ⟨wb, 2, none⟩ v') := by
  have hrl : rb < w.heap.size := (Array.getElem?_eq_some_iff.1 h.rch).1
  have hwl : wb < w.heap.size := (Array.getElem?_eq_some_iff.1 hov).1
  have hwr : wb ≠ rb := row_ne hov h.rch (by decide)
  have hs1 : ((w.setCell ⟨rb, x, none⟩ (.bool true)).alloc (.cells #[.int .i64 (x : Int)] 3)).heap.size = w.heap.size + 1 := by rw [World.size_alloc, World.size_setCell]
  have hmid : ∀ k, k < w.heap.size → some k ≠ ov.ownBlock → w6.heap[k]? = (w.setCell ⟨rb, x, none⟩ (.bool true)).heap[k]? := fun k h1 h2 => (hg.block k (by omega) h2).trans (Below.heap_alloc _ _ _ (by rw [World.size_setCell]; exact h1))
  have hall : ∀ k, k < w.heap.size → k ≠ rb → k ≠ wb → some k ≠ ov.ownBlock → (w6.setCell ⟨wb, 2, none⟩ v').heap[k]? = w.heap[k]? := fun k h1 h2 h3 h4 =>
    (heap_setCell_other w6 ⟨wb, 2, none⟩ k v' h3).trans ((hmid k h1 h4).trans (heap_setCell_other w ⟨rb, x, none⟩ k _ h2))
  have hty : ∀ (k : Nat) (r : Array Value) (t : TypeId), w.heap[k]? = some (.cells r t (0, 0)) → t ≠ 4 → t ≠ 68 → 3 ≠ t → (w6.setCell ⟨wb, 2, none⟩ v').heap[k]? = some (.cells r t (0, 0)) := fun k r t hk h1 h2 h3 =>
    (hall k (Array.getElem?_eq_some_iff.1 hk).1 (row_ne hk h.rch h1) (row_ne hk hov h2) (hrw.neBlk hk h3)).trans hk
  have hmp : ∀ {b m f}, MI w b m f → (w6.setCell ⟨wb, 2, none⟩ v').heap[b]? = w.heap[b]? := fun {b m f} hm => hall b hm.lt (map_ne hm h.rch) (map_ne hm hov) (fun e => by
    obtain ⟨cur, hc⟩ := hrw.type e.symm
    exact map_ne hm hc rfl)
  have hw6 : w6.heap[wb]? = some (.cells #[.pointer (some ⟨z, 0, none⟩), .slice (some ⟨rb, 0, none⟩) N N, ov] 68 (0, 0)) := (hmid wb hwl (hrw.neBlk hov (by decide))).trans ((heap_setCell_other w ⟨rb, x, none⟩ wb _ hwr).trans hov)
  have hce : comeN q x = (q.1.set x true, q.2 ++ [x]) := if_pos hx
  have hsz : w.heap.size ≤ w6.heap.size := by have := hg.size; omega
  have hrow' : Row (w6.setCell ⟨wb, 2, none⟩ v') B 3 1 nI v' (q.2 ++ [x]) := hrow.same fun k hk => heap_setCell_other w6 ⟨wb, 2, none⟩ k v' (by
    obtain ⟨cur, hc⟩ := hrow.type hk
    exact row_ne hc hw6 (by decide))
  have hrb : (w6.setCell ⟨wb, 2, none⟩ v').heap[rb]? = some (.cells (bV (q.1.set x true)) 4 (0, 0)) := by
    rw [heap_setCell_other w6 ⟨wb, 2, none⟩ rb v' (Ne.symm hwr), hmid rb hrl (hrw.neBlk h.rch (by decide)), heap_setCell_same w rb x _ _ _ h.rch]
    congr 2
    unfold bV
    rw [List.setIfInBounds_toArray, List.map_set]
  rw [hce]
  refine ⟨⟨h.ck.keep (by rw [h.ck.chk.blk]; exact hty z _ _ h.ck.chk.blk (by decide) (by decide) (by decide)) (hmp h.ck.lab) (hmp h.ck.fns), ⟨v', ?_, hrow'⟩, hrb, by simpa using h.len, h.max, h.low, by have h1 := fals_set hx; have h2 := h.few; simp only [List.length_append, List.length_cons, List.length_nil]; omega⟩, ⟨⟨?_, ?_, ?_, ?_, ?_⟩, ?_, ?_⟩⟩
  · exact heap_setCell_same w6 wb 2 _ _ v' hw6
  · exact hg.os
  · exact hg.tape
  · exact hg.output
  · simpa using hsz
  · exact fun k hk => hall k (by have := h.low; omega) (by have := h.low; omega) (by have := h.low; omega) (fun e => by have := (hrw.low e.symm).1; omega)
  · exact fun k r hk => hty k r _ hk (by decide) (by decide) (by decide)
  · exact fun k r hk => hty k r _ hk (by decide) (by decide) (by decide)
set_option maxRecDepth 100000 in
set_option maxHeartbeats 4000000 in
theorem come_any {B z bl bf n : Nat} {pv : Value} {c : CS} {wb rb N : Nat} {q : List Bool × List Nat} (w : World) (x : Nat) (h : WkM B z bl bf n pv c wb rb N q w) (hx : x ≤ 2000) :
    Calls Tryd.prog 30 #[.pointer (some ⟨wb, 0, none⟩), .int .i64 (x : Int)] w (ComePost B z bl bf n pv c wb rb N (comeN q x) w) := by
  have HW := hide h
  have c1 := h.c1
  have hN := h.max
  have hln := h.len
  by_cases hlt : x < N
  · obtain ⟨b, hb⟩ : ∃ b, q.1[x]? = some b := ⟨q.1[x]'(by omega), List.getElem?_eq_getElem _⟩
    have cr := h.rc hb
    have hix := sl_idx (g := rb) (o := 0) (cap := N) (i := x) (n := N) Tryd.underlying28 size_boolS hlt
    rw [Nat.zero_add] at hix
    have ql : (x : Int) < (N : Int) := by omega
    cases b
    · have hf1 := fals_set hb
      have hf2 := h.few
      obtain ⟨ov, hov, hrw⟩ := h.blk
      have HOV := hide hov
      have HRO := hide hrw
      have HX := hide hb
      have c2 : w.cell? ⟨wb, 2, none⟩ = some ov := by rw [cell_of_row _ _ _ _ _ _ hov]; rfl
      have hfr := frozen_of_row w rb x _ _ h.rch
      have hfw := frozen_of_row w wb 2 _ _ hov
      have hne : ¬ wb = rb := row_ne hov h.rch (by decide)
      have hne2 : ¬ rb = wb := fun e => hne e.symm
      have hwl : wb < w.heap.size := (Array.getElem?_eq_some_iff.1 hov).1
      have hrl : rb < w.heap.size := (Array.getElem?_eq_some_iff.1 h.rch).1
      have hBw := h.ck.le
      have HRR := hide (show Row ((w.setCell ⟨rb, x, none⟩ (.bool true)).alloc (.cells #[.int .i64 (x : Int)] 3)) B 3 1 nI ov q.2 from (hrw.same (fun k hk => heap_setCell_other w ⟨rb, x, none⟩ k _ (by
        obtain ⟨cur, hc⟩ := hrw.type hk
        exact (row_ne hc h.rch (by decide))))).later ((Below.refl _ _).alloc (Nat.le_refl _) _))
      have hq2 : q.2.length ≤ 1000 := by omega
      have HGW := hide (show ∀ w6, ((w.setCell ⟨rb, x, none⟩ (.bool true)).alloc (.cells #[.int .i64 (x : Int)] 3)).grownBy w6 ov.ownBlock → w6.heap[wb]? = some (.cells #[.pointer (some ⟨z, 0, none⟩), .slice (some ⟨rb, 0, none⟩) N N, ov] 68 (0, 0)) from fun w6 hg => (hg.block wb (by rw [World.size_alloc, World.size_setCell]; omega) (hrw.neBlk hov (by decide))).trans ((Below.heap_alloc _ _ _ (by rw [World.size_setCell]; exact hwl)).trans ((heap_setCell_other w ⟨rb, x, none⟩ wb _ hne).trans hov)))
      have HCC := hide (nI_cell (x := x) (show ((w.setCell ⟨rb, x, none⟩ (.bool true)).alloc (.cells #[.int .i64 (x : Int)] 3)).heap[w.heap.size]? = some (.cells #[.int .i64 (x : Int)] 3 (0, 0)) from at_new (by rw [World.size_setCell])))
      have HSZ := hide (show B ≤ ((w.setCell ⟨rb, x, none⟩ (.bool true)).alloc (.cells #[.int .i64 (x : Int)] 3)).heap.size by rw [World.size_alloc, World.size_setCell]; omega)
      clear hb h hov hrw hln hf1 hf2
      go_enter Tryd.func30, Tryd.ntmps30
      go_wp2_with (first
        | (at_builtin; refine wpList_row Tryd.underlying55 intRow rfl (by decide) (by decide) (fun _ => rfl) nI_one rfl _ _ rfl (unhide HRR) (unhide HSZ) x w.heap.size 1 rfl rfl (unhide HCC) (by omega) ?_; intro v' w6 hrow hgrow hown; have hw6 := unhide HGW w6 hgrow; have c26 : w6.cell? ⟨wb, 2, none⟩ = some ov := (cell_of_row _ _ _ _ _ _ hw6).trans rfl; have fr6 := frozen_of_row w6 wb 2 _ _ hw6; have HEN := hide (come_end (unhide HW) (unhide HX) (unhide HOV) (unhide HRO) hrow hgrow); obtain ⟨a', cap', hv', -, -⟩ := hrow.len; have HV := hide hv'; clear hrow hgrow hown hw6; subst hv'; simp only [List.length_append, List.length_cons, List.length_nil, Nat.zero_add] at HEN)
        | fail)
      go_end0
      exact ⟨rfl, unhide HEN⟩
    · have HZ := hide (show comeN q x = q from come_not (by rw [hb]; decide))
      clear hb h
      go_enter Tryd.func30, Tryd.ntmps30
      go_wp2_with fail
      go_end0
      exact ⟨rfl, by rw [unhide HZ]; exact unhide HW, Stay.refl _ _⟩
  · have HZ := hide (show comeN q x = q from come_not (by rw [List.getElem?_eq_none (by omega)]; decide))
    have ql : ¬ (x : Int) < (N : Int) := by omega
    clear h hln
    go_enter Tryd.func30, Tryd.ntmps30
    go_wp2_with fail
    go_end0
    exact ⟨rfl, by rw [unhide HZ]; exact unhide HW, Stay.refl _ _⟩
end Go.Proofs.YtpphjddljngkmaaDoor
