/- Two of which either may match: what tune.either makes of them. -/
import Derived.Test.YtbmngbpillihaaaDoorSimpEitherM
import Derived.Deep.CutBlock
import Derived.DeepKeys
namespace Go.Proofs.YtbmngbpillihaaaDoor
open Go.RowKit

theorem wf_u64 (n : Nat) (h : n < 18446744073709551616) : (Lit.int .u64 (n : Int)).wf = true := by
  have h1 : (0 : Int) ≤ (n : Int) := by omega
  have h2 : (n : Int) ≤ 18446744073709551615 := by omega
  simp [Lit.wf, IntKind.min, IntKind.max, IntKind.signed, IntKind.bits]
  omega
theorem cells_set : Tryd.prog.cellsOf 33 = 4 := by kernel_rfl
theorem cells_u64 : Tryd.prog.cellsOf 31 = 1 := by kernel_rfl
theorem key_set : Tryd.prog.keyTypeAt 3 33 = true := by kernel_rfl
theorem lits_word (n : Nat) (h : n < 18446744073709551616) : Tryd.prog.keyLits 1 31 [.int .u64 (n : Int)] = some [.int .u64 (n : Int)] := by
  unfold Program.keyLits
  rw [Tryd.underlying31]
  simp [wf_u64 n h]
theorem lits_set (a b c d : Nat) (ha : a < 18446744073709551616) (hb : b < 18446744073709551616) (hc : c < 18446744073709551616) (hd : d < 18446744073709551616) : Tryd.prog.keyLits 2 33 (Value.agg #[.int .u64 (a : Int), .int .u64 (b : Int), .int .u64 (c : Int), .int .u64 (d : Int)]).cells.toList = some [.int .u64 (a : Int), .int .u64 (b : Int), .int .u64 (c : Int), .int .u64 (d : Int)] := by
  have h0 := lits_word a ha
  have h1 := lits_word b hb
  have h2 := lits_word c hc
  have h3 := lits_word d hd
  unfold Program.keyLits
  rw [Tryd.underlying33]
  simp only [Value.cells, cells_set, cells_u64, List.length_cons, List.length_nil]
  have r4 : List.range 4 = [0, 1, 2, 3] := rfl
  simp [r4, h0, h1, h2, h3]
theorem formed_set (a b c d : Value) : (Value.agg #[a, b, c, d]).formed Tryd.prog 33 = true := by
  simp [Value.formed, Tryd.underlying33, cells_set]
theorem tx_none (p : Nat → Bool) : ∀ n, (tx p n).isEmpty = true ↔ ∀ c, c < n → p c = false
  | 0 => ⟨fun _ c h => by omega, fun _ => rfl⟩
  | n + 1 => by
    unfold tx
    have ih := tx_none p n
    constructor
    · intro h c hc
      rw [List.isEmpty_iff] at h
      obtain ⟨h1, h2⟩ := List.append_eq_nil_iff.1 h
      by_cases hcn : c = n
      · subst hcn
        cases hp : p c with
        | false => rfl
        | true => rw [hp] at h2; simp at h2
      · exact ih.1 (List.isEmpty_iff.2 h1) c (by omega)
    · intro h
      rw [List.isEmpty_iff, List.append_eq_nil_iff]
      exact ⟨List.isEmpty_iff.1 (ih.2 fun c hc => h c (by omega)), by rw [h n (by omega)]; rfl⟩
theorem lits_zero (p : Nat → Bool) : [Lit.int .u64 (wd p 0 : Int), .int .u64 (wd p 1 : Int), .int .u64 (wd p 2 : Int), .int .u64 (wd p 3 : Int)] = [Lit.int .u64 ((0 : Nat) : Int), .int .u64 ((0 : Nat) : Int), .int .u64 ((0 : Nat) : Int), .int .u64 ((0 : Nat) : Int)] ↔ sc p = zerosS := by
  constructor
  · intro h
    injection h with e0 h
    injection h with e1 h
    injection h with e2 h
    injection h with e3 h
    injection e0 with _ e0
    injection e1 with _ e1
    injection e2 with _ e2
    injection e3 with _ e3
    show #[u64v (wd p 0), u64v (wd p 1), u64v (wd p 2), u64v (wd p 3)] = #[.int .u64 0, .int .u64 0, .int .u64 0, .int .u64 0]
    unfold u64v
    rw [e0, e1, e2, e3]; rfl
  · intro h
    have e : #[u64v (wd p 0), u64v (wd p 1), u64v (wd p 2), u64v (wd p 3)] = #[.int .u64 0, .int .u64 0, .int .u64 0, .int .u64 0] := h
    have e' := congrArg Array.toList e
    simp only [u64v, List.cons.injEq, Value.int.injEq, true_and, and_true] at e'
    rw [e'.1, e'.2.1, e'.2.2.1, e'.2.2.2]; rfl
theorem eq_zero (p : Nat → Bool) (w : World) : (Op.equalIn 10000 33 (.agg #[.int .u64 (wd p 0 : Int), .int .u64 (wd p 1 : Int), .int .u64 (wd p 2 : Int), .int .u64 (wd p 3 : Int)]) (.agg #[.int .u64 0, .int .u64 0, .int .u64 0, .int .u64 0])).run Tryd.prog w = .ok ((tx p 256).isEmpty) w := by
  have k1 := lits_set _ _ _ _ (wd_lt p 0) (wd_lt p 1) (wd_lt p 2) (wd_lt p 3)
  have k2 := lits_set 0 0 0 0 (by decide) (by decide) (by decide) (by decide)
  obtain ⟨r, h1, h2⟩ := run_equalIn_deep (P := Tryd.prog) 9997 3 33 key_set w 2 2 _ _ _ _ (formed_set _ _ _ _) (formed_set _ _ _ _) k1 k2
  generalize hq : (tx p 256).isEmpty = q
  have hz : q = true ↔ sc p = zerosS := by rw [← hq, sc_zero]; exact tx_none p 256
  clear hq
  have hr : r = q := by
    rw [Bool.eq_iff_iff, hz]
    refine h2.trans ?_
    exact lits_zero p
  rw [hr] at h1
  exact h1
theorem set_cells {W : World} {g : Nat} {a b c d : Value} (h : W.heap[g]? = some (.cells #[a, b, c, d] 33 (0, 0))) : W.cell? ⟨g, 0, none⟩ = some a ∧ W.cell? ⟨g, 1, none⟩ = some b ∧ W.cell? ⟨g, 2, none⟩ = some c ∧ W.cell? ⟨g, 3, none⟩ = some d :=
  ⟨(cell_of_row _ _ 0 _ _ _ h).trans rfl, (cell_of_row _ _ 1 _ _ _ h).trans rfl, (cell_of_row _ _ 2 _ _ _ h).trans rfl, (cell_of_row _ _ 3 _ _ _ h).trans rfl⟩
theorem patO_one (T : PT) : (patO T).all (·.oneCell') = true := by simp [patO, Value.oneCell']
structure Boxes (w W : World) (a b : PT) : Prop where
  pa : W.heap[w.heap.size]? = some (.cells (patO a) 24 (0, 0))
  pb : W.heap[w.heap.size + 1]? = some (.cells (patO b) 24 (0, 0))
  pz : W.heap[w.heap.size + 1 + 1]? = some (.cells zeroP 24 (0, 0))
  bel : Below w.heap.size w W
  size : w.heap.size + 1 + 1 < W.heap.size
theorem boxes_new (w : World) (a b : PT) : Boxes w (((w.alloc (.cells (patO a) 24)).alloc (.cells (patO b) 24)).alloc (.cells zeroP 24)) a b :=
  ⟨at_old (by simp only [World.size_alloc]; omega) (at_old (by simp only [World.size_alloc]; omega) (at_new rfl)), at_old (by simp only [World.size_alloc]; omega) (at_new (by simp only [World.size_alloc])), at_new (by simp only [World.size_alloc]), below3 w _ _ _, by simp only [World.size_alloc]; omega⟩
theorem Boxes.later {w W W' : World} {a b : PT} (h : Boxes w W a b) (hb : Below W.heap.size W W') : Boxes w W' a b :=
  ⟨row_below h.pa hb, row_below h.pb hb, row_below h.pz hb, bnext h.bel hb, Nat.lt_of_lt_of_le h.size hb.size⟩
def ZRow (W : World) (g : Nat) : Prop := W.heap[g]? = some (.cells #[.int .u64 0, .int .u64 0, .int .u64 0, .int .u64 0] 33 (0, 0))
theorem ZRow.new (W : World) : ZRow (W.alloc (.cells #[.int .u64 0, .int .u64 0, .int .u64 0, .int .u64 0] 33)) W.heap.size := at_new rfl
theorem ZRow.new1 (W : World) (o : Obj) : ZRow ((W.alloc o).alloc (.cells #[.int .u64 0, .int .u64 0, .int .u64 0, .int .u64 0] 33)) (W.heap.size + 1) := at_new (by simp only [World.size_alloc])
theorem ZRow.more {W : World} {g : Nat} (h : ZRow W g) (o : Obj) : ZRow (W.alloc o) g := row_below h ((Below.refl _ _).alloc (Nat.le_refl _) o)
theorem ZRow.draw {W : World} {g : Nat} (h : ZRow W g) : ZRow W.drew g := h
theorem ZRow.later {W W' : World} {g : Nat} (h : ZRow W g) (hb : Below W.heap.size W W') : ZRow W' g := row_below h hb
theorem ZRow.facts {W : World} {g : Nat} (h : ZRow W g) : (W.cell? ⟨g, 0, none⟩ = some (.int .u64 0) ∧ W.cell? ⟨g, 1, none⟩ = some (.int .u64 0) ∧ W.cell? ⟨g, 2, none⟩ = some (.int .u64 0) ∧ W.cell? ⟨g, 3, none⟩ = some (.int .u64 0)) ∧ (∀ o, W.frozen? ⟨g, o, none⟩ = false) ∧ g < W.heap.size :=
  ⟨⟨(cell_of_row _ _ 0 _ _ _ h).trans rfl, (cell_of_row _ _ 1 _ _ _ h).trans rfl, (cell_of_row _ _ 2 _ _ _ h).trans rfl, (cell_of_row _ _ 3 _ _ _ h).trans rfl⟩, fun o => frozen_of_row _ _ o _ _ h, (Array.getElem?_eq_some_iff.1 h).1⟩
theorem ne_both {a b : Nat} (h : a < b) : ¬ a = b ∧ ¬ b = a := ⟨by omega, by omega⟩
theorem sets4_same {W : World} {g : Nat} {a b c d : Value} (h : ZRow W g) : ((((W.setCell ⟨g, 0, none⟩ a).setCell ⟨g, 1, none⟩ b).setCell ⟨g, 2, none⟩ c).setCell ⟨g, 3, none⟩ d).heap[g]? = some (.cells #[a, b, c, d] 33 (0, 0)) :=
  heap_setCell_same _ g 3 _ _ _ (heap_setCell_same _ g 2 _ _ _ (heap_setCell_same _ g 1 _ _ _ (heap_setCell_same _ g 0 _ _ _ h)))
theorem sets4_other {W : World} {g k : Nat} {a b c d : Value} {o : Option Obj} (hne : k ≠ g) (h : W.heap[k]? = o) : ((((W.setCell ⟨g, 0, none⟩ a).setCell ⟨g, 1, none⟩ b).setCell ⟨g, 2, none⟩ c).setCell ⟨g, 3, none⟩ d).heap[k]? = o := by
  rw [heap_setCell_other _ _ _ _ (by exact hne), heap_setCell_other _ _ _ _ (by exact hne), heap_setCell_other _ _ _ _ (by exact hne), heap_setCell_other _ _ _ _ (by exact hne)]; exact h
theorem zrow_other {W : World} {g k : Nat} {a b c d : Value} (hne : k ≠ g) (h : ZRow W k) : ZRow ((((W.setCell ⟨g, 0, none⟩ a).setCell ⟨g, 1, none⟩ b).setCell ⟨g, 2, none⟩ c).setCell ⟨g, 3, none⟩ d) k := sets4_other hne h
theorem at_newS {W : World} {g : Nat} {a b c d : Value} {o : Obj} : (((((W.setCell ⟨g, 0, none⟩ a).setCell ⟨g, 1, none⟩ b).setCell ⟨g, 2, none⟩ c).setCell ⟨g, 3, none⟩ d).alloc o).heap[W.heap.size]? = some o := at_new (by simp)
theorem at_oldS {W : World} {o x : Obj} {n : Nat} (k : W.heap[n]? = some x) : (W.alloc o).heap[n]? = some x := at_old (Array.getElem?_eq_some_iff.1 k).1 k
theorem le1 {a b : Nat} (h : a ≤ b) : a ≤ b + 1 := Nat.le_succ_of_le h
theorem le0 (a : Nat) : a ≤ a + 1 := Nat.le_succ a
theorem at_mid {W : World} {o x : Obj} : ((W.alloc o).alloc x).heap[W.heap.size]? = some o := at_old (by simp) (at_new rfl)
theorem at_new1 {W : World} {o x : Obj} : ((W.alloc o).alloc x).heap[W.heap.size + 1]? = some x := at_new (by simp)
def TwoSets (W wx : World) (x0 x1 x2 x3 y0 y1 y2 y3 : Nat) (s6 s7 : Value) : Prop := ∃ g6 g7, s6 = .pointer (some ⟨g6, 0, none⟩) ∧ s7 = .pointer (some ⟨g7, 0, none⟩) ∧ wx.heap[g6]? = some (.cells #[.int .u64 (x0 : Int), .int .u64 (x1 : Int), .int .u64 (x2 : Int), .int .u64 (x3 : Int)] 33 (0, 0)) ∧ wx.heap[g7]? = some (.cells #[.int .u64 (y0 : Int), .int .u64 (y1 : Int), .int .u64 (y2 : Int), .int .u64 (y3 : Int)] 33 (0, 0)) ∧ Below W.heap.size W wx
set_option maxRecDepth 100000 in
set_option maxHeartbeats 40000000 in
theorem either_two (a b : PT) (w : World) (ha : a.t.size ≤ 65536) (hb : b.t.size ≤ 65536) (h1 : oneB a = true) (h2 : oneB b = true) : Calls Tryd.prog 82 #[pv a, pv b] w fun e w' => e = .returned (joinV (eitherP a b)) ∧ Below w.heap.size w w' := by
  have H1 := hide (fun W => isOneByte_any a W)
  have H2 := hide (fun W => isOneByte_any b W)
  have HO1 := hide (fun W => of_saysE a.t (by unfold maxLen; omega) W)
  have HO2 := hide (fun W => of_saysE b.t (by unfold maxLen; omega) W)
  rw [h1] at H1
  rw [h2] at H2
  have HBx := hide (boxes_new w a b)
  have HMe := hide (fun W => meet_any (inB a.t) (inB b.t) W)
  have HUn := hide (fun W => union_any (inB a.t) (inB b.t) W)
  have HAn := hide (fun W => anyOf_any (fun c => inB a.t c || inB b.t c) W)
  have heq := eq_zero (fun c => inB a.t c && inB b.t c)
  have hE : eitherP a b = if (tx (fun c => inB a.t c && inB b.t c) 256).isEmpty = true then some (anyP fun c => inB a.t c || inB b.t c) else none := by unfold eitherP; rw [h1, h2, if_neg (by decide)]
  rw [hE]
  clear hE
  unfold sv sc u64v at HMe HUn HAn
  generalize (tx (fun c => inB a.t c && inB b.t c) 256).isEmpty = em at *
  generalize wd (fun c => inB a.t c && inB b.t c) 0 = m0 at *
  generalize wd (fun c => inB a.t c && inB b.t c) 1 = m1 at *
  generalize wd (fun c => inB a.t c && inB b.t c) 2 = m2 at *
  generalize wd (fun c => inB a.t c && inB b.t c) 3 = m3 at *
  generalize wd (fun c => inB a.t c || inB b.t c) 0 = n0 at *
  generalize wd (fun c => inB a.t c || inB b.t c) 1 = n1 at *
  generalize wd (fun c => inB a.t c || inB b.t c) 2 = n2 at *
  generalize wd (fun c => inB a.t c || inB b.t c) 3 = n3 at *
  generalize anyP (fun c => inB a.t c || inB b.t c) = AP at *
  unfold sc u64v at HO1 HO2
  generalize wd (inB a.t) 0 = x0 at *
  generalize wd (inB a.t) 1 = x1 at *
  generalize wd (inB a.t) 2 = x2 at *
  generalize wd (inB a.t) 3 = x3 at *
  generalize wd (inB b.t) 0 = y0 at *
  generalize wd (inB b.t) 1 = y1 at *
  generalize wd (inB b.t) 2 = y2 at *
  generalize wd (inB b.t) 3 = y3 at *
  unfold pv at H1 H2 ⊢
  unfold patO zeroP leafO at HBx
  clear h1 h2
  go_enter Tryd.func82, Tryd.ntmps82
  go_wp2_with fail
  refine (unhide H1 _).mono ?_
  rintro e W1 ⟨rfl, hb1⟩
  have HB1 := hide ((unhide HBx).later hb1)
  obtain ⟨k0, k1, k2, k3, k4⟩ := pats5s (unhide HB1).pb
  clear hb1 HBx
  go_wp2_with fail
  refine (unhide H2 _).mono ?_
  rintro e W2 ⟨rfl, hb2⟩
  have HB2 := hide ((unhide HB1).later hb2)
  have c1 := (pats5s (unhide HB2).pa).2.1
  have c2 := (pats5s (unhide HB2).pb).2.1
  have hlt := (unhide HB2).size
  clear hb2 HB1 k0 k1 k2 k3 k4
  go_wp2_with fail
  have HK := hide (show ∀ w', Below W2.heap.size W2 w' → (w'.cell? ⟨w.heap.size, 1, none⟩ = some (.string a.t) ∧ w'.cell? ⟨w.heap.size + 1, 1, none⟩ = some (.string b.t)) from fun w' hB => ⟨cell_later hB c1, cell_later hB c2⟩)
  go_cut [6, 7] from 17 (fun s6 s7 wx => TwoSets W2 wx x0 x1 x2 x3 y0 y1 y2 y3 s6 s7)
  case first =>
    go_region_held3 (fun w' => w'.cell? ⟨w.heap.size, 1, none⟩ = some (.string a.t) ∧ w'.cell? ⟨w.heap.size + 1, 1, none⟩ = some (.string b.t))
      ((refine unhide HK _ ?_; (repeat (first | (with_reducible exact hA4) | (with_reducible exact hA3) | (with_reducible exact Below.refl _ _) | (with_reducible refine Below.drew ?_) | (with_reducible refine Below.alloc ?_ (by first | (with_reducible exact Nat.le_refl _) | (with_reducible exact z3) | (with_reducible exact z4) | (with_reducible exact le1 z3) | (with_reducible exact le1 z4) | (with_reducible exact le0 _) | (simp only [World.size_alloc]; first | (with_reducible exact Nat.le_refl _) | (with_reducible exact z3) | (with_reducible exact z4) | (with_reducible exact le1 z3) | (with_reducible exact le1 z4) | (with_reducible exact le0 _)) | (simp only [World.size_setCell]; first | (with_reducible exact Nat.le_refl _) | (with_reducible exact z3) | (with_reducible exact z4) | (with_reducible exact le1 z3) | (with_reducible exact le1 z4) | (with_reducible exact le0 _)) | (simp; first | (with_reducible exact Nat.le_refl _) | (with_reducible exact z3) | (with_reducible exact z4) | (with_reducible exact le1 z3) | (with_reducible exact le1 z4) | (with_reducible exact le0 _))) _) | (with_reducible refine Below.setCell ?_ (by first | (with_reducible exact Nat.le_refl _) | (with_reducible exact z3) | (with_reducible exact z4) | (with_reducible exact le1 z3) | (with_reducible exact le1 z4) | (with_reducible exact le0 _)) _)))))
      (first
        | (go_at_call 43; (with_reducible refine (unhide HO1 _).mono ?_); rintro e w3 ⟨rfl, hb3⟩; have hA3 := bnext (show Below W2.heap.size W2 _ by (repeat (first | (with_reducible exact hA4) | (with_reducible exact hA3) | (with_reducible exact Below.refl _ _) | (with_reducible refine Below.drew ?_) | (with_reducible refine Below.alloc ?_ (by first | (with_reducible exact Nat.le_refl _) | (with_reducible exact z3) | (with_reducible exact z4) | (with_reducible exact le1 z3) | (with_reducible exact le1 z4) | (with_reducible exact le0 _) | (simp only [World.size_alloc]; first | (with_reducible exact Nat.le_refl _) | (with_reducible exact z3) | (with_reducible exact z4) | (with_reducible exact le1 z3) | (with_reducible exact le1 z4) | (with_reducible exact le0 _)) | (simp only [World.size_setCell]; first | (with_reducible exact Nat.le_refl _) | (with_reducible exact z3) | (with_reducible exact z4) | (with_reducible exact le1 z3) | (with_reducible exact le1 z4) | (with_reducible exact le0 _)) | (simp; first | (with_reducible exact Nat.le_refl _) | (with_reducible exact z3) | (with_reducible exact z4) | (with_reducible exact le1 z3) | (with_reducible exact le1 z4) | (with_reducible exact le0 _))) _) | (with_reducible refine Below.setCell ?_ (by first | (with_reducible exact Nat.le_refl _) | (with_reducible exact z3) | (with_reducible exact z4) | (with_reducible exact le1 z3) | (with_reducible exact le1 z4) | (with_reducible exact le0 _)) _)))) hb3; have z3 := hA3.size; (try have r0 := (show ZRow w3 W2.heap.size from ZRow.later (by first | (with_reducible exact (ZRow.new _).draw) | (with_reducible exact ((ZRow.new _).more _).draw)) hb3)); (try have r1 := (show ZRow w3 (W2.heap.size + 1) from ZRow.later (by with_reducible exact (ZRow.new1 _ _).draw) hb3)); (try (revert r0; intro r0; obtain ⟨rn, rm⟩ := ne_both r0.facts.2.2)); (try (revert r1; intro r1; obtain ⟨rn1, rm1⟩ := ne_both r1.facts.2.2)))
        | (go_at_call 43; (with_reducible refine (unhide HO2 _).mono ?_); rintro e w4 ⟨rfl, hb4⟩; have hA4 := bnext (show Below W2.heap.size W2 _ by (repeat (first | (with_reducible exact hA4) | (with_reducible exact hA3) | (with_reducible exact Below.refl _ _) | (with_reducible refine Below.drew ?_) | (with_reducible refine Below.alloc ?_ (by first | (with_reducible exact Nat.le_refl _) | (with_reducible exact z3) | (with_reducible exact z4) | (with_reducible exact le1 z3) | (with_reducible exact le1 z4) | (with_reducible exact le0 _) | (simp only [World.size_alloc]; first | (with_reducible exact Nat.le_refl _) | (with_reducible exact z3) | (with_reducible exact z4) | (with_reducible exact le1 z3) | (with_reducible exact le1 z4) | (with_reducible exact le0 _)) | (simp only [World.size_setCell]; first | (with_reducible exact Nat.le_refl _) | (with_reducible exact z3) | (with_reducible exact z4) | (with_reducible exact le1 z3) | (with_reducible exact le1 z4) | (with_reducible exact le0 _)) | (simp; first | (with_reducible exact Nat.le_refl _) | (with_reducible exact z3) | (with_reducible exact z4) | (with_reducible exact le1 z3) | (with_reducible exact le1 z4) | (with_reducible exact le0 _))) _) | (with_reducible refine Below.setCell ?_ (by first | (with_reducible exact Nat.le_refl _) | (with_reducible exact z3) | (with_reducible exact z4) | (with_reducible exact le1 z3) | (with_reducible exact le1 z4) | (with_reducible exact le0 _)) _)))) hb4; have z4 := hA4.size; (try have q0 := (show ZRow w4 W2.heap.size from ZRow.later (by revert r0; intro r0; first | (with_reducible exact r0) | (with_reducible exact r0.more _)) hb4)); (try have q1 := (show ZRow w4 (W2.heap.size + 1) from ZRow.later (by revert r1; intro r1; with_reducible exact r1) hb4)); (try have q2 := (show ZRow w4 w3.heap.size from ZRow.later (by first | (with_reducible exact ZRow.new _) | (with_reducible exact (ZRow.new _).more _)) hb4)); (try have q3 := (show ZRow w4 (w3.heap.size + 1) from ZRow.later (by with_reducible exact ZRow.new1 _ _) hb4)); (try (revert q0; intro q0; obtain ⟨⟨aq0, aq1, aq2, aq3⟩, aqf, aql⟩ := q0.facts; obtain ⟨aqn, aqm⟩ := ne_both aql; have aqg := fun O => (q0.more O).facts.1.1; have aqh := fun O => (q0.more O).facts.1.2.1; have aqi := fun O => (q0.more O).facts.1.2.2.1; have aqj := fun O => (q0.more O).facts.1.2.2.2; have aqk := fun O => (q0.more O).facts.2.1)); (try (revert q1; intro q1; obtain ⟨⟨bq0, bq1, bq2, bq3⟩, bqf, bql⟩ := q1.facts; obtain ⟨bqn, bqm⟩ := ne_both bql; have bqg := fun O => (q1.more O).facts.1.1; have bqh := fun O => (q1.more O).facts.1.2.1; have bqi := fun O => (q1.more O).facts.1.2.2.1; have bqj := fun O => (q1.more O).facts.1.2.2.2; have bqk := fun O => (q1.more O).facts.2.1)); (try (revert q2; intro q2; obtain ⟨⟨cq0, cq1, cq2, cq3⟩, cqf, cql⟩ := q2.facts; obtain ⟨cqn, cqm⟩ := ne_both cql; have cqg := fun O => (q2.more O).facts.1.1; have cqh := fun O => (q2.more O).facts.1.2.1; have cqi := fun O => (q2.more O).facts.1.2.2.1; have cqj := fun O => (q2.more O).facts.1.2.2.2; have cqk := fun O => (q2.more O).facts.2.1)); (try (revert q3; intro q3; obtain ⟨⟨dq0, dq1, dq2, dq3⟩, dqf, dql⟩ := q3.facts; obtain ⟨dqn, dqm⟩ := ne_both dql; have dqg := fun O => (q3.more O).facts.1.1; have dqh := fun O => (q3.more O).facts.1.2.1; have dqi := fun O => (q3.more O).facts.1.2.2.1; have dqj := fun O => (q3.more O).facts.1.2.2.2; have dqk := fun O => (q3.more O).facts.2.1))))
    all_goals go_wp2_with fail
    all_goals go_meet
    all_goals refine ⟨_, _, rfl, rfl, ?_, ?_, ?_⟩
    all_goals (repeat (first | (with_reducible exact hA4) | (with_reducible exact q0) | (with_reducible exact q1) | (with_reducible exact q2) | (with_reducible exact q3) | (with_reducible exact at_new rfl) | (with_reducible exact at_new1) | (with_reducible exact at_mid) | (with_reducible exact at_newS) | (with_reducible refine Below.setCell ?_ ?_ _) | (with_reducible refine Below.alloc ?_ ?_ _) | (with_reducible refine sets4_same ?_) | (with_reducible refine sets4_other ?_ ?_) | (with_reducible refine at_oldS ?_) | (with_reducible refine zrow_other ?_ ?_) | (with_reducible refine ZRow.more ?_ _) | (with_reducible exact z3) | (with_reducible exact z4) | (with_reducible exact Nat.le_refl _) | (with_reducible exact le0 _) | (with_reducible exact le1 z3) | (with_reducible assumption) | (with_reducible exact Nat.succ_ne_self _) | (with_reducible exact (Nat.succ_ne_self _).symm) | (simp only [World.size_alloc]; (with_reducible exact le1 z4)) | (simp only [World.size_setCell]; (with_reducible exact z4))))
  case rest =>
    obtain ⟨g6, g7, rfl, rfl, r6, r7, hbc⟩ := hcut
    have HBc := hide ((unhide HB2).later hbc)
    obtain ⟨s0, s1, s2, s3⟩ := set_cells r6
    obtain ⟨t0, t1, t2, t3⟩ := set_cells r7
    clear r6 r7 hbc HB2 c1 c2 hlt HK
    go_wp2_with fail
    refine (unhide HMe _).mono ?_
    rintro e w5 ⟨rfl, hb5⟩
    have HB5 := hide ((unhide HBc).later hb5)
    have s0 := cell_later hb5 s0
    have s1 := cell_later hb5 s1
    have s2 := cell_later hb5 s2
    have s3 := cell_later hb5 s3
    have t0 := cell_later hb5 t0
    have t1 := cell_later hb5 t1
    have t2 := cell_later hb5 t2
    have t3 := cell_later hb5 t3
    clear hb5 HBc
    cases em with
    | false =>
      have gz := (unhide HB5).pz
      have HBl := hide (unhide HB5).bel
      go_wp2_with (first
        | (refine wpList_store_row rfl 24 _ _ rfl (w.heap.size + 1 + 1) zeroP rfl rfl 24 zeroP gz (leafO_info _ _ _) rfl (leafO_one _ _ _) ?_)
        | fail)
      (try simp only [Exit.inBlock, Exit.then])
      exact bodyPost_ret (results_patS rfl _ _ (w.heap.size + 1 + 1) zeroP rfl (setRow_heap _ _ _ _ _ _ gz) (leafO_info _ _ _)) rfl ⟨rfl, below_setRow (unhide HBl) _ (by omega) _⟩
    | true =>
      go_wp2_with fail
      refine (unhide HUn _).mono ?_
      rintro e w6 ⟨rfl, hb6⟩
      have HB6 := hide ((unhide HB5).later hb6)
      clear hb6 HB5
      go_wp2_with fail
      refine (unhide HAn _).mono ?_
      rintro e w7 ⟨rfl, hb7⟩
      have gz := ((unhide HB6).later hb7).pz
      have HBl := hide ((unhide HB6).later hb7).bel
      clear hb7 HB6
      go_wp2_with (first
        | (refine wpList_store_row rfl 24 _ _ rfl (w.heap.size + 1 + 1) (patO AP) rfl rfl 24 zeroP gz size_pat rfl (patO_one AP) ?_)
        | fail)
      (try simp only [Exit.inBlock, Exit.then])
      exact bodyPost_ret (results_patS rfl _ _ (w.heap.size + 1 + 1) (patO AP) rfl (setRow_heap _ _ _ _ _ _ gz) size_pat) rfl ⟨rfl, below_setRow (unhide HBl) _ (by omega) _⟩
set_option maxRecDepth 100000 in
set_option maxHeartbeats 4000000 in
theorem either_not (a b : PT) (w : World) (h : (oneB a && oneB b) = false) : Calls Tryd.prog 82 #[pv a, pv b] w fun e w' => e = .returned (.tuple #[.agg zeroP, .bool false]) ∧ Below w.heap.size w w' := by
  have H1 := hide (fun W => isOneByte_any a W)
  have H2 := hide (fun W => isOneByte_any b W)
  have HBx := hide (boxes_new w a b)
  unfold pv at H1 H2 ⊢
  unfold patO zeroP leafO at HBx
  generalize oneB a = oa at *
  generalize oneB b = ob at *
  cases oa with
  | false =>
    clear H2 h
    go_enter Tryd.func82, Tryd.ntmps82
    go_wp2_with fail
    refine (unhide H1 _).mono ?_
    rintro e W1 ⟨rfl, hb1⟩
    have gz := ((unhide HBx).later hb1).pz
    have HBl := hide ((unhide HBx).later hb1).bel
    clear hb1 HBx
    go_wp2_with (first
      | (refine wpList_store_row rfl 24 _ _ rfl (w.heap.size + 1 + 1) zeroP rfl rfl 24 zeroP gz (leafO_info _ _ _) rfl (leafO_one _ _ _) ?_)
      | fail)
    (try simp only [Exit.inBlock, Exit.then])
    exact bodyPost_ret (results_patS rfl _ _ (w.heap.size + 1 + 1) zeroP rfl (setRow_heap _ _ _ _ _ _ gz) (leafO_info _ _ _)) rfl ⟨rfl, below_setRow (unhide HBl) _ (by omega) _⟩
  | true =>
    cases ob with
    | true => cases h
    | false =>
      clear h
      go_enter Tryd.func82, Tryd.ntmps82
      go_wp2_with fail
      refine (unhide H1 _).mono ?_
      rintro e W1 ⟨rfl, hb1⟩
      have HB1 := hide ((unhide HBx).later hb1)
      obtain ⟨k0, k1, k2, k3, k4⟩ := pats5s (unhide HB1).pb
      clear hb1 HBx
      go_wp2_with fail
      refine (unhide H2 _).mono ?_
      rintro e W2 ⟨rfl, hb2⟩
      have gz := ((unhide HB1).later hb2).pz
      have HBl := hide ((unhide HB1).later hb2).bel
      clear hb2 HB1 k0 k1 k2 k3 k4
      go_wp2_with (first
        | (refine wpList_store_row rfl 24 _ _ rfl (w.heap.size + 1 + 1) zeroP rfl rfl 24 zeroP gz (leafO_info _ _ _) rfl (leafO_one _ _ _) ?_)
        | fail)
      (try simp only [Exit.inBlock, Exit.then])
      exact bodyPost_ret (results_patS rfl _ _ (w.heap.size + 1 + 1) zeroP rfl (setRow_heap _ _ _ _ _ _ gz) (leafO_info _ _ _)) rfl ⟨rfl, below_setRow (unhide HBl) _ (by omega) _⟩
theorem either_any (a b : PT) (w : World) (ha : a.t.size ≤ 65536) (hb : b.t.size ≤ 65536) : Calls Tryd.prog 82 #[pv a, pv b] w fun e w' => e = .returned (joinV (eitherP a b)) ∧ Below w.heap.size w w' := by
  cases h : (oneB a && oneB b) with
  | true =>
    obtain ⟨h1, h2⟩ := (Bool.and_eq_true _ _).mp h
    exact either_two a b w ha hb h1 h2
  | false =>
    have e : eitherP a b = none := by unfold eitherP; rw [h, if_pos rfl]
    rw [e]
    exact either_not a b w h
end Go.Proofs.YtbmngbpillihaaaDoor
