/- Rows of patterns, by their five cells. One kid more: the function that tune.fewer makes. What is kept of kids, one behind the other. What is kept of kids lies there. -/
import Derived.Test.YtbmngbpillihaaaDoorSimpUpToP
import Derived.Test.YtbmngbpillihaaaDoorSimpBehindP
import Derived.Test.YtbmngbpillihaaaDoorOf5M
import Derived.Deep.RegionHeld3
import Derived.Deep.RegionLaw
import Derived.Test.YtbmngbpillihaaaDoorSimpQuickM
import Derived.Test.YtbmngbpillihaaaDoorSimpCanM
namespace Go.Proofs.YtbmngbpillihaaaDoor
open Go.RowKit

def five (T : PT) : List Value := [.int .i64 T.k, .string T.t, .int .i64 T.n, .string T.nm, .slice T.xa T.len T.cap]
structure Q5 where
  a : Value
  b : Value
  c : Value
  d : Value
  e : Value
def qV (x : Q5) : List Value := [x.a, x.b, x.c, x.d, x.e]
theorem qV_len (x : Q5) : (qV x).length = 5 := rfl
def q5 (T : PT) : Q5 := ⟨.int .i64 T.k, .string T.t, .int .i64 T.n, .string T.nm, .slice T.xa T.len T.cap⟩
theorem five_len (T : PT) : (five T).length = 5 := rfl
theorem five_one (T : PT) : ∀ u ∈ five T, u.oneCell' = true := by
  intro u hu
  simp only [five, List.mem_cons, List.not_mem_nil, or_false] at hu
  rcases hu with rfl | rfl | rfl | rfl | rfl <;> rfl
theorem info_pat : (Tryd.prog.info? 24).map (fun i => (i.zero, i.size, i.bytes)) = some (some (.agg zeroP), 5, 72) := by kernel_rfl
theorem flat_q : ∀ l : List PT, flat five l = flat qV (l.map q5)
  | [] => rfl
  | T :: l => by show five T ++ flat five l = qV (q5 T) ++ flat qV (l.map q5); rw [flat_q l]; rfl
theorem row_q {w : World} {B : Nat} {v : Value} {l : List PT} : Row w B 24 5 five v l ↔ Row w B 24 5 qV v (l.map q5) := by
  unfold Row
  rw [flat_q, List.length_map]
theorem row_put5 {w : World} {B g n cap i : Nat} {v : Value} {l : List PT} (p : PT) (h : Row w B 24 5 five v l) (hv : v = .slice (some ⟨g, 0, none⟩) n cap) (hi : i < l.length) :
    Row (((((w.setCell ⟨g, i * 5, none⟩ (.int .i64 p.k)).setCell ⟨g, i * 5 + 1, none⟩ (.string p.t)).setCell ⟨g, i * 5 + 2, none⟩ (.int .i64 p.n)).setCell ⟨g, i * 5 + 3, none⟩ (.string p.nm)).setCell ⟨g, i * 5 + 4, none⟩ (.slice p.xa p.len p.cap)) B 24 5 five v (l.set i p) := by
  have h0 := row_q.1 h
  have hx : (l.map q5)[i]? = some (q5 l[i]) := by rw [List.getElem?_map, List.getElem?_eq_getElem hi]; rfl
  obtain ⟨z, hz⟩ : ∃ z, z = q5 l[i] := ⟨_, rfl⟩
  rw [← hz] at hx
  have hl : i < (l.map q5).length := by simpa using hi
  have s1 := h0.set qV_len hv hx (k := 0) (y := ⟨.int .i64 p.k, z.b, z.c, z.d, z.e⟩) (u := .int .i64 p.k) (by decide) rfl
  have s2 := s1.set qV_len hv (i := i) (x := ⟨.int .i64 p.k, z.b, z.c, z.d, z.e⟩) (List.getElem?_set_self hl) (k := 1) (y := ⟨.int .i64 p.k, .string p.t, z.c, z.d, z.e⟩) (u := .string p.t) (by decide) rfl
  have s3 := s2.set qV_len hv (i := i) (x := ⟨.int .i64 p.k, .string p.t, z.c, z.d, z.e⟩) (List.getElem?_set_self (by simpa using hl)) (k := 2) (y := ⟨.int .i64 p.k, .string p.t, .int .i64 p.n, z.d, z.e⟩) (u := .int .i64 p.n) (by decide) rfl
  have s4 := s3.set qV_len hv (i := i) (x := ⟨.int .i64 p.k, .string p.t, .int .i64 p.n, z.d, z.e⟩) (List.getElem?_set_self (by simpa using hl)) (k := 3) (y := ⟨.int .i64 p.k, .string p.t, .int .i64 p.n, .string p.nm, z.e⟩) (u := .string p.nm) (by decide) rfl
  have s5 := s4.set qV_len hv (i := i) (x := ⟨.int .i64 p.k, .string p.t, .int .i64 p.n, .string p.nm, z.e⟩) (List.getElem?_set_self (by simpa using hl)) (k := 4) (y := q5 p) (u := .slice p.xa p.len p.cap) (by decide) rfl
  simp only [List.set_set] at s5
  rw [row_q, List.map_set]
  exact s5
theorem row_five {w : World} {B g cap i : Nat} {v : Value} {l : List PT} {x : PT} (h : Row w B 24 5 five v l) (hv : v = .slice (some ⟨g, 0, none⟩) l.length cap) (hx : l[i]? = some x) :
    w.cell? ⟨g, i * 5, none⟩ = some (.int .i64 x.k) ∧ w.cell? ⟨g, i * 5 + 1, none⟩ = some (.string x.t) ∧ w.cell? ⟨g, i * 5 + 2, none⟩ = some (.int .i64 x.n) ∧ w.cell? ⟨g, i * 5 + 3, none⟩ = some (.string x.nm) ∧ w.cell? ⟨g, i * 5 + 4, none⟩ = some (.slice x.xa x.len x.cap) :=
  ⟨h.cell five_len hv hx (k := 0) rfl, h.cell five_len hv hx (k := 1) rfl, h.cell five_len hv hx (k := 2) rfl, h.cell five_len hv hx (k := 3) rfl, h.cell five_len hv hx (k := 4) rfl⟩
def zeroT : PT := mkP 0 ⟨#[]⟩ 0 ⟨#[]⟩ []
theorem set_last (l : List PT) (z p : PT) : (l ++ [z]).set l.length p = l ++ [p] := by
  rw [List.set_append_right _ _ (Nat.le_refl _), Nat.sub_self]; rfl
def stV (zo zi zl : Nat) : Value := .func (.func 102) #[] #[.pointer (some ⟨zo, 0, none⟩), .pointer (some ⟨zi, 0, none⟩), .pointer (some ⟨zl, 0, none⟩)]
end Go.Proofs.YtbmngbpillihaaaDoor

namespace Go.Proofs.YtbmngbpillihaaaDoor
open Go.RowKit

structure FewAt (w : World) (B zs zO zj zo zi zl : Nat) (fi fl fj : Nat) (ov : Bool) (v : Value) (l : List PT) : Prop where
  bs : w.heap[zs]? = some (box1 (stV zo zi zl) 36)
  bO : w.heap[zO]? = some (box1 v 22)
  bj : w.heap[zj]? = some (box1 (fnV fj) 108)
  bo : w.heap[zo]? = some (box1 (.bool ov) 4)
  bi : w.heap[zi]? = some (box1 (fnV fi) 36)
  bl : w.heap[zl]? = some (box1 (fnV fl) 36)
  row : Row w B 24 5 five v l
  low : B ≤ zO ∧ B ≤ zo ∧ B ≤ w.heap.size
theorem ne_box {w : World} {a b : Nat} {c d : Array Value} {t t' : TypeId} (ha : w.heap[a]? = some (.cells c t (0, 0))) (hb : w.heap[b]? = some (.cells d t' (0, 0))) (h : t ≠ t') : a ≠ b := fun e => by
  rw [e, hb] at ha
  injection ha with ha
  injection ha with _ ha
  exact h ha.symm
section
variable {w w1 : World} {B zs zO zj zo zi zl fi fl fj : Nat} {ov ov' : Bool} {v v' : Value} {l l' : List PT}
theorem FewAt.later (h : FewAt w B zs zO zj zo zi zl fi fl fj ov v l) (hb : Below w.heap.size w w1) : FewAt w1 B zs zO zj zo zi zl fi fl fj ov v l :=
  ⟨row_below h.bs hb, row_below h.bO hb, row_below h.bj hb, row_below h.bo hb, row_below h.bi hb, row_below h.bl hb, h.row.later hb, h.low.1, h.low.2.1, Nat.le_trans h.low.2.2 hb.size⟩
theorem FewAt.over (h : FewAt w B zs zO zj zo zi zl fi fl fj ov v l) (hb : But zo w w1) (ho : w1.heap[zo]? = some (box1 (.bool ov') 4)) : FewAt w1 B zs zO zj zo zi zl fi fl fj ov' v l :=
  ⟨hb.row (ne_box h.bs h.bo (by decide)) h.bs, hb.row (ne_box h.bO h.bo (by decide)) h.bO, hb.row (ne_box h.bj h.bo (by decide)) h.bj, ho, hb.row (ne_box h.bi h.bo (by decide)) h.bi, hb.row (ne_box h.bl h.bo (by decide)) h.bl, h.row.keepBut h.bo (by decide) hb, h.low.1, h.low.2.1, Nat.le_trans h.low.2.2 hb.size⟩
theorem below_butB {a : World} (h : Below B a w) (hb : But zo w w1) (hB : B ≤ a.heap.size) (hz : B ≤ zo) : Below B a w1 :=
  ⟨hb.os.trans h.os, hb.tape.trans h.tape, hb.output.trans h.output, Nat.le_trans h.size hb.size, fun i hi => (hb.block i (by have := h.size; omega) (by omega)).trans (h.block i hi)⟩
theorem FewAt.grown (h : FewAt w B zs zO zj zo zi zl fi fl fj ov v l) (hg : w.grownBy w1 v.ownBlock) : w1.heap[zs]? = some (box1 (stV zo zi zl) 36) ∧ w1.heap[zO]? = some (box1 v 22) ∧ w1.heap[zj]? = some (box1 (fnV fj) 108) ∧ w1.heap[zo]? = some (box1 (.bool ov) 4) ∧ w1.heap[zi]? = some (box1 (fnV fi) 36) ∧ w1.heap[zl]? = some (box1 (fnV fl) 36) :=
  ⟨grown_blk h.bs (fun j hj => h.row.type hj) (by decide) hg, grown_blk h.bO (fun j hj => h.row.type hj) (by decide) hg, grown_blk h.bj (fun j hj => h.row.type hj) (by decide) hg, grown_blk h.bo (fun j hj => h.row.type hj) (by decide) hg, grown_blk h.bi (fun j hj => h.row.type hj) (by decide) hg, grown_blk h.bl (fun j hj => h.row.type hj) (by decide) hg⟩
end
def PutPost (B zs zO zj zo zi zl fi fl fj : Nat) (ov : Bool) (l : List PT) (w : World) (e : Ending) (w' : World) : Prop := e = .returned (.tuple #[]) ∧ ∃ v', FewAt w' B zs zO zj zo zi zl fi fl fj ov v' l ∧ Below B w w'
theorem put_post {B zs zO zj zo zi zl fi fl fj : Nat} {ov : Bool} {v : Value} {l : List PT} {w w' : World} (h : FewAt w' B zs zO zj zo zi zl fi fl fj ov v l) (hb : Below B w w') : PutPost B zs zO zj zo zi zl fi fl fj ov l w (.returned (.tuple #[])) w' := ⟨rfl, v, h, hb⟩
theorem row_allocP {w : World} {B : Nat} {v : Value} {l : List PT} (h : Row w B 24 5 five v l) (o : Obj) : Row (w.alloc o) B 24 5 five v l := h.later ((Below.refl _ _).alloc (Nat.le_refl _) _)
theorem row_drewP {w : World} {B : Nat} {v : Value} {l : List PT} (h : Row w B 24 5 five v l) : Row w.drew B 24 5 five v l := h.later (Below.refl _ _).drew
theorem zero_cell {w : World} : ∀ k u, (five zeroT)[k]? = some u → (w.alloc (.cells zeroP 24)).cell? ⟨w.heap.size, k, none⟩ = some u := by
  intro k u h
  rw [cell_of_row _ _ _ _ _ _ (at_new rfl)]
  exact (show (five zeroT).toArray[k]? = some u by rw [List.getElem?_toArray]; exact h)
theorem row_last {w : World} {B g cap : Nat} {l : List PT} (h : Row w B 24 5 five (.slice (some ⟨g, 0, none⟩) (l.length + 1) cap) (l ++ [zeroT])) :
    (w.cell? ⟨g, l.length * 5, none⟩ = some (.int .i64 0) ∧ w.cell? ⟨g, l.length * 5 + 1, none⟩ = some (.string ⟨#[]⟩) ∧ w.cell? ⟨g, l.length * 5 + 2, none⟩ = some (.int .i64 0) ∧ w.cell? ⟨g, l.length * 5 + 3, none⟩ = some (.string ⟨#[]⟩) ∧ w.cell? ⟨g, l.length * 5 + 4, none⟩ = some (.slice none 0 0)) ∧ ∀ o, w.frozen? ⟨g, o, none⟩ = false :=
  ⟨row_five h (cap := cap) (by simp) (i := l.length) (x := zeroT) (by simp), fun o => h.frozen rfl o⟩
theorem len_one (l : List PT) (z : PT) : (l ++ [z]).length = l.length + 1 := by simp
theorem put_done {w W w' : World} {B zs zO zj zo zi zl fi fl fj g cap : Nat} {ov : Bool} {v : Value} {l : List PT} (p : PT) (h : FewAt W B zs zO zj zo zi zl fi fl fj ov v l) (hb : Below B w W) (hB : B ≤ w.heap.size) (hg : W.grownBy w' v.ownBlock) (hr : Row w' B 24 5 five (.slice (some ⟨g, 0, none⟩) (l.length + 1) cap) (l ++ [zeroT])) :
    (FewAt ((((((w'.setCell ⟨g, l.length * 5, none⟩ (.int .i64 p.k)).setCell ⟨g, l.length * 5 + 1, none⟩ (.string p.t)).setCell ⟨g, l.length * 5 + 2, none⟩ (.int .i64 p.n)).setCell ⟨g, l.length * 5 + 3, none⟩ (.string p.nm)).setCell ⟨g, l.length * 5 + 4, none⟩ (.slice p.xa p.len p.cap)).setCell ⟨zO, 0, none⟩ (.slice (some ⟨g, 0, none⟩) (l.length + 1) cap)) B zs zO zj zo zi zl fi fl fj ov (.slice (some ⟨g, 0, none⟩) (l.length + 1) cap) (l ++ [p]) ∧
      Below B w ((((((w'.setCell ⟨g, l.length * 5, none⟩ (.int .i64 p.k)).setCell ⟨g, l.length * 5 + 1, none⟩ (.string p.t)).setCell ⟨g, l.length * 5 + 2, none⟩ (.int .i64 p.n)).setCell ⟨g, l.length * 5 + 3, none⟩ (.string p.nm)).setCell ⟨g, l.length * 5 + 4, none⟩ (.slice p.xa p.len p.cap)).setCell ⟨zO, 0, none⟩ (.slice (some ⟨g, 0, none⟩) (l.length + 1) cap))) ∧
    (FewAt ((((((w'.setCell ⟨zO, 0, none⟩ (.slice (some ⟨g, 0, none⟩) (l.length + 1) cap)).setCell ⟨g, l.length * 5, none⟩ (.int .i64 p.k)).setCell ⟨g, l.length * 5 + 1, none⟩ (.string p.t)).setCell ⟨g, l.length * 5 + 2, none⟩ (.int .i64 p.n)).setCell ⟨g, l.length * 5 + 3, none⟩ (.string p.nm)).setCell ⟨g, l.length * 5 + 4, none⟩ (.slice p.xa p.len p.cap)) B zs zO zj zo zi zl fi fl fj ov (.slice (some ⟨g, 0, none⟩) (l.length + 1) cap) (l ++ [p]) ∧
      Below B w ((((((w'.setCell ⟨zO, 0, none⟩ (.slice (some ⟨g, 0, none⟩) (l.length + 1) cap)).setCell ⟨g, l.length * 5, none⟩ (.int .i64 p.k)).setCell ⟨g, l.length * 5 + 1, none⟩ (.string p.t)).setCell ⟨g, l.length * 5 + 2, none⟩ (.int .i64 p.n)).setCell ⟨g, l.length * 5 + 3, none⟩ (.string p.nm)).setCell ⟨g, l.length * 5 + 4, none⟩ (.slice p.xa p.len p.cap))) := by
  obtain ⟨b1, b2, b3, b4, b5, b6⟩ := h.grown hg
  obtain ⟨cur, hcur⟩ := hr.type (k := g) rfl
  have hlow := (hr.low (k := g) rfl).1
  have hb' := below_grown hb h.row hB hg
  have hlt : l.length < (l ++ [zeroT]).length := by simp
  have n1 : zs ≠ g := ne_box b1 hcur (by decide)
  have n2 : zO ≠ g := ne_box b2 hcur (by decide)
  have n3 : zj ≠ g := ne_box b3 hcur (by decide)
  have n4 : zo ≠ g := ne_box b4 hcur (by decide)
  have n5 : zi ≠ g := ne_box b5 hcur (by decide)
  have n6 : zl ≠ g := ne_box b6 hcur (by decide)
  have m1 : zs ≠ zO := ne_box b1 b2 (by decide)
  have m3 : zj ≠ zO := ne_box b3 b2 (by decide)
  have m4 : zo ≠ zO := ne_box b4 b2 (by decide)
  have m5 : zi ≠ zO := ne_box b5 b2 (by decide)
  have m6 : zl ≠ zO := ne_box b6 b2 (by decide)
  have hsz : B ≤ w'.heap.size := Nat.le_trans h.low.2.2 hg.size
  have five_but : ∀ X : World, But g X (((((X.setCell ⟨g, l.length * 5, none⟩ (.int .i64 p.k)).setCell ⟨g, l.length * 5 + 1, none⟩ (.string p.t)).setCell ⟨g, l.length * 5 + 2, none⟩ (.int .i64 p.n)).setCell ⟨g, l.length * 5 + 3, none⟩ (.string p.nm)).setCell ⟨g, l.length * 5 + 4, none⟩ (.slice p.xa p.len p.cap)) := fun X => (((((But.refl g X).setCell _ _).setCell _ _).setCell _ _).setCell _ _).setCell _ _
  constructor
  · have hp := row_put5 p hr rfl hlt
    rw [set_last] at hp
    have hq := five_but w'
    generalize (((((w'.setCell ⟨g, l.length * 5, none⟩ (.int .i64 p.k)).setCell ⟨g, l.length * 5 + 1, none⟩ (.string p.t)).setCell ⟨g, l.length * 5 + 2, none⟩ (.int .i64 p.n)).setCell ⟨g, l.length * 5 + 3, none⟩ (.string p.nm)).setCell ⟨g, l.length * 5 + 4, none⟩ (.slice p.xa p.len p.cap)) = X at *
    have hO := hq.row n2 b2
    have hu : But zO X (X.setCell ⟨zO, 0, none⟩ (.slice (some ⟨g, 0, none⟩) (l.length + 1) cap)) := (But.refl zO X).setCell _ _
    refine ⟨⟨hu.row m1 (hq.row n1 b1), ?_, hu.row m3 (hq.row n3 b3), hu.row m4 (hq.row n4 b4), hu.row m5 (hq.row n5 b5), hu.row m6 (hq.row n6 b6), hp.keepBut hO (by decide) hu, h.low.1, h.low.2.1, ?_⟩, ?_⟩
    · exact box1_set hO
    · exact Nat.le_trans hsz (Nat.le_trans hq.size hu.size)
    · exact below_butB (below_butB hb' hq hB hlow) hu hB h.low.1
  · have hu : But zO w' (w'.setCell ⟨zO, 0, none⟩ (.slice (some ⟨g, 0, none⟩) (l.length + 1) cap)) := (But.refl zO w').setCell _ _
    have hO := box1_set (u := .slice (some ⟨g, 0, none⟩) (l.length + 1) cap) b2
    have hr2 := hr.keepBut b2 (by decide) hu
    have hp := row_put5 p hr2 rfl hlt
    rw [set_last] at hp
    have hq := five_but (w'.setCell ⟨zO, 0, none⟩ (.slice (some ⟨g, 0, none⟩) (l.length + 1) cap))
    refine ⟨⟨hq.row n1 (hu.row m1 b1), hq.row n2 hO, hq.row n3 (hu.row m3 b3), hq.row n4 (hu.row m4 b4), hq.row n5 (hu.row m5 b5), hq.row n6 (hu.row m6 b6), hp, h.low.1, h.low.2.1, ?_⟩, ?_⟩
    · exact Nat.le_trans hsz (Nat.le_trans hu.size hq.size)
    · exact below_butB (below_butB hb' hu hB h.low.1) hq hB hlow
theorem zero_later {w w' : World} (hb : Below (w.alloc (.cells #[.int .i64 0, .string ⟨#[]⟩, .int .i64 0, .string ⟨#[]⟩, .slice none 0 0] 24)).drew.heap.size (w.alloc (.cells #[.int .i64 0, .string ⟨#[]⟩, .int .i64 0, .string ⟨#[]⟩, .slice none 0 0] 24)).drew w') :
    (w'.cell? ⟨w.heap.size, 0, none⟩ = some (.int .i64 0) ∧ w'.cell? ⟨w.heap.size, 1, none⟩ = some (.string ⟨#[]⟩) ∧ w'.cell? ⟨w.heap.size, 2, none⟩ = some (.int .i64 0) ∧ w'.cell? ⟨w.heap.size, 3, none⟩ = some (.string ⟨#[]⟩) ∧ w'.cell? ⟨w.heap.size, 4, none⟩ = some (.slice none 0 0)) ∧ ∀ o, w'.frozen? ⟨w.heap.size, o, none⟩ = false := by
  have h : w'.heap[w.heap.size]? = some (.cells zeroP 24 (0, 0)) := row_below (show (w.alloc (.cells zeroP 24)).drew.heap[w.heap.size]? = _ from at_new rfl) hb
  exact ⟨⟨(cell_of_row _ _ 0 _ _ _ h).trans rfl, (cell_of_row _ _ 1 _ _ _ h).trans rfl, (cell_of_row _ _ 2 _ _ _ h).trans rfl, (cell_of_row _ _ 3 _ _ _ h).trans rfl, (cell_of_row _ _ 4 _ _ _ h).trans rfl⟩, fun o => frozen_of_row _ _ o _ _ h⟩
theorem zero_row {w w' : World} (hb : Below (w.alloc (.cells #[.int .i64 0, .string ⟨#[]⟩, .int .i64 0, .string ⟨#[]⟩, .slice none 0 0] 24)).drew.heap.size (w.alloc (.cells #[.int .i64 0, .string ⟨#[]⟩, .int .i64 0, .string ⟨#[]⟩, .slice none 0 0] 24)).drew w') : w'.heap[w.heap.size]? = some (.cells #[.int .i64 0, .string ⟨#[]⟩, .int .i64 0, .string ⟨#[]⟩, .slice none 0 0] 24 (0, 0)) :=
  row_below (show (w.alloc (.cells #[.int .i64 0, .string ⟨#[]⟩, .int .i64 0, .string ⟨#[]⟩, .slice none 0 0] 24)).drew.heap[w.heap.size]? = _ from at_new rfl) hb
theorem five_set {w : World} {N : Nat} {a b c d e a' b' c' d' e' : Value} (h : w.heap[N]? = some (.cells #[a, b, c, d, e] 24 (0, 0))) :
    (((((w.setCell ⟨N, 0, none⟩ a').setCell ⟨N, 1, none⟩ b').setCell ⟨N, 2, none⟩ c').setCell ⟨N, 3, none⟩ d').setCell ⟨N, 4, none⟩ e').heap[N]? = some (.cells #[a', b', c', d', e'] 24 (0, 0)) :=
  heap_setCell_same _ N 4 _ _ _ (heap_setCell_same _ N 3 _ _ _ (heap_setCell_same _ N 2 _ _ _ (heap_setCell_same _ N 1 _ _ _ (heap_setCell_same _ N 0 _ _ _ h))))
theorem join_done {w W : World} {B zs zO zj zo zi zl fi fl fj g cap m : Nat} {ov : Bool} {l : List PT} (y : PT) (h : FewAt W B zs zO zj zo zi zl fi fl fj ov (.slice (some ⟨g, 0, none⟩) l.length cap) l) (hb : Below B w W) (hB : B ≤ w.heap.size) (hm : m < l.length) :
    FewAt (((((W.setCell ⟨g, m * 5, none⟩ (.int .i64 y.k)).setCell ⟨g, m * 5 + 1, none⟩ (.string y.t)).setCell ⟨g, m * 5 + 2, none⟩ (.int .i64 y.n)).setCell ⟨g, m * 5 + 3, none⟩ (.string y.nm)).setCell ⟨g, m * 5 + 4, none⟩ (.slice y.xa y.len y.cap)) B zs zO zj zo zi zl fi fl fj ov (.slice (some ⟨g, 0, none⟩) l.length cap) (l.set m y) ∧
    Below B w (((((W.setCell ⟨g, m * 5, none⟩ (.int .i64 y.k)).setCell ⟨g, m * 5 + 1, none⟩ (.string y.t)).setCell ⟨g, m * 5 + 2, none⟩ (.int .i64 y.n)).setCell ⟨g, m * 5 + 3, none⟩ (.string y.nm)).setCell ⟨g, m * 5 + 4, none⟩ (.slice y.xa y.len y.cap)) := by
  obtain ⟨cur, hcur⟩ := h.row.type (k := g) rfl
  have hlow := (h.row.low (k := g) rfl).1
  have hq : But g W (((((W.setCell ⟨g, m * 5, none⟩ (.int .i64 y.k)).setCell ⟨g, m * 5 + 1, none⟩ (.string y.t)).setCell ⟨g, m * 5 + 2, none⟩ (.int .i64 y.n)).setCell ⟨g, m * 5 + 3, none⟩ (.string y.nm)).setCell ⟨g, m * 5 + 4, none⟩ (.slice y.xa y.len y.cap)) := (((((But.refl g W).setCell _ _).setCell _ _).setCell _ _).setCell _ _).setCell _ _
  have hp := row_put5 y h.row rfl hm
  exact ⟨⟨hq.row (ne_box h.bs hcur (by decide)) h.bs, hq.row (ne_box h.bO hcur (by decide)) h.bO, hq.row (ne_box h.bj hcur (by decide)) h.bj, hq.row (ne_box h.bo hcur (by decide)) h.bo, hq.row (ne_box h.bi hcur (by decide)) h.bi, hq.row (ne_box h.bl hcur (by decide)) h.bl, hp, h.low.1, h.low.2.1, Nat.le_trans h.low.2.2 hq.size⟩, below_butB hb hq hB hlow⟩
end Go.Proofs.YtbmngbpillihaaaDoor

namespace Go.Proofs.YtbmngbpillihaaaDoor
open Go.RowKit

def stp (last idle : PT → Bool) (join : PT → PT → Option PT) (s : Bool × List PT) (p : PT) : Bool × List PT := if (s.1 || idle p) = true then s else (last p, addP join s.2 p)
theorem stp_fold (last idle : PT → Bool) (join : PT → PT → Option PT) : ∀ (F : List PT) (ov : Bool) (l : List PT), (F.foldl (stp last idle join) (ov, l)).2 = (stay last idle ov F).foldl (addP join) l
  | [], ov, l => by cases ov <;> rfl
  | p :: F, true, l => by
    show (F.foldl (stp last idle join) (stp last idle join (true, l) p)).2 = _
    rw [show stp last idle join (true, l) p = (true, l) from rfl, stp_fold last idle join F true l]; rfl
  | p :: F, false, l => by
    show (F.foldl (stp last idle join) (stp last idle join (false, l) p)).2 = (if idle p then stay last idle false F else p :: stay last idle (last p) F).foldl _ _
    cases h : idle p with
    | true => rw [show stp last idle join (false, l) p = (false, l) by unfold stp; rw [h]; rfl, stp_fold last idle join F false l]; rfl
    | false => rw [show stp last idle join (false, l) p = (last p, addP join l p) by unfold stp; rw [h]; rfl, stp_fold last idle join F (last p) _]; rfl
theorem few_fold (k : Int) (last idle : PT → Bool) (join : PT → PT → Option PT) (l : List PT) : fewP k last idle join l = ((flatK k l).foldl (stp last idle join) (false, [])).2 := (stp_fold last idle join _ false []).symm
theorem addP_len (join : PT → PT → Option PT) (l : List PT) (p : PT) : (addP join l p).length ≤ l.length + 1 := by
  unfold addP
  cases h : l.getLast? with
  | none => simp
  | some x =>
    dsimp only
    cases join x p with
    | none => simp
    | some y => simp <;> omega
theorem stp_len (last idle : PT → Bool) (join : PT → PT → Option PT) (s : Bool × List PT) (p : PT) : (stp last idle join s p).2.length ≤ s.2.length + 1 := by
  unfold stp
  split
  · omega
  · exact addP_len join s.2 p
theorem fold_len (last idle : PT → Bool) (join : PT → PT → Option PT) : ∀ (F : List PT) (s : Bool × List PT), (F.foldl (stp last idle join) s).2.length ≤ s.2.length + F.length
  | [], s => by simp
  | p :: F, s => by
    have h1 := fold_len last idle join F (stp last idle join s p)
    have h2 := stp_len last idle join s p
    simp only [List.foldl_cons, List.length_cons]; omega
def Fine5 (T : PT) : Prop := T.t.size ≤ 65536 ∧ 0 ≤ T.n ∧ T.n ≤ 65536
theorem addP_fine {join : PT → PT → Option PT} (hj : ∀ a b y, Fine5 a → Fine5 b → join a b = some y → Fine5 y) {l : List PT} {p : PT} (hl : ∀ x ∈ l, Fine5 x) (hp : Fine5 p) : ∀ x ∈ addP join l p, Fine5 x := by
  unfold addP
  cases h : l.getLast? with
  | none => intro x hx; rw [List.mem_singleton] at hx; rw [hx]; exact hp
  | some a =>
    dsimp only
    cases hy : join a p with
    | none =>
      intro x hx
      rcases List.mem_append.1 hx with q | q
      · exact hl x q
      · rw [List.mem_singleton] at q; rw [q]; exact hp
    | some y =>
      intro x hx
      rcases List.mem_append.1 hx with q | q
      · exact hl x ((List.dropLast_sublist l).subset q)
      · rw [List.mem_singleton] at q; rw [q]; exact hj a p y (hl a (List.mem_of_getLast? h)) hp hy
theorem stp_fine {last idle : PT → Bool} {join : PT → PT → Option PT} (hj : ∀ a b y, Fine5 a → Fine5 b → join a b = some y → Fine5 y) {s : Bool × List PT} {p : PT} (hl : ∀ x ∈ s.2, Fine5 x) (hp : Fine5 p) : ∀ x ∈ (stp last idle join s p).2, Fine5 x := by
  unfold stp
  split
  · exact hl
  · exact addP_fine hj hl hp
theorem behind_fine (a b y : PT) (ha : Fine5 a) (hb : Fine5 b) (h : behindP a b = some y) : Fine5 y := by
  unfold behindP at h
  split at h
  · cases h
  · split at h
    · rename_i h1
      injection h with h; subst h
      exact ⟨by show (a.t ++ b.t).size ≤ 65536; rw [ByteArray.size_append]; exact h1.2, Int.le_refl 0, by show (0 : Int) ≤ 65536; decide⟩
    · split at h
      · rename_i h2
        injection h with h; subst h
        unfold cntP
        split
        · exact ⟨by show (0 : Nat) ≤ 65536; decide, Int.le_refl 0, by show (0 : Int) ≤ 65536; decide⟩
        · split
          · exact ⟨by show (0 : Nat) ≤ 65536; decide, Int.le_refl 0, by show (0 : Int) ≤ 65536; decide⟩
          · exact ⟨by show (0 : Nat) ≤ 65536; decide, by show 0 ≤ a.n + b.n; have := ha.2.1; have := hb.2.1; omega, h2.2⟩
      · cases h
theorem tx_max (p : Nat → Bool) : ∀ n, (tx p n).length ≤ n
  | 0 => Nat.le_refl _
  | n + 1 => by
    have := tx_max p n
    unfold tx
    rw [List.length_append]
    split <;> simp <;> omega
theorem either_fine (a b y : PT) (_ha : Fine5 a) (_hb : Fine5 b) (h : eitherP a b = some y) : Fine5 y := by
  unfold eitherP at h
  split at h
  · cases h
  · split at h
    · injection h with h; subst h
      have ht : ∀ p, (txt p).size ≤ 65536 := fun p => by
        show (tx p 256).toArray.size ≤ _
        have := tx_max p 256
        simp only [List.size_toArray]; omega
      unfold anyP
      split
      · exact ⟨ht _, Int.le_refl 0, by show (0 : Int) ≤ 65536; decide⟩
      · exact ⟨ht _, Int.le_refl 0, by show (0 : Int) ≤ 65536; decide⟩
    · cases h
theorem flat_le (k : Int) (l : List PT) (n : Nat) : (flatK k (l.take n)).length ≤ (flatK k l).length := by
  conv => rhs; rw [← List.take_append_drop n l]
  unfold flatK
  rw [List.flatMap_append, List.length_append]
  omega
theorem bel_trans3 {a b c d : World} (h : Below a.heap.size a b) (k : Below b.heap.size b c) (m : Below a.heap.size c d) : Below a.heap.size a d := (h.trans (k.mono h.size)).trans m
theorem last_at {l : List PT} (h : 0 < l.length) : ∃ x, l[l.length - 1]? = some x ∧ l.getLast? = some x :=
  ⟨l[l.length - 1], List.getElem?_eq_getElem (by omega), by rw [List.getLast?_eq_getElem?, List.getElem?_eq_getElem (by omega)]⟩
theorem set_lastP (l : List PT) (y : PT) (h : 0 < l.length) : l.set (l.length - 1) y = l.dropLast ++ [y] := by
  obtain ⟨d, z, rfl⟩ : ∃ d z, l = d ++ [z] := ⟨_, _, (List.dropLast_concat_getLast (List.ne_nil_of_length_pos h)).symm⟩
  rw [List.set_append_right _ _ (by simp)]
  simp
end Go.Proofs.YtbmngbpillihaaaDoor

namespace Go.Proofs.YtbmngbpillihaaaDoor
open Go.RowKit

theorem addP_all {P : PT → Prop} {join : PT → PT → Option PT} (hj : ∀ a b y, P a → P b → join a b = some y → P y) {l : List PT} {p : PT} (hl : ∀ x ∈ l, P x) (hp : P p) : ∀ x ∈ addP join l p, P x := by
  unfold addP
  cases h : l.getLast? with
  | none => intro x hx; rw [List.mem_singleton] at hx; rw [hx]; exact hp
  | some a =>
    dsimp only
    cases hy : join a p with
    | none =>
      intro x hx
      rcases List.mem_append.1 hx with q | q
      · exact hl x q
      · rw [List.mem_singleton] at q; rw [q]; exact hp
    | some y =>
      intro x hx
      rcases List.mem_append.1 hx with q | q
      · exact hl x ((List.dropLast_sublist l).subset q)
      · rw [List.mem_singleton] at q; rw [q]; exact hj a p y (hl a (List.mem_of_getLast? h)) hp hy
theorem fold_all {P : PT → Prop} {last idle : PT → Bool} {join : PT → PT → Option PT} (hj : ∀ a b y, P a → P b → join a b = some y → P y) : ∀ (F : List PT) (s : Bool × List PT), (∀ x ∈ F, P x) → (∀ x ∈ s.2, P x) → ∀ x ∈ (F.foldl (stp last idle join) s).2, P x
  | [], s, _, hs => hs
  | p :: F, s, hF, hs => by
    refine fold_all hj F _ (fun x hx => hF x (List.mem_cons_of_mem _ hx)) ?_
    unfold stp
    split
    · exact hs
    · exact addP_all hj hs (hF p (List.mem_cons_self ..))
theorem few_all {P : PT → Prop} {k : Int} {last idle : PT → Bool} {join : PT → PT → Option PT} (hj : ∀ a b y, P a → P b → join a b = some y → P y) {l : List PT} (hl : ∀ x ∈ flatK k l, P x) : ∀ x ∈ fewP k last idle join l, P x := by
  rw [few_fold]
  exact fold_all hj _ _ hl (fun x hx => by cases hx)
theorem leaf_in (w : World) {k n : Int} {t : ByteArray} (hk : -9223372036854775808 ≤ k ∧ k ≤ 9223372036854775807) (hn : -9223372036854775808 ≤ n ∧ n ≤ 9223372036854775807) (ht : t.size ≤ maxLen) : (mkP k t n ⟨#[]⟩ []).In w :=
  ⟨hk, ht, hn, by unfold maxLen; decide, by unfold maxLen; decide, Nat.le_refl _, fun h => by simp at h, fun i => i.elim0⟩
theorem behind_in (w : World) (a b y : PT) (ha : Fine5 a) (hb : Fine5 b) (h : behindP a b = some y) : y.In w := by
  unfold behindP at h
  split at h
  · cases h
  · split at h
    · rename_i h1
      injection h with h; subst h
      exact leaf_in w (by decide) (by decide) (by rw [ByteArray.size_append]; unfold maxLen; omega)
    · split at h
      · rename_i h2
        injection h with h; subst h
        have h3 := ha.2.1
        have h4 := hb.2.1
        unfold cntP
        split
        · exact leaf_in w (by decide) (by decide) (by unfold maxLen; decide)
        · split
          · exact leaf_in w (by decide) (by decide) (by unfold maxLen; decide)
          · exact leaf_in w (by decide) (by omega) (by unfold maxLen; decide)
      · cases h
theorem txt_le (p : Nat → Bool) : (txt p).size ≤ 256 := by
  show (tx p 256).toArray.size ≤ _
  have := tx_max p 256
  simp only [List.size_toArray]; exact this
theorem anyP_in (w : World) (Q : PT) (p : Nat → Bool) (hq : anyP p = Q) : Q.In w := by
  have := txt_le p
  have h2 : (txt p).size ≤ maxLen := by unfold maxLen; omega
  unfold anyP at hq
  by_cases h : (tx p 256).length = 1
  · rw [if_pos h] at hq; rw [← hq]; exact leaf_in w (k := 1) (n := 0) (t := txt p) (by decide) (by decide) h2
  · rw [if_neg h] at hq; rw [← hq]; exact leaf_in w (k := 3) (n := 0) (t := txt p) (by decide) (by decide) h2
theorem either_gives {a b y : PT} (h : eitherP a b = some y) : ∃ p, anyP p = y := by
  unfold eitherP at h
  split at h
  · cases h
  · split at h
    · injection h with h
      exact ⟨_, h⟩
    · cases h
theorem either_in (w : World) (a b y : PT) (h : eitherP a b = some y) : y.In w := by
  obtain ⟨p, hp⟩ := either_gives h
  exact anyP_in w y p hp
def rowP (k : Int) (g cap : Nat) (L : List PT) : PT := ⟨k, ⟨#[]⟩, 0, ⟨#[]⟩, some ⟨g, 0, none⟩, g, 0, L.length, cap, fun i => L[i]⟩
theorem rowP_lst (k : Int) (g cap : Nat) (L : List PT) : (rowP k g cap L).lst = L := by unfold PT.lst rowP; exact List.ofFn_getElem
theorem rowP_can (k : Int) (g cap : Nat) (L : List PT) : (rowP k g cap L).can = (mkP k ⟨#[]⟩ 0 ⟨#[]⟩ L).can := by
  rw [PT.can_eq, PT.can_eq, rowP_lst, mkP_lst]; rfl
theorem rowP_in {w : World} {B k' g cap : Nat} {L : List PT} (h : Row w B 24 5 five (.slice (some ⟨g, 0, none⟩) L.length cap) L) (hL : ∀ x ∈ L, x.In w) (k : Int) (hk : k = (k' : Int)) (hk' : k' ≤ 100) : (rowP k g cap L).In w := by
  have hf := h.max
  have hle : L.length ≤ cap := by
    obtain ⟨a, c, e, -, hc⟩ := h.len
    injection e with _ _ e3
    omega
  refine ⟨by rw [hk]; constructor <;> omega, by unfold maxLen; decide, by decide, by unfold maxLen; decide, hf, hle, fun _ => rfl, fun i => ?_⟩
  obtain ⟨x0, x1, x2, x3, x4⟩ := row_five h rfl (i := i.val) (x := L[i]) (List.getElem?_eq_getElem i.isLt)
  simp only [Nat.zero_add]
  exact ⟨⟨x0, x1, x2, x3, x4⟩, hL _ (List.getElem_mem i.isLt)⟩
end Go.Proofs.YtbmngbpillihaaaDoor
