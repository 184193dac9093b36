/- Rows of patterns, by their five cells. One kid more: the function that tune.fewer makes. -/
import Derived.Test.YtbmngbpillihaaaDoorSimpUpToP
import Derived.Test.YtbmngbpillihaaaDoorSimpBehindP
import Derived.OrdersHeld
import Derived.StillTail
import Derived.RegionTactic
import Derived.Deep.RegionHeld3
import Derived.Deep.RegionLaw
namespace Go.Proofs.YtbmngbpillihaaaDoor
open Go.RowKit

def five (T : PT) : List Value := [.int .i64 T.k, .string T.t, .int .i64 T.n, .string T.nm, .slice T.xa T.len T.cap]
/-- Five cells, whatever they hold. -/
structure Q5 where
  a : Value
  b : Value
  c : Value
  d : Value
  e : Value
def qV (x : Q5) : List Value := [x.a, x.b, x.c, x.d, x.e]
theorem qV_len (x : Q5) : (qV x).length = 5 := rfl
def q5 (T : PT) : Q5 := ⟨.int .i64 T.k, .string T.t, .int .i64 T.n, .string T.nm, .slice T.xa T.len T.cap⟩
theorem five_len (T : PT) : (five T).length = 5 := rfl
theorem five_one (T : PT) : ∀ u ∈ five T, u.oneCell' = true := by
  intro u hu
  simp only [five, List.mem_cons, List.not_mem_nil, or_false] at hu
  rcases hu with rfl | rfl | rfl | rfl | rfl <;> rfl
theorem info_pat : (Tryd.prog.info? 24).map (fun i => (i.zero, i.size, i.bytes)) = some (some (.agg zeroP), 5, 72) := by kernel_rfl
theorem flat_q : ∀ l : List PT, flat five l = flat qV (l.map q5)
  | [] => rfl
  | T :: l => by show five T ++ flat five l = qV (q5 T) ++ flat qV (l.map q5); rw [flat_q l]; rfl
theorem row_q {w : World} {B : Nat} {v : Value} {l : List PT} : Row w B 24 5 five v l ↔ Row w B 24 5 qV v (l.map q5) := by
  unfold Row
  rw [flat_q, List.length_map]
/-- All five cells of an entry are stored. -/
theorem row_put5 {w : World} {B g n cap i : Nat} {v : Value} {l : List PT} (p : PT) (h : Row w B 24 5 five v l) (hv : v = .slice (some ⟨g, 0, none⟩) n cap) (hi : i < l.length) :
    Row (((((w.setCell ⟨g, i * 5, none⟩ (.int .i64 p.k)).setCell ⟨g, i * 5 + 1, none⟩ (.string p.t)).setCell ⟨g, i * 5 + 2, none⟩ (.int .i64 p.n)).setCell ⟨g, i * 5 + 3, none⟩ (.string p.nm)).setCell ⟨g, i * 5 + 4, none⟩ (.slice p.xa p.len p.cap)) B 24 5 five v (l.set i p) := by
  have h0 := row_q.1 h
  have hx : (l.map q5)[i]? = some (q5 l[i]) := by rw [List.getElem?_map, List.getElem?_eq_getElem hi]; rfl
  obtain ⟨z, hz⟩ : ∃ z, z = q5 l[i] := ⟨_, rfl⟩
  rw [← hz] at hx
  have hl : i < (l.map q5).length := by simpa using hi
  have s1 := h0.set qV_len hv hx (k := 0) (y := ⟨.int .i64 p.k, z.b, z.c, z.d, z.e⟩) (u := .int .i64 p.k) (by decide) rfl
  have s2 := s1.set qV_len hv (i := i) (x := ⟨.int .i64 p.k, z.b, z.c, z.d, z.e⟩) (List.getElem?_set_self hl) (k := 1) (y := ⟨.int .i64 p.k, .string p.t, z.c, z.d, z.e⟩) (u := .string p.t) (by decide) rfl
  have s3 := s2.set qV_len hv (i := i) (x := ⟨.int .i64 p.k, .string p.t, z.c, z.d, z.e⟩) (List.getElem?_set_self (by simpa using hl)) (k := 2) (y := ⟨.int .i64 p.k, .string p.t, .int .i64 p.n, z.d, z.e⟩) (u := .int .i64 p.n) (by decide) rfl
  have s4 := s3.set qV_len hv (i := i) (x := ⟨.int .i64 p.k, .string p.t, .int .i64 p.n, z.d, z.e⟩) (List.getElem?_set_self (by simpa using hl)) (k := 3) (y := ⟨.int .i64 p.k, .string p.t, .int .i64 p.n, .string p.nm, z.e⟩) (u := .string p.nm) (by decide) rfl
  have s5 := s4.set qV_len hv (i := i) (x := ⟨.int .i64 p.k, .string p.t, .int .i64 p.n, .string p.nm, z.e⟩) (List.getElem?_set_self (by simpa using hl)) (k := 4) (y := q5 p) (u := .slice p.xa p.len p.cap) (by decide) rfl
  simp only [List.set_set] at s5
  rw [row_q, List.map_set]
  exact s5
theorem row_five {w : World} {B g cap i : Nat} {v : Value} {l : List PT} {x : PT} (h : Row w B 24 5 five v l) (hv : v = .slice (some ⟨g, 0, none⟩) l.length cap) (hx : l[i]? = some x) :
    w.cell? ⟨g, i * 5, none⟩ = some (.int .i64 x.k) ∧ w.cell? ⟨g, i * 5 + 1, none⟩ = some (.string x.t) ∧ w.cell? ⟨g, i * 5 + 2, none⟩ = some (.int .i64 x.n) ∧ w.cell? ⟨g, i * 5 + 3, none⟩ = some (.string x.nm) ∧ w.cell? ⟨g, i * 5 + 4, none⟩ = some (.slice x.xa x.len x.cap) :=
  ⟨h.cell five_len hv hx (k := 0) rfl, h.cell five_len hv hx (k := 1) rfl, h.cell five_len hv hx (k := 2) rfl, h.cell five_len hv hx (k := 3) rfl, h.cell five_len hv hx (k := 4) rfl⟩
def zeroT : PT := mkP 0 ⟨#[]⟩ 0 ⟨#[]⟩ []
theorem set_last (l : List PT) (z p : PT) : (l ++ [z]).set l.length p = l ++ [p] := by
  rw [List.set_append_right _ _ (Nat.le_refl _), Nat.sub_self]; rfl
def stV (zo zi zl : Nat) : Value := .func (.func 102) #[] #[.pointer (some ⟨zo, 0, none⟩), .pointer (some ⟨zi, 0, none⟩), .pointer (some ⟨zl, 0, none⟩)]
end Go.Proofs.YtbmngbpillihaaaDoor

namespace Go.Proofs.YtbmngbpillihaaaDoor
open Go.RowKit

/-- What lies there while kids are put. -/
structure FewAt (w : World) (B zs zO zj zo zi zl : Nat) (fi fl fj : Nat) (ov : Bool) (v : Value) (l : List PT) : Prop where
  bs : w.heap[zs]? = some (box1 (stV zo zi zl) 36)
  bO : w.heap[zO]? = some (box1 v 22)
  bj : w.heap[zj]? = some (box1 (fnV fj) 108)
  bo : w.heap[zo]? = some (box1 (.bool ov) 4)
  bi : w.heap[zi]? = some (box1 (fnV fi) 36)
  bl : w.heap[zl]? = some (box1 (fnV fl) 36)
  row : Row w B 24 5 five v l
  low : B ≤ zO ∧ B ≤ zo ∧ B ≤ w.heap.size
theorem ne_box {w : World} {a b : Nat} {c d : Array Value} {t t' : TypeId} (ha : w.heap[a]? = some (.cells c t (0, 0))) (hb : w.heap[b]? = some (.cells d t' (0, 0))) (h : t ≠ t') : a ≠ b := fun e => by
  rw [e, hb] at ha
  injection ha with ha
  injection ha with _ ha
  exact h ha.symm
section
variable {w w1 : World} {B zs zO zj zo zi zl fi fl fj : Nat} {ov ov' : Bool} {v v' : Value} {l l' : List PT}
theorem FewAt.later (h : FewAt w B zs zO zj zo zi zl fi fl fj ov v l) (hb : Below w.heap.size w w1) : FewAt w1 B zs zO zj zo zi zl fi fl fj ov v l :=
  ⟨row_below h.bs hb, row_below h.bO hb, row_below h.bj hb, row_below h.bo hb, row_below h.bi hb, row_below h.bl hb, h.row.later hb, h.low.1, h.low.2.1, Nat.le_trans h.low.2.2 hb.size⟩
theorem FewAt.over (h : FewAt w B zs zO zj zo zi zl fi fl fj ov v l) (hb : But zo w w1) (ho : w1.heap[zo]? = some (box1 (.bool ov') 4)) : FewAt w1 B zs zO zj zo zi zl fi fl fj ov' v l :=
  ⟨hb.row (ne_box h.bs h.bo (by decide)) h.bs, hb.row (ne_box h.bO h.bo (by decide)) h.bO, hb.row (ne_box h.bj h.bo (by decide)) h.bj, ho, hb.row (ne_box h.bi h.bo (by decide)) h.bi, hb.row (ne_box h.bl h.bo (by decide)) h.bl, h.row.keepBut h.bo (by decide) hb, h.low.1, h.low.2.1, Nat.le_trans h.low.2.2 hb.size⟩
theorem below_butB {a : World} (h : Below B a w) (hb : But zo w w1) (hB : B ≤ a.heap.size) (hz : B ≤ zo) : Below B a w1 :=
  ⟨hb.os.trans h.os, hb.tape.trans h.tape, hb.output.trans h.output, Nat.le_trans h.size hb.size, fun i hi => (hb.block i (by have := h.size; omega) (by omega)).trans (h.block i hi)⟩
/-- The row has grown: all else is as it was. -/
theorem FewAt.grown (h : FewAt w B zs zO zj zo zi zl fi fl fj ov v l) (hg : w.grownBy w1 v.ownBlock) : w1.heap[zs]? = some (box1 (stV zo zi zl) 36) ∧ w1.heap[zO]? = some (box1 v 22) ∧ w1.heap[zj]? = some (box1 (fnV fj) 108) ∧ w1.heap[zo]? = some (box1 (.bool ov) 4) ∧ w1.heap[zi]? = some (box1 (fnV fi) 36) ∧ w1.heap[zl]? = some (box1 (fnV fl) 36) :=
  ⟨grown_blk h.bs (fun j hj => h.row.type hj) (by decide) hg, grown_blk h.bO (fun j hj => h.row.type hj) (by decide) hg, grown_blk h.bj (fun j hj => h.row.type hj) (by decide) hg, grown_blk h.bo (fun j hj => h.row.type hj) (by decide) hg, grown_blk h.bi (fun j hj => h.row.type hj) (by decide) hg, grown_blk h.bl (fun j hj => h.row.type hj) (by decide) hg⟩
end
def PutPost (B zs zO zj zo zi zl fi fl fj : Nat) (ov : Bool) (l : List PT) (w : World) (e : Ending) (w' : World) : Prop := e = .returned (.tuple #[]) ∧ ∃ v', FewAt w' B zs zO zj zo zi zl fi fl fj ov v' l ∧ Below B w w'
theorem put_post {B zs zO zj zo zi zl fi fl fj : Nat} {ov : Bool} {v : Value} {l : List PT} {w w' : World} (h : FewAt w' B zs zO zj zo zi zl fi fl fj ov v l) (hb : Below B w w') : PutPost B zs zO zj zo zi zl fi fl fj ov l w (.returned (.tuple #[])) w' := ⟨rfl, v, h, hb⟩
theorem row_allocP {w : World} {B : Nat} {v : Value} {l : List PT} (h : Row w B 24 5 five v l) (o : Obj) : Row (w.alloc o) B 24 5 five v l := h.later ((Below.refl _ _).alloc (Nat.le_refl _) _)
theorem row_drewP {w : World} {B : Nat} {v : Value} {l : List PT} (h : Row w B 24 5 five v l) : Row w.drew B 24 5 five v l := h.later (Below.refl _ _).drew
theorem zero_cell {w : World} : ∀ k u, (five zeroT)[k]? = some u → (w.alloc (.cells zeroP 24)).cell? ⟨w.heap.size, k, none⟩ = some u := by
  intro k u h
  rw [cell_of_row _ _ _ _ _ _ (at_new rfl)]
  exact (show (five zeroT).toArray[k]? = some u by rw [List.getElem?_toArray]; exact h)
theorem row_last {w : World} {B g cap : Nat} {l : List PT} (h : Row w B 24 5 five (.slice (some ⟨g, 0, none⟩) (l.length + 1) cap) (l ++ [zeroT])) :
    (w.cell? ⟨g, l.length * 5, none⟩ = some (.int .i64 0) ∧ w.cell? ⟨g, l.length * 5 + 1, none⟩ = some (.string ⟨#[]⟩) ∧ w.cell? ⟨g, l.length * 5 + 2, none⟩ = some (.int .i64 0) ∧ w.cell? ⟨g, l.length * 5 + 3, none⟩ = some (.string ⟨#[]⟩) ∧ w.cell? ⟨g, l.length * 5 + 4, none⟩ = some (.slice none 0 0)) ∧ ∀ o, w.frozen? ⟨g, o, none⟩ = false :=
  ⟨row_five h (cap := cap) (by simp) (i := l.length) (x := zeroT) (by simp), fun o => h.frozen rfl o⟩
theorem len_one (l : List PT) (z : PT) : (l ++ [z]).length = l.length + 1 := by simp
/-- The new kid is stored, and the row's new value. -/
theorem put_done {w W w' : World} {B zs zO zj zo zi zl fi fl fj g cap : Nat} {ov : Bool} {v : Value} {l : List PT} (p : PT) (h : FewAt W B zs zO zj zo zi zl fi fl fj ov v l) (hb : Below B w W) (hB : B ≤ w.heap.size) (hg : W.grownBy w' v.ownBlock) (hr : Row w' B 24 5 five (.slice (some ⟨g, 0, none⟩) (l.length + 1) cap) (l ++ [zeroT])) :
    (FewAt ((((((w'.setCell ⟨g, l.length * 5, none⟩ (.int .i64 p.k)).setCell ⟨g, l.length * 5 + 1, none⟩ (.string p.t)).setCell ⟨g, l.length * 5 + 2, none⟩ (.int .i64 p.n)).setCell ⟨g, l.length * 5 + 3, none⟩ (.string p.nm)).setCell ⟨g, l.length * 5 + 4, none⟩ (.slice p.xa p.len p.cap)).setCell ⟨zO, 0, none⟩ (.slice (some ⟨g, 0, none⟩) (l.length + 1) cap)) B zs zO zj zo zi zl fi fl fj ov (.slice (some ⟨g, 0, none⟩) (l.length + 1) cap) (l ++ [p]) ∧
      Below B w ((((((w'.setCell ⟨g, l.length * 5, none⟩ (.int .i64 p.k)).setCell ⟨g, l.length * 5 + 1, none⟩ (.string p.t)).setCell ⟨g, l.length * 5 + 2, none⟩ (.int .i64 p.n)).setCell ⟨g, l.length * 5 + 3, none⟩ (.string p.nm)).setCell ⟨g, l.length * 5 + 4, none⟩ (.slice p.xa p.len p.cap)).setCell ⟨zO, 0, none⟩ (.slice (some ⟨g, 0, none⟩) (l.length + 1) cap))) ∧
    (FewAt ((((((w'.setCell ⟨zO, 0, none⟩ (.slice (some ⟨g, 0, none⟩) (l.length + 1) cap)).setCell ⟨g, l.length * 5, none⟩ (.int .i64 p.k)).setCell ⟨g, l.length * 5 + 1, none⟩ (.string p.t)).setCell ⟨g, l.length * 5 + 2, none⟩ (.int .i64 p.n)).setCell ⟨g, l.length * 5 + 3, none⟩ (.string p.nm)).setCell ⟨g, l.length * 5 + 4, none⟩ (.slice p.xa p.len p.cap)) B zs zO zj zo zi zl fi fl fj ov (.slice (some ⟨g, 0, none⟩) (l.length + 1) cap) (l ++ [p]) ∧
      Below B w ((((((w'.setCell ⟨zO, 0, none⟩ (.slice (some ⟨g, 0, none⟩) (l.length + 1) cap)).setCell ⟨g, l.length * 5, none⟩ (.int .i64 p.k)).setCell ⟨g, l.length * 5 + 1, none⟩ (.string p.t)).setCell ⟨g, l.length * 5 + 2, none⟩ (.int .i64 p.n)).setCell ⟨g, l.length * 5 + 3, none⟩ (.string p.nm)).setCell ⟨g, l.length * 5 + 4, none⟩ (.slice p.xa p.len p.cap))) := by
  obtain ⟨b1, b2, b3, b4, b5, b6⟩ := h.grown hg
  obtain ⟨cur, hcur⟩ := hr.type (k := g) rfl
  have hlow := (hr.low (k := g) rfl).1
  have hb' := below_grown hb h.row hB hg
  have hlt : l.length < (l ++ [zeroT]).length := by simp
  have n1 : zs ≠ g := ne_box b1 hcur (by decide)
  have n2 : zO ≠ g := ne_box b2 hcur (by decide)
  have n3 : zj ≠ g := ne_box b3 hcur (by decide)
  have n4 : zo ≠ g := ne_box b4 hcur (by decide)
  have n5 : zi ≠ g := ne_box b5 hcur (by decide)
  have n6 : zl ≠ g := ne_box b6 hcur (by decide)
  have m1 : zs ≠ zO := ne_box b1 b2 (by decide)
  have m3 : zj ≠ zO := ne_box b3 b2 (by decide)
  have m4 : zo ≠ zO := ne_box b4 b2 (by decide)
  have m5 : zi ≠ zO := ne_box b5 b2 (by decide)
  have m6 : zl ≠ zO := ne_box b6 b2 (by decide)
  have hsz : B ≤ w'.heap.size := Nat.le_trans h.low.2.2 hg.size
  have five_but : ∀ X : World, But g X (((((X.setCell ⟨g, l.length * 5, none⟩ (.int .i64 p.k)).setCell ⟨g, l.length * 5 + 1, none⟩ (.string p.t)).setCell ⟨g, l.length * 5 + 2, none⟩ (.int .i64 p.n)).setCell ⟨g, l.length * 5 + 3, none⟩ (.string p.nm)).setCell ⟨g, l.length * 5 + 4, none⟩ (.slice p.xa p.len p.cap)) := fun X => (((((But.refl g X).setCell _ _).setCell _ _).setCell _ _).setCell _ _).setCell _ _
  constructor
  · have hp := row_put5 p hr rfl hlt
    rw [set_last] at hp
    have hq := five_but w'
    generalize (((((w'.setCell ⟨g, l.length * 5, none⟩ (.int .i64 p.k)).setCell ⟨g, l.length * 5 + 1, none⟩ (.string p.t)).setCell ⟨g, l.length * 5 + 2, none⟩ (.int .i64 p.n)).setCell ⟨g, l.length * 5 + 3, none⟩ (.string p.nm)).setCell ⟨g, l.length * 5 + 4, none⟩ (.slice p.xa p.len p.cap)) = X at *
    have hO := hq.row n2 b2
    have hu : But zO X (X.setCell ⟨zO, 0, none⟩ (.slice (some ⟨g, 0, none⟩) (l.length + 1) cap)) := (But.refl zO X).setCell _ _
    refine ⟨⟨hu.row m1 (hq.row n1 b1), ?_, hu.row m3 (hq.row n3 b3), hu.row m4 (hq.row n4 b4), hu.row m5 (hq.row n5 b5), hu.row m6 (hq.row n6 b6), hp.keepBut hO (by decide) hu, h.low.1, h.low.2.1, ?_⟩, ?_⟩
    · exact box1_set hO
    · exact Nat.le_trans hsz (Nat.le_trans hq.size hu.size)
    · exact below_butB (below_butB hb' hq hB hlow) hu hB h.low.1
  · have hu : But zO w' (w'.setCell ⟨zO, 0, none⟩ (.slice (some ⟨g, 0, none⟩) (l.length + 1) cap)) := (But.refl zO w').setCell _ _
    have hO := box1_set (u := .slice (some ⟨g, 0, none⟩) (l.length + 1) cap) b2
    have hr2 := hr.keepBut b2 (by decide) hu
    have hp := row_put5 p hr2 rfl hlt
    rw [set_last] at hp
    have hq := five_but (w'.setCell ⟨zO, 0, none⟩ (.slice (some ⟨g, 0, none⟩) (l.length + 1) cap))
    refine ⟨⟨hq.row n1 (hu.row m1 b1), hq.row n2 hO, hq.row n3 (hu.row m3 b3), hq.row n4 (hu.row m4 b4), hq.row n5 (hu.row m5 b5), hq.row n6 (hu.row m6 b6), hp, h.low.1, h.low.2.1, ?_⟩, ?_⟩
    · exact Nat.le_trans hsz (Nat.le_trans hu.size hq.size)
    · exact below_butB (below_butB hb' hu hB h.low.1) hq hB hlow
theorem zero_later {w w' : World} (hb : Below (w.alloc (.cells #[.int .i64 0, .string ⟨#[]⟩, .int .i64 0, .string ⟨#[]⟩, .slice none 0 0] 24)).drew.heap.size (w.alloc (.cells #[.int .i64 0, .string ⟨#[]⟩, .int .i64 0, .string ⟨#[]⟩, .slice none 0 0] 24)).drew w') :
    (w'.cell? ⟨w.heap.size, 0, none⟩ = some (.int .i64 0) ∧ w'.cell? ⟨w.heap.size, 1, none⟩ = some (.string ⟨#[]⟩) ∧ w'.cell? ⟨w.heap.size, 2, none⟩ = some (.int .i64 0) ∧ w'.cell? ⟨w.heap.size, 3, none⟩ = some (.string ⟨#[]⟩) ∧ w'.cell? ⟨w.heap.size, 4, none⟩ = some (.slice none 0 0)) ∧ ∀ o, w'.frozen? ⟨w.heap.size, o, none⟩ = false := by
  have h : w'.heap[w.heap.size]? = some (.cells zeroP 24 (0, 0)) := row_below (show (w.alloc (.cells zeroP 24)).drew.heap[w.heap.size]? = _ from at_new rfl) hb
  exact ⟨⟨(cell_of_row _ _ 0 _ _ _ h).trans rfl, (cell_of_row _ _ 1 _ _ _ h).trans rfl, (cell_of_row _ _ 2 _ _ _ h).trans rfl, (cell_of_row _ _ 3 _ _ _ h).trans rfl, (cell_of_row _ _ 4 _ _ _ h).trans rfl⟩, fun o => frozen_of_row _ _ o _ _ h⟩
theorem zero_row {w w' : World} (hb : Below (w.alloc (.cells #[.int .i64 0, .string ⟨#[]⟩, .int .i64 0, .string ⟨#[]⟩, .slice none 0 0] 24)).drew.heap.size (w.alloc (.cells #[.int .i64 0, .string ⟨#[]⟩, .int .i64 0, .string ⟨#[]⟩, .slice none 0 0] 24)).drew w') : w'.heap[w.heap.size]? = some (.cells #[.int .i64 0, .string ⟨#[]⟩, .int .i64 0, .string ⟨#[]⟩, .slice none 0 0] 24 (0, 0)) :=
  row_below (show (w.alloc (.cells #[.int .i64 0, .string ⟨#[]⟩, .int .i64 0, .string ⟨#[]⟩, .slice none 0 0] 24)).drew.heap[w.heap.size]? = _ from at_new rfl) hb
theorem five_set {w : World} {N : Nat} {a b c d e a' b' c' d' e' : Value} (h : w.heap[N]? = some (.cells #[a, b, c, d, e] 24 (0, 0))) :
    (((((w.setCell ⟨N, 0, none⟩ a').setCell ⟨N, 1, none⟩ b').setCell ⟨N, 2, none⟩ c').setCell ⟨N, 3, none⟩ d').setCell ⟨N, 4, none⟩ e').heap[N]? = some (.cells #[a', b', c', d', e'] 24 (0, 0)) :=
  heap_setCell_same _ N 4 _ _ _ (heap_setCell_same _ N 3 _ _ _ (heap_setCell_same _ N 2 _ _ _ (heap_setCell_same _ N 1 _ _ _ (heap_setCell_same _ N 0 _ _ _ h))))
/-- The last entry is another one now. -/
theorem join_done {w W : World} {B zs zO zj zo zi zl fi fl fj g cap m : Nat} {ov : Bool} {l : List PT} (y : PT) (h : FewAt W B zs zO zj zo zi zl fi fl fj ov (.slice (some ⟨g, 0, none⟩) l.length cap) l) (hb : Below B w W) (hB : B ≤ w.heap.size) (hm : m < l.length) :
    FewAt (((((W.setCell ⟨g, m * 5, none⟩ (.int .i64 y.k)).setCell ⟨g, m * 5 + 1, none⟩ (.string y.t)).setCell ⟨g, m * 5 + 2, none⟩ (.int .i64 y.n)).setCell ⟨g, m * 5 + 3, none⟩ (.string y.nm)).setCell ⟨g, m * 5 + 4, none⟩ (.slice y.xa y.len y.cap)) B zs zO zj zo zi zl fi fl fj ov (.slice (some ⟨g, 0, none⟩) l.length cap) (l.set m y) ∧
    Below B w (((((W.setCell ⟨g, m * 5, none⟩ (.int .i64 y.k)).setCell ⟨g, m * 5 + 1, none⟩ (.string y.t)).setCell ⟨g, m * 5 + 2, none⟩ (.int .i64 y.n)).setCell ⟨g, m * 5 + 3, none⟩ (.string y.nm)).setCell ⟨g, m * 5 + 4, none⟩ (.slice y.xa y.len y.cap)) := by
  obtain ⟨cur, hcur⟩ := h.row.type (k := g) rfl
  have hlow := (h.row.low (k := g) rfl).1
  have hq : But g W (((((W.setCell ⟨g, m * 5, none⟩ (.int .i64 y.k)).setCell ⟨g, m * 5 + 1, none⟩ (.string y.t)).setCell ⟨g, m * 5 + 2, none⟩ (.int .i64 y.n)).setCell ⟨g, m * 5 + 3, none⟩ (.string y.nm)).setCell ⟨g, m * 5 + 4, none⟩ (.slice y.xa y.len y.cap)) := (((((But.refl g W).setCell _ _).setCell _ _).setCell _ _).setCell _ _).setCell _ _
  have hp := row_put5 y h.row rfl hm
  exact ⟨⟨hq.row (ne_box h.bs hcur (by decide)) h.bs, hq.row (ne_box h.bO hcur (by decide)) h.bO, hq.row (ne_box h.bj hcur (by decide)) h.bj, hq.row (ne_box h.bo hcur (by decide)) h.bo, hq.row (ne_box h.bi hcur (by decide)) h.bi, hq.row (ne_box h.bl hcur (by decide)) h.bl, hp, h.low.1, h.low.2.1, Nat.le_trans h.low.2.2 hq.size⟩, below_butB hb hq hB hlow⟩
end Go.Proofs.YtbmngbpillihaaaDoor
