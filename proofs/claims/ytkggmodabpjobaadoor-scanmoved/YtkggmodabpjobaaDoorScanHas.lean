/- Is the byte at a place one of a node's? The set of its text is made once. -/
import Derived.Test.YtkggmodabpjobaaDoorScanFill0
import Derived.Test.YtkggmodabpjobaaDoorOf5
import Derived.Test.YtkggmodabpjobaaDoorScanFurther
namespace Go.Proofs.YtkggmodabpjobaaDoor
open Go.RowKit

theorem inT_any (t : ByteArray) (b : Nat) : ∀ k, k ≤ t.data.toList.length → inT t k b = (t.data.toList.take k).any fun c => c.toNat == b
  | 0, _ => by simp [inT]
  | k + 1, h => by
    rw [inT, inT_any t b k (by omega), List.take_succ_eq_append_getElem (by omega), List.any_append]
    congr 1
    rw [List.getD_eq_getElem?_getD, List.getElem?_eq_getElem (by omega)]
    simp [Bool.beq_comm]
theorem inT_inB (t : ByteArray) (b : Nat) : inT t t.size b = inB t b := by
  rw [inT_any t b t.size (by rw [Array.length_toList]; exact Nat.le_refl _)]
  unfold inB
  rw [List.take_of_length_le (by rw [Array.length_toList]; exact Nat.le_refl _)]

theorem set_same {α : Type} {l : List α} {i : Nat} {x : α} (h : l[i]? = some x) : l.set i x = l := by
  obtain ⟨hi, rfl⟩ := List.getElem?_eq_some_iff.1 h
  exact List.set_getElem_self hi
/-- The set of a node, if it has been made. -/
def SetAt (w : World) (x : Nd) : Prop := ∀ b, x.st = some b → w.heap[b]? = some (.cells (sc (inT x.t x.t.size)) 106 (0, 0))
theorem set_not_owned {w : World} {B g k : Nat} {m : MS} {N : List Nd} {O : List Int} {W : List Wr} {C : List Cr} {G S : List Gft} {c : Array Value} (h : Rep w B g m N O W C G S) (hc : w.heap[k]? = some (.cells c 106 (0, 0))) : ¬ m.owns g k := by
  intro x
  rcases x with x | x | x | x | x | x | x
  · have hb := h.blk
    rw [← x, hc] at hb
    injection hb with hb
    injection hb with _ hb
    exact absurd hb (by decide)
  · exact h.nodes.neBlk hc (by decide) x.symm
  · exact h.roots.neBlk hc (by decide) x.symm
  · exact h.works.neBlk hc (by decide) x.symm
  · exact h.choices.neBlk hc (by decide) x.symm
  · exact h.given.neBlk hc (by decide) x.symm
  · exact h.said.neBlk hc (by decide) x.symm
theorem SetAt.fr {w w' : World} {B g : Nat} {m m' : MS} {N : List Nd} {O : List Int} {W : List Wr} {C : List Cr} {G S : List Gft} {x : Nd} (h : SetAt w x) (r : Rep w B g m N O W C G S) (f : Fr g m m' w w') : SetAt w' x := fun b hb => by
  have := h b hb
  exact (f.block b (Array.getElem?_eq_some_iff.1 this).1 (set_not_owned r this)).trans this

def HasPost (w : World) (B g : Nat) (m : MS) (N : List Nd) (O : List Int) (W : List Wr) (C : List Cr) (G S : List Gft) (nd : Nat) (x : Nd) (i : Nat) (e : Ending) (w' : World) : Prop :=
  ∃ b, e = .returned (.bool (inB x.t (byt m.s i))) ∧ Rep w' B g m (N.set nd { x with st := some b }) O W C G S ∧ Fr g m m w w' ∧ SetAt w' { x with st := some b }

set_option maxRecDepth 100000 in
set_option maxHeartbeats 1000000 in
theorem has_old {w : World} {B g gn cap nd i b : Nat} {m : MS} {N : List Nd} {O : List Int} {W : List Wr} {C : List Cr} {G S : List Gft} {x : Nd} (h : Rep w B g m N O W C G S) (hnv : m.nv = .slice (some ⟨gn, 0, none⟩) N.length cap) (hx : N[nd]? = some x) (hst : x.st = some b) (hset : SetAt w x) (hi : i < m.s.size) (_hs : m.s.size ≤ 65536) :
    Calls Tryd.prog 44 #[.pointer (some ⟨g, 0, none⟩), .pointer (some ⟨gn, nd * 10, none⟩), .int .i64 (i : Int)] w (HasPost w B g m N O W C G S nd x i) := by
  have hb := hset b hst
  have k7 : w.cell? ⟨gn, nd * 10 + 7, none⟩ = some (.pointer (some ⟨b, 0, none⟩)) := by have := h.nodes.cell ndV_len hnv hx (k := 7) rfl; rw [hst] at this; exact this
  have c0 := h.c0
  have HSet := hide (And.intro hset hst)
  obtain ⟨p, hp⟩ : ∃ p, p = inT x.t x.t.size := ⟨_, rfl⟩
  have hpb : p (byt m.s i) = inB x.t (byt m.s i) := by rw [hp, inT_inB]
  have y0 : w.cell? ⟨b, 0, none⟩ = some (.int .u64 (wd p 0 : Int)) := by rw [cell_of_row _ _ _ _ _ _ hb, hp]; rfl
  have y1 : w.cell? ⟨b, 1, none⟩ = some (.int .u64 (wd p 1 : Int)) := by rw [cell_of_row _ _ _ _ _ _ hb, hp]; rfl
  have y2 : w.cell? ⟨b, 2, none⟩ = some (.int .u64 (wd p 2 : Int)) := by rw [cell_of_row _ _ _ _ _ _ hb, hp]; rfl
  have y3 : w.cell? ⟨b, 3, none⟩ = some (.int .u64 (wd p 3 : Int)) := by rw [cell_of_row _ _ _ _ _ _ hb, hp]; rfl
  have HByte := hide (byt_at m.s i hi)
  have hbl : byt m.s i < 256 := by rw [← byt_at m.s i hi]; exact UInt8.toNat_lt _
  have HC := hide (fun W => has_any p (byt m.s i) hbl W)
  unfold sv sc u64v at HC
  rw [hpb, ← unhide HByte] at HC
  have HR := hide h
  have hi' : (i : Int) < (m.s.size : Int) := by omega
  have hset1 : N.set nd { x with st := some b } = N := by
    have : ({ x with st := some b } : Nd) = x := by rw [← hst]
    rw [this]
    exact set_same hx
  have HN := hide hset1
  clear h hset hb hp hpb hst hset1 hx hnv hbl
  go_enter Tryd.func44, Tryd.ntmps44
  go_wp2_with fail
  go_region_held3 (fun w' => w'.cell? ⟨gn, nd * 10 + 7, none⟩ = some (.pointer (some ⟨b, 0, none⟩)) ∧ w'.cell? ⟨g, 0, none⟩ = some (.string m.s) ∧ w'.cell? ⟨b, 0, none⟩ = some (.int .u64 (wd p 0 : Int)) ∧ w'.cell? ⟨b, 1, none⟩ = some (.int .u64 (wd p 1 : Int)) ∧ w'.cell? ⟨b, 2, none⟩ = some (.int .u64 (wd p 2 : Int)) ∧ w'.cell? ⟨b, 3, none⟩ = some (.int .u64 (wd p 3 : Int))) (go_keep) (first | (go_at_call 50; refine (unhide HC _).mono ?_; rintro e w1 ⟨rfl, hb1⟩; have k7 := cell_later hb1 k7; have c0 := cell_later hb1 c0; have y0 := cell_later hb1 y0; have y1 := cell_later hb1 y1; have y2 := cell_later hb1 y2; have y3 := cell_later hb1 y3))
  go_wp2_with fail
  go_ret
  have hbw : Below w.heap.size w w1 := ((Below.refl _ _).drew).trans (hb1.mono (by simp))
  exact ⟨b, (by rw [unhide HByte]; rfl), by rw [unhide HN]; exact (unhide HR).later hbw, Fr.later hbw, fun b' hb' => row_below ((unhide HSet).1 b' ((unhide HSet).2.trans hb')) hbw⟩

set_option maxRecDepth 100000 in
set_option maxHeartbeats 1000000 in
theorem has_new {w : World} {B g gn cap nd i : Nat} {m : MS} {N : List Nd} {O : List Int} {W : List Wr} {C : List Cr} {G S : List Gft} {x : Nd} (h : Rep w B g m N O W C G S) (hnv : m.nv = .slice (some ⟨gn, 0, none⟩) N.length cap) (hx : N[nd]? = some x) (hst : x.st = none) (ht : x.t.size ≤ 65536) (hi : i < m.s.size) (_hs : m.s.size ≤ 65536) :
    Calls Tryd.prog 44 #[.pointer (some ⟨g, 0, none⟩), .pointer (some ⟨gn, nd * 10, none⟩), .int .i64 (i : Int)] w (HasPost w B g m N O W C G S nd x i) := by
  have k7 : w.cell? ⟨gn, nd * 10 + 7, none⟩ = some (.pointer none) := by have := h.nodes.cell ndV_len hnv hx (k := 7) rfl; rw [hst] at this; exact this
  have k1 : w.cell? ⟨gn, nd * 10 + 1, none⟩ = some (.string x.t) := h.nodes.cell ndV_len hnv hx (k := 1) rfl
  have hng : ¬ gn = g := fun e => h.nodes.neBlk h.blk (by decide) (by rw [hnv, e]; rfl)
  have hgn : ¬ g = gn := fun e => hng e.symm
  have hgnl := (h.nodes.low (k := gn) (by rw [hnv]; rfl)).2
  obtain ⟨p, hp⟩ : ∃ p, p = inT x.t x.t.size := ⟨_, rfl⟩
  have hpb : p (byt m.s i) = inB x.t (byt m.s i) := by rw [hp, inT_inB]
  have HOf := hide (of_any x.t w (by unfold maxLen; omega))
  rw [← hp] at HOf
  have HByte := hide (byt_at m.s i hi)
  have hbl : byt m.s i < 256 := by rw [← byt_at m.s i hi]; exact UInt8.toNat_lt _
  have HC := hide (fun W => has_any p (byt m.s i) hbl W)
  unfold sv sc u64v at HC HOf
  rw [hpb, ← unhide HByte] at HC
  have HR := hide (And.intro h (And.intro hnv (And.intro hx hp)))
  have hi' : (i : Int) < (m.s.size : Int) := by omega
  clear h hp hpb hst hx hnv hbl
  go_enter Tryd.func44, Tryd.ntmps44
  go_wp2_with fail
  refine (unhide HOf).mono ?_
  rintro e w1 ⟨rfl, hb1⟩
  obtain ⟨w2, hw2⟩ : ∃ w2, w2 = w1.alloc (.cells #[.int .u64 (wd p 0 : Int), .int .u64 (wd p 1 : Int), .int .u64 (wd p 2 : Int), .int .u64 (wd p 3 : Int)] 106) := ⟨_, rfl⟩
  have hb2 : Below w1.heap.size w1 w2 := by rw [hw2]; exact (Below.refl _ _).alloc (Nat.le_refl _) _
  have hbw := bnext hb1 hb2
  have hz2 : w2.heap[w1.heap.size]? = some (.cells #[.int .u64 (wd p 0 : Int), .int .u64 (wd p 1 : Int), .int .u64 (wd p 2 : Int), .int .u64 (wd p 3 : Int)] 106 (0, 0)) := by rw [hw2]; exact at_new rfl
  have k7' := cell_later hbw k7
  have r2 := (unhide HR).1.later hbw
  have f7 : w2.frozen? ⟨gn, nd * 10 + 7, none⟩ = false := r2.nodes.frozen (unhide HR).2.1 _
  have hzn : ¬ w1.heap.size = gn := by have := hb1.size; omega
  have hnz : ¬ gn = w1.heap.size := fun e => hzn e.symm
  have r3 := RepNset (y := { x with st := some w1.heap.size }) (k := 7) r2 (unhide HR).2.1 (unhide HR).2.2.1 (by decide) (v := .pointer (some ⟨w1.heap.size, 0, none⟩)) rfl
  have f3 : Fr g m m w (w2.setCell ⟨gn, nd * 10 + 7, none⟩ (.pointer (some ⟨w1.heap.size, 0, none⟩))) := (Fr.later hbw).trans (FrNset (by rw [(unhide HR).2.1]; rfl) _ _)
  have hz3 : (w2.setCell ⟨gn, nd * 10 + 7, none⟩ (.pointer (some ⟨w1.heap.size, 0, none⟩))).heap[w1.heap.size]? = some (.cells #[.int .u64 (wd p 0 : Int), .int .u64 (wd p 1 : Int), .int .u64 (wd p 2 : Int), .int .u64 (wd p 3 : Int)] 106 (0, 0)) := (heap_setCell_other w2 ⟨gn, nd * 10 + 7, none⟩ w1.heap.size _ hzn).trans hz2
  have hnl : nd < N.length := (List.getElem?_eq_some_iff.1 (unhide HR).2.2.1).1
  have k7'' : (w2.setCell ⟨gn, nd * 10 + 7, none⟩ (.pointer (some ⟨w1.heap.size, 0, none⟩))).cell? ⟨gn, nd * 10 + 7, none⟩ = some (.pointer (some ⟨w1.heap.size, 0, none⟩)) := r3.nodes.cell ndV_len (by rw [List.length_set]; exact (unhide HR).2.1) (List.getElem?_set_self hnl) (k := 7) rfl
  obtain ⟨w3, hw3⟩ : ∃ w3, w3 = w2.setCell ⟨gn, nd * 10 + 7, none⟩ (.pointer (some ⟨w1.heap.size, 0, none⟩)) := ⟨_, rfl⟩
  rw [← hw3] at r3 f3 hz3 k7''
  have c0 : w3.cell? ⟨g, 0, none⟩ = some (.string m.s) := r3.c0
  have y0 : w3.cell? ⟨w1.heap.size, 0, none⟩ = some (.int .u64 (wd p 0 : Int)) := by rw [cell_of_row _ _ _ _ _ _ hz3]; rfl
  have y1 : w3.cell? ⟨w1.heap.size, 1, none⟩ = some (.int .u64 (wd p 1 : Int)) := by rw [cell_of_row _ _ _ _ _ _ hz3]; rfl
  have y2 : w3.cell? ⟨w1.heap.size, 2, none⟩ = some (.int .u64 (wd p 2 : Int)) := by rw [cell_of_row _ _ _ _ _ _ hz3]; rfl
  have y3 : w3.cell? ⟨w1.heap.size, 3, none⟩ = some (.int .u64 (wd p 3 : Int)) := by rw [cell_of_row _ _ _ _ _ _ hz3]; rfl
  have H3 := hide (And.intro r3 (And.intro f3 hz3))
  clear k7 r2 r3 f3 hz3 hz2 hbw hb2 hb1 HOf
  rw [hw2] at k7' f7 hw3
  go_wp2_with fail
  rw [← hw3]
  clear k7' f7 hw2 hw3 hzn hnz
  go_region_held3 (fun w' => w'.cell? ⟨gn, nd * 10 + 7, none⟩ = some (.pointer (some ⟨w1.heap.size, 0, none⟩)) ∧ w'.cell? ⟨g, 0, none⟩ = some (.string m.s) ∧ w'.cell? ⟨w1.heap.size, 0, none⟩ = some (.int .u64 (wd p 0 : Int)) ∧ w'.cell? ⟨w1.heap.size, 1, none⟩ = some (.int .u64 (wd p 1 : Int)) ∧ w'.cell? ⟨w1.heap.size, 2, none⟩ = some (.int .u64 (wd p 2 : Int)) ∧ w'.cell? ⟨w1.heap.size, 3, none⟩ = some (.int .u64 (wd p 3 : Int))) (go_keep) (first | (go_at_call 50; refine (unhide HC _).mono ?_; rintro e w4 ⟨rfl, hb4⟩; have k7 := cell_later hb4 k7''; have c0 := cell_later hb4 c0; have y0 := cell_later hb4 y0; have y1 := cell_later hb4 y1; have y2 := cell_later hb4 y2; have y3 := cell_later hb4 y3))
  go_wp2_with fail
  go_ret
  obtain ⟨r3, f3, hz3⟩ := unhide H3
  have hbw : Below w3.heap.size w3 w4 := ((Below.refl _ _).drew).trans (hb4.mono (by simp))
  refine ⟨w1.heap.size, (by rw [unhide HByte]; rfl), r3.later hbw, f3.trans (Fr.later hbw), fun b' hb' => ?_⟩
  have hb' : some w1.heap.size = some b' := hb'
  injection hb' with hb'
  subst hb'
  have := row_below hz3 hbw
  rw [(unhide HR).2.2.2] at this
  exact this
theorem has_node {w : World} {B g gn cap nd i : Nat} {m : MS} {N : List Nd} {O : List Int} {W : List Wr} {C : List Cr} {G S : List Gft} {x : Nd} (h : Rep w B g m N O W C G S) (hnv : m.nv = .slice (some ⟨gn, 0, none⟩) N.length cap) (hx : N[nd]? = some x) (hset : SetAt w x) (ht : x.t.size ≤ 65536) (hi : i < m.s.size) (hs : m.s.size ≤ 65536) :
    Calls Tryd.prog 44 #[.pointer (some ⟨g, 0, none⟩), .pointer (some ⟨gn, nd * 10, none⟩), .int .i64 (i : Int)] w (HasPost w B g m N O W C G S nd x i) := by
  cases hst : x.st with
  | none => exact has_new h hnv hx hst ht hi hs
  | some b => exact has_old h hnv hx hst hset hi hs
end Go.Proofs.YtkggmodabpjobaaDoor
