/- What look does: it comes to the pattern at one place behind the other. What Match does, where not too much is told. Patterns without kids, and of others. What is asked first of scan is true. -/
import Derived.Test.YtkggmodabpjobaaDoorScanTell2R
import Derived.Test.YtkggmodabpjobaaDoorScanNext
import Derived.BigRegion
import Derived.Deep.QuietTactic
import Derived.BigQuiet
import Derived.Deep.OwnRows
import Derived.Test.YtkggmodabpjobaaDoorScanWaysR
import Derived.Test.YtkggmodabpjobaaDoorScanRulesG
import Derived.Laws.ResultCell
namespace Go.Proofs.YtkggmodabpjobaaDoor
open Go.RowKit

theorem size_match : (Tryd.prog.info? 36).map (·.size) = some 6 := by kernel_rfl
def zeroM : Array Value := #[.bool false, .int .i64 0, .int .i64 0, .slice none 0 0, .slice none 0 0, .int .i64 0]
/-- No block of another type is the machine's. -/
theorem blk_not_owned {w : World} {B g k : Nat} {m : MS} {N : List Nd} {O : List Int} {W : List Wr} {C : List Cr} {G S : List Gft} {c : Array Value} (h : Rep w B g m N O W C G S) (hc : w.heap[k]? = some (.cells c 36 (0, 0))) : ¬ m.owns g k := by
  intro x
  rcases x with x | x | x | x | x | x | x
  · have hb := h.blk
    rw [← x, hc] at hb
    injection hb with hb
    injection hb with _ hb
    exact absurd hb (by decide)
  · exact h.nodes.neBlk hc (by decide) x.symm
  · exact h.roots.neBlk hc (by decide) x.symm
  · exact h.works.neBlk hc (by decide) x.symm
  · exact h.choices.neBlk hc (by decide) x.symm
  · exact h.given.neBlk hc (by decide) x.symm
  · exact h.said.neBlk hc (by decide) x.symm
theorem fr_match {w w' : World} {B g k : Nat} {m m' : MS} {N : List Nd} {O : List Int} {W : List Wr} {C : List Cr} {G S : List Gft} {c : Array Value} (h : Rep w B g m N O W C G S) (f : Fr g m m' w w') (hc : w.heap[k]? = some (.cells c 36 (0, 0))) : w'.heap[k]? = some (.cells c 36 (0, 0)) :=
  (f.block k (Array.getElem?_eq_some_iff.1 hc).1 (blk_not_owned h hc)).trans hc

theorem Rep.but {w w' : World} {B g z : Nat} {m : MS} {N : List Nd} {O : List Int} {W : List Wr} {C : List Cr} {G S : List Gft} {c : Array Value} (h : Rep w B g m N O W C G S) (hz : w.heap[z]? = some (.cells c 36 (0, 0))) (hb : But z w w') : Rep w' B g m N O W C G S := by
  have hne : g ≠ z := fun e => blk_not_owned h hz (.inl e.symm)
  exact ⟨h.low, hb.row hne h.blk, h.nodes.keepBut hz (by decide) hb, h.roots.keepBut hz (by decide) hb, h.works.keepBut hz (by decide) hb, h.choices.keepBut hz (by decide) hb, h.given.keepBut hz (by decide) hb, h.said.keepBut hz (by decide) hb, h.apart, Nat.le_trans h.base hb.size⟩
theorem below_but {B z : Nat} {a w w' : World} (h : Below B a w) (hb : But z w w') (hB : B ≤ a.heap.size) (hz : B ≤ z) : Below B a w' :=
  ⟨hb.os.trans h.os, hb.tape.trans h.tape, hb.output.trans h.output, Nat.le_trans h.size hb.size, fun i hi => (hb.block i (by have := h.size; omega) (by omega)).trans (h.block i hi)⟩
/-- Six cells are stored. -/
def set6 (w : World) (z : Nat) (v0 v1 v2 v3 v4 v5 : Value) : World := (((((w.setCell ⟨z, 0, none⟩ v0).setCell ⟨z, 1, none⟩ v1).setCell ⟨z, 2, none⟩ v2).setCell ⟨z, 3, none⟩ v3).setCell ⟨z, 4, none⟩ v4).setCell ⟨z, 5, none⟩ v5
theorem set6_but (w : World) (z : Nat) (v0 v1 v2 v3 v4 v5 : Value) : But z w (set6 w z v0 v1 v2 v3 v4 v5).drew :=
  (((((((But.refl z w).setCell 0 v0).setCell 1 v1).setCell 2 v2).setCell 3 v3).setCell 4 v4).setCell 5 v5).trans (But.of_below ((Below.refl _ _).drew))
theorem set6_but0 (w : World) (z : Nat) (v0 v1 v2 v3 v4 v5 : Value) : But z w (set6 w z v0 v1 v2 v3 v4 v5) := ((((((But.refl z w).setCell 0 v0).setCell 1 v1).setCell 2 v2).setCell 3 v3).setCell 4 v4).setCell 5 v5
theorem set6_nd {w : World} {z : Nat} {c0 c1 c2 c3 c4 c5 : Value} {t : TypeId} (h : w.heap[z]? = some (.cells #[c0, c1, c2, c3, c4, c5] t (0, 0))) (v0 v1 v2 v3 v4 v5 : Value) : (set6 w z v0 v1 v2 v3 v4 v5).heap[z]? = some (.cells #[v0, v1, v2, v3, v4, v5] t (0, 0)) := by
  have h0 : (w.setCell ⟨z, 0, none⟩ v0).heap[z]? = some (.cells #[v0, c1, c2, c3, c4, c5] t (0, 0)) := heap_setCell_same _ z 0 _ _ v0 h
  have h1 : ((w.setCell ⟨z, 0, none⟩ v0).setCell ⟨z, 1, none⟩ v1).heap[z]? = some (.cells #[v0, v1, c2, c3, c4, c5] t (0, 0)) := heap_setCell_same _ z 1 _ _ v1 h0
  have h2 : (((w.setCell ⟨z, 0, none⟩ v0).setCell ⟨z, 1, none⟩ v1).setCell ⟨z, 2, none⟩ v2).heap[z]? = some (.cells #[v0, v1, v2, c3, c4, c5] t (0, 0)) := heap_setCell_same _ z 2 _ _ v2 h1
  have h3 : ((((w.setCell ⟨z, 0, none⟩ v0).setCell ⟨z, 1, none⟩ v1).setCell ⟨z, 2, none⟩ v2).setCell ⟨z, 3, none⟩ v3).heap[z]? = some (.cells #[v0, v1, v2, v3, c4, c5] t (0, 0)) := heap_setCell_same _ z 3 _ _ v3 h2
  have h4 : (((((w.setCell ⟨z, 0, none⟩ v0).setCell ⟨z, 1, none⟩ v1).setCell ⟨z, 2, none⟩ v2).setCell ⟨z, 3, none⟩ v3).setCell ⟨z, 4, none⟩ v4).heap[z]? = some (.cells #[v0, v1, v2, v3, v4, c5] t (0, 0)) := heap_setCell_same _ z 4 _ _ v4 h3
  have h5 : ((((((w.setCell ⟨z, 0, none⟩ v0).setCell ⟨z, 1, none⟩ v1).setCell ⟨z, 2, none⟩ v2).setCell ⟨z, 3, none⟩ v3).setCell ⟨z, 4, none⟩ v4).setCell ⟨z, 5, none⟩ v5).heap[z]? = some (.cells #[v0, v1, v2, v3, v4, v5] t (0, 0)) := heap_setCell_same _ z 5 _ _ v5 h4
  exact h5
theorem set6_row {w : World} {z : Nat} {c0 c1 c2 c3 c4 c5 : Value} {t : TypeId} (h : w.heap[z]? = some (.cells #[c0, c1, c2, c3, c4, c5] t (0, 0))) (v0 v1 v2 v3 v4 v5 : Value) : (set6 w z v0 v1 v2 v3 v4 v5).drew.heap[z]? = some (.cells #[v0, v1, v2, v3, v4, v5] t (0, 0)) := row_below (set6_nd h v0 v1 v2 v3 v4 v5) ((Below.refl _ _).drew)

def LInv (Z : LC) (last : Nat) (w : World) (j : Nat) (wr : World) (m : MS) (N : List Nd) (O : List Int) (W : List Wr) (C : List Cr) (G S : List Gft) (d : List Gft) : Prop := Rep wr Z.B Z.g m N O W C G S ∧ (m.room = Z.room ∧ Tl m d ∧ S = d.take Z.room) ∧ Below Z.B w wr ∧ wr.heap[w.heap.size]? = some (.cells zeroM 36 (0, 0)) ∧ j ≤ last + 1 ∧
  ((m.err = 0 ∧ m.shut = false ∧ Idle Z m.ticks d wr m N O W C G S ∧ lk Z.Q Z.fuel (last + 1) 0 0 [] = lk Z.Q Z.fuel (last + 1 - j) j m.ticks d) ∨ (m.err ≠ 0 ∧ m.shut = false ∧ lk Z.Q Z.fuel (last + 1) 0 0 [] = ⟨false, 0, 0, [], 0, d, m.err⟩) ∨ (m.err = 0 ∧ m.shut = true ∧ lk Z.Q Z.fuel (last + 1) 0 0 [] = ⟨false, 0, 0, [], m.ticks, d, 0⟩))
/-- How look ends. -/
def LookPost (Z : LC) (last : Nat) (w : World) (e : Ending) (w' : World) : Prop := ∃ m N O W C G S a1 c1 a2 n2 c2, Rep w' Z.B Z.g m N O W C G S ∧ m.room = Z.room ∧ Below Z.B w w' ∧ m.err = (lk Z.Q Z.fuel (last + 1) 0 0 []).err ∧ Tl m (lk Z.Q Z.fuel (last + 1) 0 0 []).told ∧
  e = .returned (.agg #[.bool (lk Z.Q Z.fuel (last + 1) 0 0 []).found, .int .i64 ((lk Z.Q Z.fuel (last + 1) 0 0 []).fr : Int), .int .i64 ((lk Z.Q Z.fuel (last + 1) 0 0 []).to : Int), .slice a1 (lk Z.Q Z.fuel (last + 1) 0 0 []).G.length c1, .slice a2 n2 c2, .int .i64 ((lk Z.Q Z.fuel (last + 1) 0 0 []).ticks : Int)]) ∧
  Row w' Z.B 44 2 gfV (.slice a1 (lk Z.Q Z.fuel (last + 1) 0 0 []).G.length c1) (lk Z.Q Z.fuel (last + 1) 0 0 []).G ∧ ((lk Z.Q Z.fuel (last + 1) 0 0 []).err = 0 → Row w' Z.B 44 2 gfV (.slice a2 n2 c2) ((lk Z.Q Z.fuel (last + 1) 0 0 []).told.take Z.room))

theorem lookPost_of {Z : LC} {last : Nat} {w w' w2 : World} {m : MS} {N : List Nd} {O : List Int} {W : List Wr} {C : List Cr} {G S : List Gft} {r : MR} {a1 a2 : Option Addr} {c1 n2 c2 : Nat} {c : Array Value} (h : Rep w' Z.B Z.g m N O W C G S) (hz : w'.heap[w.heap.size]? = some (.cells c 36 (0, 0))) (hb : Below Z.B w w') (hB : Z.B ≤ w.heap.size) (hbut : But w.heap.size w' w2) (hr : lk Z.Q Z.fuel (last + 1) 0 0 [] = r) (hrm : m.room = Z.room) (he : m.err = r.err) (ht : Tl m r.told) (hG : Row w' Z.B 44 2 gfV (.slice a1 r.G.length c1) r.G) (hSd : r.err = 0 → Row w' Z.B 44 2 gfV (.slice a2 n2 c2) (r.told.take Z.room)) :
    LookPost Z last w (.returned (.agg #[.bool r.found, .int .i64 (r.fr : Int), .int .i64 (r.to : Int), .slice a1 r.G.length c1, .slice a2 n2 c2, .int .i64 (r.ticks : Int)])) w2 := by
  subst hr
  exact ⟨m, N, O, W, C, G, S, a1, c1, a2, n2, c2, h.but hz hbut, hrm, below_but hb hbut hB hB, he, ht, rfl, hG.keepBut hz (by decide) hbut, fun q => (hSd q).keepBut hz (by decide) hbut⟩

set_option maxRecDepth 100000 in
set_option maxHeartbeats 4000000 in
theorem look_any {Z : LC} {w : World} {m : MS} {N : List Nd} {O : List Int} {W : List Wr} {C : List Cr} {G S : List Gft} (h : Idle Z 0 [] w m N O W C G S) (hrc : Z.Ok) (hF : FineS Z.T) (hf : Z.fuel ≤ 100000) (hs : Z.s.size ≤ 65536) (last : Nat) (hl : last ≤ Z.s.size) :
    Calls Tryd.prog 12 #[.pointer (some ⟨Z.g, 0, none⟩), .int .i64 (last : Int)] w (LookPost Z last w) := by
  have hb0 : Below w.heap.size w (w.alloc (.cells zeroM 36)) := (Below.refl _ _).alloc (Nat.le_refl _) _
  have h0 : LInv Z last w 0 (w.alloc (.cells zeroM 36)) m N O W C G S [] := ⟨h.rep.later hb0, ⟨h.room, ⟨h.td, by rw [h.td]; exact Nat.zero_le _⟩, h.sd⟩, hb0.mono h.rep.base, at_new rfl, Nat.zero_le _, .inl ⟨h.er, h.sh, ⟨h.rep.later hb0, h.s, h.fu, h.rt, h.room, rfl, (by rw [h.ti]; exact h.le), h.er, h.sh, h.td, h.ly, h.ns.fr h.rep (Fr.later hb0), h.sd, h.rv, h.ro, h.nl, h.pay, bnext h.bel hb0⟩, (by rw [h.ti]; rfl)⟩⟩
  have H0 := hide h0
  have HB := hide h.rep.base
  have HP := hide (And.intro hF (And.intro hf (And.intro hs hl)))
  have HRC := hide hrc
  clear h hb0 h0 hF hf hs hl hrc
  unfold zeroM at H0
  go_enter Tryd.func12, Tryd.ntmps12
  go_wp2_with fail
  go_loopw [5] (fun v wr => ∃ (j : Nat) (m : MS) (N : List Nd) (O : List Int) (W : List Wr) (C : List Cr) (G S d : List Gft), v = .int .i64 (j : Int) ∧ j ≤ last + 1 ∧ Hid (LInv Z last w j wr m N O W C G S d)) (fun v _ => last + 2 - (intOf v).toNat)
  case atStart => exact ⟨0, m, N, O, W, C, G, S, [], rfl, Nat.zero_le _, H0⟩
  case round =>
    clear H0
    obtain ⟨j, m, N, O, W, C, G, S, d, rfl, hj, HI⟩ := hrel
    obtain ⟨r, ⟨hrm, htd, hsd⟩, hbel, hz, -, hc⟩ := unhide HI
    have c17 := r.c17
    have c18 := r.c18
    have c12 := r.c12
    have c16 := r.c16
    obtain ⟨a2, cap2, hsv, -, -⟩ := r.said.len
    rw [hsv] at c12
    have HSd := hide (And.intro htd (show Row wr Z.B 44 2 gfV (.slice a2 S.length cap2) (d.take Z.room) by rw [← hsd, ← hsv]; exact r.said))
    clear hsv htd hsd
    have y0 : wr.cell? ⟨w.heap.size, 0, none⟩ = some (.bool false) := by rw [cell_of_row _ _ _ _ _ _ hz]; rfl
    have y1 : wr.cell? ⟨w.heap.size, 1, none⟩ = some (.int .i64 0) := by rw [cell_of_row _ _ _ _ _ _ hz]; rfl
    have y2 : wr.cell? ⟨w.heap.size, 2, none⟩ = some (.int .i64 0) := by rw [cell_of_row _ _ _ _ _ _ hz]; rfl
    have y3 : wr.cell? ⟨w.heap.size, 3, none⟩ = some (.slice none 0 0) := by rw [cell_of_row _ _ _ _ _ _ hz]; rfl
    have y4 : wr.cell? ⟨w.heap.size, 4, none⟩ = some (.slice none 0 0) := by rw [cell_of_row _ _ _ _ _ _ hz]; rfl
    have y5 : wr.cell? ⟨w.heap.size, 5, none⟩ = some (.int .i64 0) := by rw [cell_of_row _ _ _ _ _ _ hz]; rfl
    have fz : ∀ o, wr.frozen? ⟨w.heap.size, o, none⟩ = false := fun o => frozen_of_row wr _ o _ _ hz
    have z0 := fz 0
    have z1 := fz 1
    have z2 := fz 2
    have z3 := fz 3
    have z4 := fz 4
    have z5 := fz 5
    have hgz : ¬ Z.g = w.heap.size := fun e => blk_not_owned r hz (.inl e.symm)
    have hzg : ¬ w.heap.size = Z.g := fun e => hgz e.symm
    clear fz
    have HR := hide (And.intro r (And.intro hrm (And.intro hbel hz)))
    rcases hc with ⟨h1, h2, h3, h4⟩ | ⟨h1, h2, h3⟩ | ⟨h1, h2, h3⟩
    · rw [h1] at c18
      rw [h2] at c17
      rcases Nat.lt_or_ge last j with hlt | hge
      · have hx : ¬ (j : Int) ≤ (last : Int) := by omega
        have HK := hide (show lk Z.Q Z.fuel (last + 1) 0 0 [] = ⟨false, 0, 0, [], m.ticks, d, 0⟩ by rw [h4, show last + 1 - j = 0 by omega]; rfl)
        have HM := hide (And.intro h1 h2)
        clear r hrm hbel hz h1 h2 h3 h4
        go_wp2_with fail
        go_region
        go_wp2_with fail
        exact bodyPost_ret (results_cell_row rfl _ _ w.heap.size 36 #[.bool false, .int .i64 0, .int .i64 0, .slice none 0 0, .slice a2 S.length cap2, .int .i64 (m.ticks : Int)] (0, 0) _ rfl (set6_row (unhide HR).2.2.2 _ _ _ _ _ _) Tryd.underlying36 rfl size_match) rfl (lookPost_of (r := ⟨false, 0, 0, [], m.ticks, d, 0⟩) (unhide HR).1 (unhide HR).2.2.2 (unhide HR).2.2.1 (unhide HB) (set6_but _ _ _ _ _ _ _ _) (unhide HK) (unhide HR).2.1 (unhide HM).1 (unhide HSd).1 (World.ownsRow_nil _ _ _ 2) (fun _ => (unhide HSd).2))
      · have hx : (j : Int) ≤ (last : Int) := by omega
        have HG := hide (begin_any r j Z.rt h3.rt)
        have HS := hide (And.intro h3 h4)
        clear r hrm hbel hz h1 h2 h3 h4 c12 c16 y0 y1 y2 y3 y4 y5 z0 z1 z2 z3 z4 z5
        go_wp2_with fail
        clear c17 c18
        refine (unhide HG).mono ?_
        rintro e w3 ⟨rfl, wv, cv, gv, r3, f3⟩
        obtain ⟨h3, h4⟩ := unhide HS
        obtain ⟨hF, hf, hs, hl⟩ := unhide HP
        have HN := hide (next_found (j := j) (⟨r3, h3.s, h3.fu, h3.rt, h3.room, rfl, h3.le, h3.er, h3.sh, h3.td, h3.ly, h3.ns.fr (unhide HR).1 f3, h3.sd, h3.rv, h3.ro, h3.nl, h3.pay, h3.bel.trans ((Fr.below (unhide HR).1 f3).mono ((unhide HRC) 0 nil m w N [] h3.rv h3.room).low)⟩ : Idle Z m.ticks d w3 _ N O [] [] [] S) (unhide HRC) rfl rfl rfl rfl hF hf (by omega) hs)
        have HF3 := hide (And.intro (fr_match (unhide HR).1 f3 (unhide HR).2.2.2) (And.intro r3 (bel_trans (unhide HR).2.2.1 (Fr.below (unhide HR).1 f3) (unhide HB))))
        clear h3 h4 hF hf hs hl r3 f3 HG
        go_wp2_with fail
        refine (unhide HN).mono ?_
        rintro e w4 ⟨ok, rfl, m4, N4, O4, W4, C4, G4, S4, d4, r4, f4, hrm4, htd4, hsd4, h4⟩
        have hz4 := fr_match (unhide HF3).2.1 f4 (unhide HF3).1
        have hb4 := bel_trans (unhide HF3).2.2 (Fr.below (unhide HF3).2.1 f4) (unhide HB)
        clear HN HF3 f4 HR
        have HR := hide (And.intro r4 (And.intro hrm4 (And.intro hb4 hz4)))
        cases ok with
        | true =>
          rw [if_pos rfl] at h4
          obtain ⟨h5, h6⟩ := h4
          have HM := hide (And.intro h5 trivial)
          have HK := hide (show lk Z.Q Z.fuel (last + 1) 0 0 [] = ⟨true, j, m4.i, G4, m4.ticks, d4, 0⟩ by
            rw [(unhide HS).2, show last + 1 - j = (last - j) + 1 by omega, lk_found h6])
          have c7 := r4.c7
          have c11 := r4.c11
          have c12 := r4.c12
          have c16 := r4.c16
          obtain ⟨a2, cap2, hsv, -, -⟩ := r4.said.len
          obtain ⟨a1, cap1, hgv, -, -⟩ := r4.given.len
          have HGv := hide (show Row w4 Z.B 44 2 gfV (.slice a1 G4.length cap1) G4 by rw [← hgv]; exact r4.given)
          have HSd4 := hide (And.intro htd4 (show Row w4 Z.B 44 2 gfV (.slice a2 S4.length cap2) (d4.take Z.room) by rw [← hsd4, ← hsv]; exact r4.said))
          rw [hsv] at c12
          rw [hgv] at c11
          have y0 : w4.cell? ⟨w.heap.size, 0, none⟩ = some (.bool false) := by rw [cell_of_row _ _ _ _ _ _ hz4]; rfl
          have y1 : w4.cell? ⟨w.heap.size, 1, none⟩ = some (.int .i64 0) := by rw [cell_of_row _ _ _ _ _ _ hz4]; rfl
          have y2 : w4.cell? ⟨w.heap.size, 2, none⟩ = some (.int .i64 0) := by rw [cell_of_row _ _ _ _ _ _ hz4]; rfl
          have y3 : w4.cell? ⟨w.heap.size, 3, none⟩ = some (.slice none 0 0) := by rw [cell_of_row _ _ _ _ _ _ hz4]; rfl
          have y4 : w4.cell? ⟨w.heap.size, 4, none⟩ = some (.slice none 0 0) := by rw [cell_of_row _ _ _ _ _ _ hz4]; rfl
          have y5 : w4.cell? ⟨w.heap.size, 5, none⟩ = some (.int .i64 0) := by rw [cell_of_row _ _ _ _ _ _ hz4]; rfl
          have fz : ∀ o, w4.frozen? ⟨w.heap.size, o, none⟩ = false := fun o => frozen_of_row w4 _ o _ _ hz4
          have z0 := fz 0
          have z1 := fz 1
          have z2 := fz 2
          have z3 := fz 3
          have z4 := fz 4
          have z5 := fz 5
          clear fz hsv hgv h5 h6 r4 hrm4 hb4 hz4 htd4 hsd4
          go_wp2_with fail
          go_region
          go_wp2_with fail
          exact bodyPost_ret (results_cell_row rfl _ _ w.heap.size 36 #[.bool true, .int .i64 (j : Int), .int .i64 (m4.i : Int), .slice a1 G4.length cap1, .slice a2 S4.length cap2, .int .i64 (m4.ticks : Int)] (0, 0) _ rfl (set6_row (unhide HR).2.2.2 _ _ _ _ _ _) Tryd.underlying36 rfl size_match) rfl (lookPost_of (r := ⟨true, j, m4.i, G4, m4.ticks, d4, 0⟩) (unhide HR).1 (unhide HR).2.2.2 (unhide HR).2.2.1 (unhide HB) (set6_but _ _ _ _ _ _ _ _) (unhide HK) (unhide HR).2.1 (unhide HM).1 (unhide HSd4).1 (unhide HGv) (fun _ => (unhide HSd4).2))
        | false =>
          rw [if_neg (by simp)] at h4
          have HQ := hide (And.intro h4 (And.intro htd4 hsd4))
          have hw : wrap64 ((j : Int) + 1) = (j : Int) + 1 := IntWalk.wrap64_in _ (by have := (unhide HP).2.2.1; have := (unhide HP).2.2.2; omega)
          have HV := hide hw
          clear hw h4 r4 hrm4 hb4 hz4 htd4 hsd4
          go_wp2_with fail
          go_roundw
          case rel =>
            obtain ⟨r4, hrm4, hb4, hz4⟩ := unhide HR
            refine ⟨j + 1, m4, N4, O4, W4, C4, G4, S4, d4, by rw [unhide HV]; rfl, by omega, hide ⟨r4, ⟨hrm4, (unhide HQ).2.1, (unhide HQ).2.2⟩, hb4, hz4, by omega, ?_⟩⟩
            have e1 : last + 1 - j = (last - j) + 1 := by omega
            rcases (unhide HQ).1 with ⟨h5, h6, h8⟩ | ⟨h5, h6, h8⟩ | ⟨h5, h6, h7⟩ | ⟨h5, h6⟩
            · exact .inr (.inl ⟨by rw [h5]; decide, h6, by rw [(unhide HS).2, e1, lk_dry h8, h5]⟩)
            · exact .inr (.inl ⟨by rw [h5]; decide, h6, by rw [(unhide HS).2, e1, lk_lost h8, h5]⟩)
            · exact .inr (.inr ⟨h5, h6, by rw [(unhide HS).2, e1, lk_shut h7]⟩)
            · exact .inl ⟨h6.er, h6.sh, h6, by rw [(unhide HS).2, e1, lk_none h5, show last + 1 - (j + 1) = last - j by omega]⟩
          case measure =>
            rw [unhide HV]
            simp [intOf]; omega
    · rw [h2] at c17
      have hne : (m.err == 0) = false := by rw [beq_eq_false_iff_ne]; exact h1
      have hne' : (m.err != 0) = true := by rw [bne_iff_ne]; exact h1
      have HM := hide h2
      have HK := hide (And.intro h3 h1)
      obtain ⟨er, her⟩ : ∃ er, er = m.err := ⟨_, rfl⟩
      have HER := hide her
      rw [← her] at c18 hne hne'
      clear her
      clear r hrm hbel hz h1 h2 h3
      rcases Nat.lt_or_ge last j with hlt | hge
      · have hx : ¬ (j : Int) ≤ (last : Int) := by omega
        go_wp2_with fail
        exact bodyPost_ret (results_cell_row rfl _ _ w.heap.size 36 #[.bool false, .int .i64 0, .int .i64 0, .slice none 0 0, .slice none 0 0, .int .i64 0] (0, 0) _ rfl (set6_nd (unhide HR).2.2.2 _ _ _ _ _ _) Tryd.underlying36 rfl size_match) rfl (lookPost_of (r := ⟨false, 0, 0, [], 0, d, m.err⟩) (unhide HR).1 (unhide HR).2.2.2 (unhide HR).2.2.1 (unhide HB) (set6_but0 _ _ _ _ _ _ _ _) (unhide HK).1 (unhide HR).2.1 rfl (unhide HSd).1 (World.ownsRow_nil _ _ _ 2) (fun q => absurd q (unhide HK).2))
      · have hx : (j : Int) ≤ (last : Int) := by omega
        go_wp2_with fail
        exact bodyPost_ret (results_cell_row rfl _ _ w.heap.size 36 #[.bool false, .int .i64 0, .int .i64 0, .slice none 0 0, .slice none 0 0, .int .i64 0] (0, 0) _ rfl (set6_nd (unhide HR).2.2.2 _ _ _ _ _ _) Tryd.underlying36 rfl size_match) rfl (lookPost_of (r := ⟨false, 0, 0, [], 0, d, m.err⟩) (unhide HR).1 (unhide HR).2.2.2 (unhide HR).2.2.1 (unhide HB) (set6_but0 _ _ _ _ _ _ _ _) (unhide HK).1 (unhide HR).2.1 rfl (unhide HSd).1 (World.ownsRow_nil _ _ _ 2) (fun q => absurd q (unhide HK).2))
    · rw [h1] at c18
      rw [h2] at c17
      have HM := hide (And.intro h1 h2)
      have HK := hide h3
      clear r hrm hbel hz h1 h2 h3
      rcases Nat.lt_or_ge last j with hlt | hge
      · have hx : ¬ (j : Int) ≤ (last : Int) := by omega
        go_wp2_with fail
        go_region
        go_wp2_with fail
        exact bodyPost_ret (results_cell_row rfl _ _ w.heap.size 36 #[.bool false, .int .i64 0, .int .i64 0, .slice none 0 0, .slice a2 S.length cap2, .int .i64 (m.ticks : Int)] (0, 0) _ rfl (set6_row (unhide HR).2.2.2 _ _ _ _ _ _) Tryd.underlying36 rfl size_match) rfl (lookPost_of (r := ⟨false, 0, 0, [], m.ticks, d, 0⟩) (unhide HR).1 (unhide HR).2.2.2 (unhide HR).2.2.1 (unhide HB) (set6_but _ _ _ _ _ _ _ _) (unhide HK) (unhide HR).2.1 (unhide HM).1 (unhide HSd).1 (World.ownsRow_nil _ _ _ 2) (fun _ => (unhide HSd).2))
      · have hx : (j : Int) ≤ (last : Int) := by omega
        go_wp2_with fail
        go_region
        go_wp2_with fail
        exact bodyPost_ret (results_cell_row rfl _ _ w.heap.size 36 #[.bool false, .int .i64 0, .int .i64 0, .slice none 0 0, .slice a2 S.length cap2, .int .i64 (m.ticks : Int)] (0, 0) _ rfl (set6_row (unhide HR).2.2.2 _ _ _ _ _ _) Tryd.underlying36 rfl size_match) rfl (lookPost_of (r := ⟨false, 0, 0, [], m.ticks, d, 0⟩) (unhide HR).1 (unhide HR).2.2.2 (unhide HR).2.2.1 (unhide HB) (set6_but _ _ _ _ _ _ _ _) (unhide HK) (unhide HR).2.1 (unhide HM).1 (unhide HSd).1 (World.ownsRow_nil _ _ _ 2) (fun _ => (unhide HSd).2))
end Go.Proofs.YtkggmodabpjobaaDoor

namespace Go.Proofs.YtkggmodabpjobaaDoor
open Go.RowKit

/-- What Match tells. -/
def matchOf (RL : List (ByteArray × PT)) (dg : Nat → ByteArray) (T : PT) (s : ByteArray) (last f : Nat) : MR := lk (fun j => D s (fun nm => ruleOf nm RL) dg (f + 1) T j []) f (last + 1) 0 0 []
def MatchPost (r : MR) (w : World) (e : Ending) (w' : World) : Prop := ∃ a1 c1 a2 n2 c2,
  e = .returned (.tuple #[.agg #[.bool r.found, .int .i64 (r.fr : Int), .int .i64 (r.to : Int), .slice a1 r.G.length c1, .slice a2 n2 c2, .int .i64 (r.ticks : Int)], .int .i64 r.err]) ∧ Below w.heap.size w w' ∧ Row w' w.heap.size 44 2 gfV (.slice a1 r.G.length c1) r.G ∧ (r.err = 0 → Row w' w.heap.size 44 2 gfV (.slice a2 n2 c2) r.told)

theorem results_match {fn : Func} {p u : Tmp} (h : fn.results = #[.cell p 36, .tmp u]) (tmps : Array Value) (w : World) (g : Nat) (cs : Array Value)
    (hp : tmps.getD p undef = .pointer (some ⟨g, 0, none⟩)) (hg : w.heap[g]? = some (.cells cs 36 (0, 0))) (hi : (Tryd.prog.info? 36).map (·.size) = some cs.size) :
    (results fn tmps).run Tryd.prog w = .ok (.tuple #[.agg cs, tmps.getD u undef]) w := by
  have hp' : tmps[p]?.getD undef = .pointer (some ⟨g, 0, none⟩) := by simpa using hp
  have hl := run_loadVar_row w g 36 36 cs (0, 0) _ hg Tryd.underlying36 rfl hi
  rw [results_cell_tmp h]
  simp [hp', asAddr, hl]

set_option maxRecDepth 100000 in
set_option maxHeartbeats 600000 in
theorem match_free {RL : List (ByteArray × PT)} {v : Value} (dg : Nat → ByteArray) (T : PT) (s : ByteArray) (f : Nat) (w : World) (hV : RVal w RL v) (hIt : ItoaSays dg w) (hT : T.In w) (hS : Shapes w) (hs : s.size ≤ maxLen) (hq : wrongR RL T s f = 0) (r : MR) (hr : matchOf RL dg T s s.size f = r) (ht : r.told.length ≤ 65536) :
    Calls Tryd.prog 8 #[v, pv T, .string s, .bool false, .int .i64 (f : Int)] w (MatchPost r w) := by
  obtain ⟨fd, fr, tz, GG, tt, td, er⟩ := r
  have ht : td.length ≤ 65536 := ht
  have hb0 : Below w.heap.size w ((w.alloc (.cells #[.int .i64 T.k, .string T.t, .int .i64 T.n, .string T.nm, .slice T.xa T.len T.cap] 24)).alloc (.cells zeroM 36)) := ((Below.refl _ _).alloc (Nat.le_refl _) _).alloc (by simp) _
  have HW := hide (wrong_rules T s f _ (hV.later hb0) (PT.In.later hb0 hT) (hS.later hb0) hs)
  obtain ⟨hw1, hw2, hs6, -, hf6'⟩ := wrongR_ok hq
  have hf6 : f ≤ 100000 := by omega
  obtain ⟨hF, hNZ, hcn⟩ := right_of hw1
  have hRR := rules_right hw2
  have HN := hide (fun W (h : Below w.heap.size w W) => new_val (w := W) T s f 65536 (hV.later h) hRR.1 (PT.In.later h hT) hs6 (by omega) hNZ)
  have HB0 := hide hb0
  have HF := hide (And.intro hF (And.intro hf6 (And.intro hs6 (And.intro ht (And.intro hV (And.intro hIt (And.intro hRR hcn)))))))
  unfold pv at HW HN ⊢
  unfold zeroM at HW
  rw [hq] at HW
  clear hT hS hb0 hs hq hF hcn ht hNZ hRR hV hIt hw1 hw2 hf6'
  go_enter Tryd.func8, Tryd.ntmps8
  go_wp2_with fail
  refine (unhide HW).mono ?_
  rintro e w1 ⟨rfl, hb1⟩
  have hbx : w1.heap[w.heap.size]? = some (.cells #[.int .i64 T.k, .string T.t, .int .i64 T.n, .string T.nm, .slice T.xa T.len T.cap] 24 (0, 0)) := row_below (at_old (by simp) (at_new (w := w) rfl)) hb1
  have hz1 : w1.heap[w.heap.size + 1]? = some (.cells zeroM 36 (0, 0)) := row_below (at_new (by simp)) hb1
  have z0 : w1.cell? ⟨w.heap.size, 0, none⟩ = some (.int .i64 T.k) := by rw [cell_of_row _ _ _ _ _ _ hbx]; rfl
  have z1 : w1.cell? ⟨w.heap.size, 1, none⟩ = some (.string T.t) := by rw [cell_of_row _ _ _ _ _ _ hbx]; rfl
  have z2 : w1.cell? ⟨w.heap.size, 2, none⟩ = some (.int .i64 T.n) := by rw [cell_of_row _ _ _ _ _ _ hbx]; rfl
  have z3 : w1.cell? ⟨w.heap.size, 3, none⟩ = some (.string T.nm) := by rw [cell_of_row _ _ _ _ _ _ hbx]; rfl
  have z4 : w1.cell? ⟨w.heap.size, 4, none⟩ = some (.slice T.xa T.len T.cap) := by rw [cell_of_row _ _ _ _ _ _ hbx]; rfl
  have HB1 := hide (And.intro (bnext (unhide HB0) hb1) hz1)
  clear hbx hb1 hz1 HW HB0
  go_wp2_with fail
  refine (unhide HN w1 (unhide HB1).1).mono ?_
  rintro e w2 ⟨g, m, N, rfl, r2, m1, mr, m2, m3, m4, m5, m6, m7, m8, m9, l2, fr2, hb2⟩
  obtain ⟨Z, hZ⟩ : ∃ Z : LC, Z = ⟨s, fun nm => ruleOf nm RL, dg, fun nm => ruleAt nm RL 0, f, w1.heap.size, g, T, 0, 65536, RL, w1, m.rv⟩ := ⟨_, rfl⟩
  have hI : Idle Z 0 [] w2 m N (List.replicate RL.length (-1)) [] [] [] [] := by
    rw [hZ]
    exact ⟨r2, m1, m2, m9, m3, m4, Nat.zero_le _, m7, m6, m5, l2, fresh_ns fr2.1, rfl, rfl, rooted_new ⟨0, 0, s, fun nm => ruleAt nm RL 0, fun _ => none, dg, 0, 0, nil, m, w, [], [], RL, w, 0⟩ N, by rw [unl_new]; have := (unhide HF).2.2.2.2.2.2.1.1; have := (unhide HF).2.2.2.2.2.2.2; have := fr2.2; omega, by rw [m5]; exact Nat.zero_le _, hb2⟩
  have hOk : Z.Ok := by
    rw [hZ]
    intro t0 D0 m0 w' N0 L0 e1 e2
    exact rc_new (v := v) (Nat.le_refl _) ((unhide HF).2.2.2.2.1.later (unhide HB1).1) (fun q => e1.trans (mr q)) (unhide HF).2.2.2.2.2.2.1.1 (fun i R hR => right_of ((unhide HF).2.2.2.2.2.2.1.2 i R hR).2.2) rfl rfl ((fun (n : Nat) hn W hW => (unhide HF).2.2.2.2.2.1 n hn W (bnext (unhide HB1).1 hW))) (by show m0.room ≤ _; rw [e2]; show 65536 ≤ 100000000000; decide) (Nat.zero_le _)
  have hZg : Z.g = g := by rw [hZ]
  have HL := hide (look_any hI hOk (by rw [hZ]; exact (unhide HF).1) (by rw [hZ]; exact (unhide HF).2.1) (by rw [hZ]; exact (unhide HF).2.2.1) s.size (by rw [hZ]; exact Nat.le_refl _))
  have HZ := hide (show Z.B = w1.heap.size ∧ Z.room = 65536 ∧ lk Z.Q Z.fuel (s.size + 1) 0 0 [] = ⟨fd, fr, tz, GG, tt, td, er⟩ by rw [hZ]; exact ⟨rfl, rfl, hr⟩)
  have HZ1 := hide (show w.heap.size + 1 < w1.heap.size from (Array.getElem?_eq_some_iff.1 (unhide HB1).2).1)
  have HB2 := hide (And.intro (bnext (unhide HB1).1 hb2) (And.intro hb2 (row_below (unhide HB1).2 hb2)))
  rw [← hZg]
  clear hZ hZg hI hOk r2 m1 mr m2 m3 m4 m5 m6 m7 m8 m9 l2 fr2 hb2 z0 z1 z2 z3 z4 HN HB1
  go_wp2_with fail
  refine (unhide HL).mono ?_
  rintro e w3 ⟨m, N, O, W, C, G, S, a1, c1, a2, n2, c2, r3, hrm, hb3, her, htd, rfl, hG, hSd⟩
  rw [(unhide HZ).2.2] at her htd hG hSd ⊢
  dsimp only at her htd hG hSd ⊢
  have hSd : er = 0 → Row w3 Z.B 44 2 gfV (.slice a2 n2 c2) td := fun q => by have := hSd q; rwa [(unhide HZ).2.1, List.take_of_length_le ht] at this
  have c13 := r3.c13
  have c14 := r3.c14
  have c18 := r3.c18
  rw [her] at c18
  rw [htd.1] at c13
  rw [hrm, (unhide HZ).2.1] at c14
  have HR := hide (And.intro r3 (And.intro hb3 hG))
  have HSD := hide hSd
  clear hSd
  have HT := hide ht
  clear r3 hrm hb3 hG her htd hr HF
  have hz3 : w3.heap[w.heap.size + 1]? = some (.cells zeroM 36 (0, 0)) := ((unhide HR).2.1.block _ (by rw [(unhide HZ).1]; exact unhide HZ1)).trans (unhide HB2).2.2
  have hd : Below w3.heap.size w3 (w3.alloc (.cells #[.bool fd, .int .i64 (fr : Int), .int .i64 (tz : Int), .slice a1 GG.length c1, .slice a2 n2 c2, .int .i64 (tt : Int)] 36)) := (Below.refl _ _).alloc (Nat.le_refl _) _
  have r4 := (unhide HR).1.later hd
  have hz4 := row_below hz3 hd
  have hy4 : (w3.alloc (.cells #[.bool fd, .int .i64 (fr : Int), .int .i64 (tz : Int), .slice a1 GG.length c1, .slice a2 n2 c2, .int .i64 (tt : Int)] 36)).heap[w3.heap.size]? = some (.cells #[.bool fd, .int .i64 (fr : Int), .int .i64 (tz : Int), .slice a1 GG.length c1, .slice a2 n2 c2, .int .i64 (tt : Int)] 36 (0, 0)) := at_new rfl
  have hw1 : w1.heap.size ≤ w3.heap.size := Nat.le_trans (unhide HB2).2.1.size (unhide HR).2.1.size
  have hne : ¬ w.heap.size + 1 = w3.heap.size := by have := unhide HZ1; omega
  have hne' : ¬ w3.heap.size = w.heap.size + 1 := fun e => hne e.symm
  have hgz : ¬ Z.g = w.heap.size + 1 := fun e => blk_not_owned (unhide HR).1 hz3 (.inl e.symm)
  have hzg : ¬ w.heap.size + 1 = Z.g := fun e => hgz e.symm
  have HGG := hide ((unhide HR).2.2.later hd)
  have HSG := hide (fun q => (unhide HSD q).later hd)
  have HBB : Hid (Below w.heap.size w (w3.alloc (.cells #[.bool fd, .int .i64 (fr : Int), .int .i64 (tz : Int), .slice a1 GG.length c1, .slice a2 n2 c2, .int .i64 (tt : Int)] 36))) := hide (bnext (bel_trans (unhide HB2).1 ((unhide HR).2.1.mono (by rw [(unhide HZ).1]; have := unhide HZ1; omega)) (Nat.le_refl _)) hd)
  have HZB := hide (show w.heap.size ≤ Z.B by rw [(unhide HZ).1]; have := unhide HZ1; omega)
  obtain ⟨w4, hw4⟩ : ∃ w4, w4 = w3.alloc (.cells #[.bool fd, .int .i64 (fr : Int), .int .i64 (tz : Int), .slice a1 GG.length c1, .slice a2 n2 c2, .int .i64 (tt : Int)] 36) := ⟨_, rfl⟩
  have d13 := cell_later hd c13
  have d14 := cell_later hd c14
  have d18 := cell_later hd c18
  rw [← hw4] at d13 d14 d18 HBB hz4 hy4 r4 HGG HSG
  clear c13 c14 c18 r4 hz3 hd HR HB2 hw1
  have y0 : w4.cell? ⟨w.heap.size + 1, 0, none⟩ = some (.bool false) := by rw [cell_of_row _ _ _ _ _ _ hz4]; rfl
  have x0 : w4.cell? ⟨w3.heap.size, 0, none⟩ = some (.bool fd) := by rw [cell_of_row _ _ _ _ _ _ hy4]; rfl
  have z0 : w4.frozen? ⟨w.heap.size + 1, 0, none⟩ = false := frozen_of_row w4 _ _ _ _ hz4
  have y1 : w4.cell? ⟨w.heap.size + 1, 1, none⟩ = some (.int .i64 0) := by rw [cell_of_row _ _ _ _ _ _ hz4]; rfl
  have x1 : w4.cell? ⟨w3.heap.size, 1, none⟩ = some (.int .i64 (fr : Int)) := by rw [cell_of_row _ _ _ _ _ _ hy4]; rfl
  have z1 : w4.frozen? ⟨w.heap.size + 1, 1, none⟩ = false := frozen_of_row w4 _ _ _ _ hz4
  have y2 : w4.cell? ⟨w.heap.size + 1, 2, none⟩ = some (.int .i64 0) := by rw [cell_of_row _ _ _ _ _ _ hz4]; rfl
  have x2 : w4.cell? ⟨w3.heap.size, 2, none⟩ = some (.int .i64 (tz : Int)) := by rw [cell_of_row _ _ _ _ _ _ hy4]; rfl
  have z2 : w4.frozen? ⟨w.heap.size + 1, 2, none⟩ = false := frozen_of_row w4 _ _ _ _ hz4
  have y3 : w4.cell? ⟨w.heap.size + 1, 3, none⟩ = some (.slice none 0 0) := by rw [cell_of_row _ _ _ _ _ _ hz4]; rfl
  have x3 : w4.cell? ⟨w3.heap.size, 3, none⟩ = some (.slice a1 GG.length c1) := by rw [cell_of_row _ _ _ _ _ _ hy4]; rfl
  have z3 : w4.frozen? ⟨w.heap.size + 1, 3, none⟩ = false := frozen_of_row w4 _ _ _ _ hz4
  have y4 : w4.cell? ⟨w.heap.size + 1, 4, none⟩ = some (.slice none 0 0) := by rw [cell_of_row _ _ _ _ _ _ hz4]; rfl
  have x4 : w4.cell? ⟨w3.heap.size, 4, none⟩ = some (.slice a2 n2 c2) := by rw [cell_of_row _ _ _ _ _ _ hy4]; rfl
  have z4 : w4.frozen? ⟨w.heap.size + 1, 4, none⟩ = false := frozen_of_row w4 _ _ _ _ hz4
  have y5 : w4.cell? ⟨w.heap.size + 1, 5, none⟩ = some (.int .i64 0) := by rw [cell_of_row _ _ _ _ _ _ hz4]; rfl
  have x5 : w4.cell? ⟨w3.heap.size, 5, none⟩ = some (.int .i64 (tt : Int)) := by rw [cell_of_row _ _ _ _ _ _ hy4]; rfl
  have z5 : w4.frozen? ⟨w.heap.size + 1, 5, none⟩ = false := frozen_of_row w4 _ _ _ _ hz4
  have HZ4 := hide hz4
  clear hz4 hy4
  by_cases he : er = 0
  · subst he
    have ht' : ¬ ((65536 : Nat) : Int) < (td.length : Int) := by omega
    clear ht
    go_wp2_with fail
    rw [← hw4]
    clear hw4
    go_quiet (fail)
    go_wp2_with fail
    go_region
    go_wp2_with fail
    exact bodyPost_ret (results_match rfl _ _ (w.heap.size + 1) #[.bool fd, .int .i64 (fr : Int), .int .i64 (tz : Int), .slice a1 GG.length c1, .slice a2 n2 c2, .int .i64 (tt : Int)] rfl (set6_nd (row_below (unhide HZ4) (below_drewN (Below.refl _ _) (nq + 1))) _ _ _ _ _ _) size_match) rfl ⟨a1, c1, a2, n2, c2, rfl, But.below (below_drewN (unhide HBB) (nq + 1)) (set6_but0 _ _ _ _ _ _ _ _) (by omega), (((unhide HGG).later (below_drewN (Below.refl _ _) (nq + 1))).keepBut (row_below (unhide HZ4) (below_drewN (Below.refl _ _) (nq + 1))) (by decide) (set6_but0 _ _ _ _ _ _ _ _)).lower (unhide HZB), fun q => (((unhide HSG (by first | trivial | exact q)).later (below_drewN (Below.refl _ _) (nq + 1))).keepBut (row_below (unhide HZ4) (below_drewN (Below.refl _ _) (nq + 1))) (by decide) (set6_but0 _ _ _ _ _ _ _ _)).lower (unhide HZB)⟩
  · have he' : (er == 0) = false := by simpa using he
    clear ht
    go_wp2_with fail
    rw [← hw4]
    clear hw4
    go_quiet (fail)
    go_wp2_with fail
    go_region
    go_wp2_with fail
    exact bodyPost_ret (results_match rfl _ _ (w.heap.size + 1) #[.bool fd, .int .i64 (fr : Int), .int .i64 (tz : Int), .slice a1 GG.length c1, .slice a2 n2 c2, .int .i64 (tt : Int)] rfl (set6_nd (row_below (unhide HZ4) (below_drewN (Below.refl _ _) (nq + 1))) _ _ _ _ _ _) size_match) rfl ⟨a1, c1, a2, n2, c2, rfl, But.below (below_drewN (unhide HBB) (nq + 1)) (set6_but0 _ _ _ _ _ _ _ _) (by omega), (((unhide HGG).later (below_drewN (Below.refl _ _) (nq + 1))).keepBut (row_below (unhide HZ4) (below_drewN (Below.refl _ _) (nq + 1))) (by decide) (set6_but0 _ _ _ _ _ _ _ _)).lower (unhide HZB), fun q => (((unhide HSG (by first | trivial | exact q)).later (below_drewN (Below.refl _ _) (nq + 1))).keepBut (row_below (unhide HZ4) (below_drewN (Below.refl _ _) (nq + 1))) (by decide) (set6_but0 _ _ _ _ _ _ _ _)).lower (unhide HZB)⟩
end Go.Proofs.YtkggmodabpjobaaDoor

namespace Go.Proofs.YtkggmodabpjobaaDoor
open Go.RowKit
end Go.Proofs.YtkggmodabpjobaaDoor
