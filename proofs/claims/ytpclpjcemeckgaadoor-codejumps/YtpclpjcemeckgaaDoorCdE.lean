/- All of a statement; who lays instructions, at the beginning. -/
import Derived.Test.YtpclpjcemeckgaaDoorCdD
namespace Go.Proofs.YtpclpjcemeckgaaDoor
open Go.RowKit

theorem stm_set (fl : ByteArray → Option Int) (i : Nat) (S : SV) (out : List IN) : ((((out ++ [stepI i 0]) ++ bodyI i S) ++ waysI fl i S).set out.length (stepI i ((out.length + (bodyI i S).length + (waysI fl i S).length : Nat) : Int))) = out ++ stmI fl i out.length S := by
  unfold stmI
  rw [List.append_assoc, List.append_assoc, List.set_append_right _ _ (Nat.le_refl _), Nat.sub_self]
  rfl
theorem stm_len (fl : ByteArray → Option Int) (i : Nat) (S : SV) (out : List IN) : (((out ++ [stepI i 0]) ++ bodyI i S) ++ waysI fl i S).length = out.length + (bodyI i S).length + (waysI fl i S).length + 1 := by
  simp only [List.length_append, List.length_cons, List.length_nil]; omega
theorem stm_get (fl : ByteArray → Option Int) (i : Nat) (S : SV) (out : List IN) : (((out ++ [stepI i 0]) ++ bodyI i S) ++ waysI fl i S)[out.length]? = some (stepI i 0) := by
  rw [List.append_assoc, List.append_assoc, List.getElem?_append_right (Nat.le_refl _), Nat.sub_self]
  rfl
theorem body_len {S : SV} (hR : SR S) (i : Nat) : (bodyI i S).length ≤ 20000 := by
  have h1 := S.va.cod_len
  have h2 := plcI_len S.tg
  unfold bodyI
  by_cases k2 : S.k = 2
  · have := hR.va (by omega); rw [if_pos k2]; simp; omega
  rw [if_neg k2]
  by_cases k4 : S.k = 4
  · have := hR.va (by omega); rw [if_pos k4]; simp; omega
  rw [if_neg k4]
  by_cases k3 : S.k = 3
  · have := hR.va (by omega); have := hR.tg (by omega); rw [if_pos k3]; simp; omega
  rw [if_neg k3]
  by_cases k5 : S.k = 5
  · have := hR.va (by omega); have := hR.tg (by omega); rw [if_pos k5]; simp; omega
  rw [if_neg k5]
  split <;> simp
theorem ways_len (fl : ByteArray → Option Int) (i : Nat) (S : SV) : 1 ≤ (waysI fl i S).length ∧ (waysI fl i S).length ≤ 2 := by
  unfold waysI
  split
  · simp
  · split <;> simp
theorem idx4 {g n cap i : Nat} (hi : i < n) (w : World) : (Instr.indexAt 24 (.slice (some ⟨g, 0, none⟩) n cap) (.int .i64 (i : Int))).run Tryd.prog w = .ok (.pointer (some ⟨g, i * 4, none⟩)) w := idx_run Tryd.underlying24 size_instr hi w
set_option maxRecDepth 100000 in
set_option maxHeartbeats 4000000 in
theorem statement_any (S : SV) (i : Nat) (B z bl n : Nat) (V : PV) (P : List SV) (fl : ByteArray → Option Int) (out : List IN) (sts : List Nat) (w : World) (hM : MkM B z bl n (V.v P.length) fl out sts w) (hE : CE B w V P) (hS : P[i]? = some S) (hR : SR S) (hi : i ≤ 1000) (hm : ∀ t, ∃ m : Nat, (fl t).getD 0 = (m : Int)) (hl : out.length ≤ 80000000) (hsl : sts.length ≤ 1000) :
    Calls Tryd.prog 9 #[.pointer (some ⟨z, 0, none⟩), .int .i64 (i : Int)] w (MkPost B z bl n (V.v P.length) fl (out ++ stmI fl i out.length S) (sts ++ [out.length]) w) := by
  obtain ⟨ov, sv, hov, hro, hsv⟩ := hM.blk
  obtain ⟨oa, ocap, hoe, -, -⟩ := hro.len
  subst hoe
  have hbl := body_len hR i
  have hwl := ways_len fl i S
  have HSET := hide (stm_set fl i S out)
  have HLEN := hide (stm_len fl i S out)
  have HGET := hide (stm_get fl i S out)
  have c2 : w.cell? ⟨z, 2, none⟩ = some (.slice oa out.length ocap) := by rw [cell_of_row _ _ _ _ _ _ hov]; rfl
  have c3 : w.cell? ⟨z, 3, none⟩ = some sv := by rw [cell_of_row _ _ _ _ _ _ hov]; rfl
  have hzl := hM.zlt
  have hBw := hM.le
  have HRR := hide (show Row (w.alloc (.cells #[.int .i64 (out.length : Int)] 3)) B 3 1 nI sv sts from hsv.later ((Below.refl _ _).alloc (Nat.le_refl _) _))
  have HSZ := hide (show B ≤ (w.alloc (.cells #[.int .i64 (out.length : Int)] 3)).heap.size by rw [World.size_alloc]; omega)
  have HCC := hide (nI_cell (x := out.length) (show (w.alloc (.cells #[.int .i64 (out.length : Int)] 3)).heap[w.heap.size]? = some (.cells #[.int .i64 (out.length : Int)] 3 (0, 0)) from at_new rfl))
  have HG6 := hide (show ∀ w6, (w.alloc (.cells #[.int .i64 (out.length : Int)] 3)).grownBy w6 sv.ownBlock → w6.heap[z]? = some (.cells #[V.v P.length, .map (some bl), .slice oa out.length ocap, sv] 51 (0, 0)) from fun w6 hg => (hg.block z (by rw [World.size_alloc]; omega) (hsv.neBlk hov (by decide))).trans ((Below.heap_alloc _ _ _ hzl).trans hov))
  have HPUT := hide (fun w6 v' (hrow : Row w6 B 3 1 nI v' (sts ++ [out.length])) hg => hM.putS hov hro hsv ((Below.refl _ _).alloc (Nat.le_refl _) (.cells #[.int .i64 (out.length : Int)] 3)) hrow hg)
  have HBO := hide (fun W (q : Below B w W) (O : List IN) (T : List Nat) (h1 : O.length ≤ 90000000) (h2 : MkM B z bl n (V.v P.length) fl O T W) => body_any S i B z bl n V P fl O T W h2 (hE.next q) hS hR h1)
  have HWY := hide (fun W (q : Below B w W) (O : List IN) (T : List Nat) (h1 : O.length ≤ 94000000) (h2 : MkM B z bl n (V.v P.length) fl O T W) => ways_any S i B z bl n V P fl O T W h2 (hE.next q) hS hR hi hm h1)
  have HRES := hide (show stepI i ((out.length + (bodyI i S).length + (waysI fl i S).length : Nat) : Int) = ⟨(stepI i 0).op, (stepI i 0).t, (stepI i 0).n, ((out.length + (bodyI i S).length + (waysI fl i S).length : Nat) : Int)⟩ from rfl)
  generalize V.v P.length = pv at *
  generalize out ++ stmI fl i out.length S = res at *
  generalize bodyI i S = bo at *
  generalize waysI fl i S = wy at *
  clear hM hE hS hR hm hov hro hsv
  go_enter Tryd.func9, Tryd.ntmps9
  go_wp2_with (first
    | (at_builtin; refine wpList_row Tryd.underlying25 intRow rfl (by decide) (by decide) (fun _ => rfl) nI_one rfl _ _ rfl (unhide HRR) (unhide HSZ) out.length w.heap.size 1 rfl rfl (unhide HCC) (by omega) ?_; intro v' w6 hrow hgrow hown; have hz6 := unhide HG6 w6 hgrow; have c36 : w6.cell? ⟨z, 3, none⟩ = some sv := (cell_of_row _ _ _ _ _ _ hz6).trans rfl; have fr6 := frozen_of_row w6 z 3 _ _ hz6; obtain ⟨a', cap', hv', -, -⟩ := hrow.len; rw [show (sts ++ [out.length]).length = sts.length + 1 by simp] at hv'; subst hv'; have HEN := hide (unhide HPUT w6 _ hrow hgrow); clear hrow hgrow hown hz6)
    | fail)
  have hM7 := (unhide HEN).1
  have hb7 := (unhide HEN).2
  clear HEN c36 fr6
  generalize w6.setCell ⟨z, 3, none⟩ _ = w7 at *
  have HA := hide (show Calls Tryd.prog 10 #[.pointer (some ⟨z, 0, none⟩), .agg #[.int .i64 1, .string ⟨#[]⟩, .int .i64 (i : Int), .int .i64 0]] w7 (MkPost B z bl n pv fl (out ++ [stepI i 0]) (sts ++ [out.length]) w7) from adI_any w7 (stepI i 0) hM7 (by omega))
  have HB7 := hide hb7
  clear hM7 hb7
  refine (unhide HA).mono ?_
  rintro e w8 ⟨rfl, hM8, hb8⟩
  have HB8 := hide ((unhide HB7).trans hb8)
  have HC8 := hide (unhide HBO w8 (unhide HB8) (out ++ [stepI i 0]) _ (by simp; omega) hM8)
  clear hM8 hb8
  go_wp2_with fail
  refine (unhide HC8).mono ?_
  rintro e w9 ⟨rfl, hM9, hb9⟩
  have HB9 := hide ((unhide HB8).trans hb9)
  have HC9 := hide (unhide HWY w9 (unhide HB9) (out ++ [stepI i 0] ++ bo) _ (by simp; omega) hM9)
  clear hM9 hb9
  go_wp2_with fail
  refine (unhide HC9).mono ?_
  rintro e w10 ⟨rfl, hM10, hb10⟩
  have HB10 := hide ((unhide HB9).trans hb10)
  generalize out ++ [stepI i 0] ++ bo ++ wy = o4 at *
  obtain ⟨ov, sv2, hov, hro, hsv⟩ := hM10.blk
  have hne : o4 ≠ [] := fun e => by have := unhide HLEN; rw [e] at this; simp at this
  obtain ⟨g, gcap, rfl, -, -⟩ := hro.form hne
  have hc3 := hro.cell iC_len rfl (unhide HGET) (show (iC (stepI i 0))[3]? = some (.int .i64 0) from rfl)
  have hf3 := hro.frozen rfl (out.length * 4 + 3)
  have HZ := hide (hM10.aim (u := ((out.length + bo.length + wy.length : Nat) : Int)) hov hro hsv (unhide HGET))
  rw [← unhide HRES, unhide HSET] at HZ
  have HO := hide hov
  have hlt : out.length < o4.length := by rw [unhide HLEN]; omega
  have hix := idx4 (g := g) (cap := gcap) hlt
  have hN : o4.length = out.length + bo.length + wy.length + 1 := unhide HLEN
  have hmx : o4.length ≤ 90000000 := by omega
  have HNN := hide (show (o4.length : Int) - 1 = ((out.length + bo.length + wy.length : Nat) : Int) by omega)
  have hwr : IntKind.i64.wrap ((o4.length : Int) - 1) = (o4.length : Int) - 1 := IntWalk.i64_in _ (by omega)
  clear hM10 hb10 hov hro hsv hne hlt hN
  go_wp2_with fail
  have hS : w10.drew.heap[z]? = some (.cells #[pv, .map (some bl), .slice (some ⟨g, 0, none⟩) o4.length gcap, sv2] 51 (0, 0)) := unhide HO
  refine startE (by kernel_rfl) 13 (fun W => W.heap[z]? = some (.cells #[pv, .map (some bl), .slice (some ⟨g, 0, none⟩) o4.length gcap, sv2] 51 (0, 0))) ⟨by kernel_rfl, by kernel_rfl, by kernel_rfl, rfl⟩ ?_
  intro F
  refine takeE F (i := 0) (oi := _) (v := ?v0a) rfl (by kernel_rfl) (by kernel_rfl) (by rfl) (fun _ _ _ h => h) hS (Or.inl ⟨by rfl, ?y0a⟩) ?r0a
  case y0a => (intro w9 hSw; (go_simp <;> (try with_reducible rfl)))
  (try simp only [List.getElem_toArray, List.getElem_cons_zero])
  (try go_frame)
  refine takeE F (i := 1) (oi := _) (v := ?v1a) rfl (by kernel_rfl) (by kernel_rfl) (by rfl) (fun _ _ _ h => h) hS (Or.inl ⟨by rfl, ?y1a⟩) ?r1a
  case y1a => (intro w9 hSw; (go_simp <;> (try with_reducible rfl)))
  (try simp only [List.getElem_toArray, List.getElem_cons_succ, List.getElem_cons_zero])
  (try go_frame)
  refine takeE F (i := 2) (oi := _) (v := ?v2a) rfl (by kernel_rfl) (by kernel_rfl) (by rfl) (fun _ _ _ h => h) hS (Or.inl ⟨by rfl, ?y2a⟩) ?r2a
  case y2a => (intro w9 hSw; (go_simp <;> (try with_reducible rfl)))
  (try simp only [List.getElem_toArray, List.getElem_cons_succ, List.getElem_cons_zero])
  (try go_frame)
  refine takeE F (i := 3) (oi := _) (v := ?v3a) rfl (by kernel_rfl) (by kernel_rfl) (by rfl) (fun _ _ _ h => h) hS (Or.inl ⟨by rfl, ?y3a⟩) ?r3a
  case y3a => (intro w9 hSw; have g2 : w9.cell? ⟨z, 2, none⟩ = some (.slice (some ⟨g, 0, none⟩) o4.length gcap) := (cell_of_row _ _ _ _ _ _ hSw).trans rfl; (go_simp <;> (try with_reducible rfl)))
  (try simp only [List.getElem_toArray, List.getElem_cons_succ, List.getElem_cons_zero])
  (try go_frame)
  refine takeE F (i := 4) (oi := _) (v := ?v4a) rfl (by kernel_rfl) (by kernel_rfl) (by rfl) (fun _ _ _ h => h) hS (Or.inl ⟨by rfl, ?y4a⟩) ?r4a
  case y4a => (intro w9 hSw; (go_simp <;> (try with_reducible rfl)))
  (try simp only [List.getElem_toArray, List.getElem_cons_succ, List.getElem_cons_zero])
  (try go_frame)
  refine takeE F (i := 5) (oi := _) (v := ?v5a) rfl (by kernel_rfl) (by kernel_rfl) (by rfl) (fun _ _ _ h => h) hS (Or.inl ⟨by rfl, ?y5a⟩) ?r5a
  case y5a => (intro w9 hSw; (go_simp <;> (try with_reducible rfl)))
  (try simp only [List.getElem_toArray, List.getElem_cons_succ, List.getElem_cons_zero])
  (try go_frame)
  refine takeE F (i := 6) (oi := _) (v := ?v6a) rfl (by kernel_rfl) (by kernel_rfl) (by rfl) (fun _ _ _ h => h) hS (Or.inl ⟨by rfl, ?y6a⟩) ?r6a
  case y6a => (intro w9 hSw; (go_simp <;> (try with_reducible rfl)))
  (try simp only [List.getElem_toArray, List.getElem_cons_succ, List.getElem_cons_zero])
  (try go_frame)
  refine takeE F (i := 7) (oi := _) (v := ?v7a) rfl (by kernel_rfl) (by kernel_rfl) (by rfl) (fun _ _ _ h => h) hS (Or.inl ⟨by rfl, ?y7a⟩) ?r7a
  case y7a => (intro w9 hSw; (go_simp <;> (try with_reducible rfl)))
  (try simp only [List.getElem_toArray, List.getElem_cons_succ, List.getElem_cons_zero])
  (try go_frame)
  refine takeE F (i := 8) (oi := _) (v := ?v8a) rfl (by kernel_rfl) (by kernel_rfl) (by rfl) (fun _ _ _ h => h) hS (Or.inl ⟨by rfl, ?y8a⟩) ?r8a
  case y8a => (intro w9 hSw; have g2 : w9.cell? ⟨z, 2, none⟩ = some (.slice (some ⟨g, 0, none⟩) o4.length gcap) := (cell_of_row _ _ _ _ _ _ hSw).trans rfl; (go_simp <;> (try with_reducible rfl)))
  (try simp only [List.getElem_toArray, List.getElem_cons_succ, List.getElem_cons_zero])
  (try go_frame)
  refine takeE F (i := 9) (oi := _) (v := ?v9a) rfl (by kernel_rfl) (by kernel_rfl) (by rfl) (fun _ _ _ h => h) hS (Or.inl ⟨by rfl, ?y9a⟩) ?r9a
  case y9a => (intro w9 hSw; (go_simp <;> (try with_reducible rfl)))
  (try simp only [List.getElem_toArray, List.getElem_cons_succ, List.getElem_cons_zero])
  (try go_frame)
  refine takeE F (i := 10) (oi := _) (v := ?v10a) rfl (by kernel_rfl) (by kernel_rfl) (by rfl) (fun _ _ _ h => h) hS (Or.inl ⟨by rfl, ?y10a⟩) ?r10a
  case y10a => (intro w9 hSw; (go_simp <;> (try with_reducible rfl)))
  (try simp only [List.getElem_toArray, List.getElem_cons_succ, List.getElem_cons_zero])
  (try go_frame)
  refine takeE F (i := 11) (oi := _) (v := ?v11a) rfl (by kernel_rfl) (by kernel_rfl) (by rfl) (fun _ _ _ h => h) hS (Or.inl ⟨by rfl, ?y11a⟩) ?r11a
  case y11a => (intro w9 hSw; (go_simp <;> (try with_reducible rfl)))
  (try simp only [List.getElem_toArray, List.getElem_cons_succ, List.getElem_cons_zero])
  (try go_frame)
  refine takeE F (i := 12) (oi := _) (v := ?v12a) rfl (by kernel_rfl) (by kernel_rfl) (by rfl) (fun _ _ _ h => h) hS (Or.inl ⟨by rfl, ?y12a⟩) ?r12a
  case y12a => (intro w9 hSw; (go_simp <;> (try with_reducible rfl)))
  (try simp only [List.getElem_toArray, List.getElem_cons_succ, List.getElem_cons_zero])
  (try go_frame)
  refine lastE (by kernel_rfl) rfl (by kernel_rfl) (fun K5 hK5 => ?_)
  go_simp
  refine hK5 _ _ ?_
  (try simp only [List.getElem_toArray, List.getElem_cons_succ, List.getElem_cons_zero])
  (try go_frame)
  rw [unhide HNN]
  clear hK5 F hS
  go_wp2_with fail
  go_end0
  exact ⟨rfl, (unhide HZ).1.same rfl, (unhide HB10).trans (unhide HZ).2.drew⟩
/-- A label is learnt. -/
theorem MkM.learn {B z bl n : Nat} {pv : Value} {fl : ByteArray → Option Int} {out : List IN} {sts : List Nat} {w : World} (h : MkM B z bl n pv fl out sts w) (s : ByteArray) (i : Nat) (hs : s.size ≤ maxLen) (hn : n ≤ 10000) (hi : i ≤ 2000) : ∃ w', (Instr.mapUpdate 49 (.map (some bl)) (.string s) (.int .i64 (i : Int))).run Tryd.prog w.drew = .ok () w' ∧ MkM B z bl (n + 1) pv (putF fl s (i : Int)) out sts w' ∧ Below B w w' := by
  obtain ⟨D, hown, h5⟩ := h.lab
  obtain ⟨w4, hrun, r1, r2⟩ := hown.drew.update (Maps.string_keyed Tryd.underlying9) Tryd.underlying49 (by unfold maxLen; omega) (keyS_key hs) (plainElem_int (e := 3) (a := (i : Int)) Tryd.underlying3 (by simp [Lit.wf, IntKind.min, IntKind.max, IntKind.signed, IntKind.bits]; omega))
  obtain ⟨ov, sv, h1, h2, h3⟩ := h.blk
  have hk : ∀ k, k < w.heap.size → k ≠ bl → w4.heap[k]? = w.heap[k]? := fun k a b => r2.block k a (fun e => by injection e with e; exact b e)
  refine ⟨w4, hrun, ⟨⟨ov, sv, (hk z h.zlt (map_ne h.lab h1).symm).trans h1, h2.same fun k q => ?_, h3.same fun k q => ?_⟩, MI.put h5 hown.isMap r1, h.oz, h.ol⟩, ⟨r2.os, r2.tape, r2.output, r2.size, fun k q => hk k (by have := h.le; omega) (by have := h.ol; omega)⟩⟩
  · obtain ⟨cur, hc⟩ := h2.type q
    exact hk k (h2.low q).2 (map_ne h.lab hc).symm
  · obtain ⟨cur, hc⟩ := h3.type q
    exact hk k (h3.low q).2 (map_ne h.lab hc).symm
theorem MkM.more {B z bl n : Nat} {pv : Value} {fl : ByteArray → Option Int} {out : List IN} {sts : List Nat} {w : World} (h : MkM B z bl n pv fl out sts w) : MkM B z bl (n + 1) pv fl out sts w := ⟨h.blk, h.lab.more, h.oz, h.ol⟩
def NewPost (w : World) (V : PV) (P : List SV) (e : Ending) (w' : World) : Prop := ∃ z bl, e = .returned (.pointer (some ⟨z, 0, none⟩)) ∧ MkM w.heap.size z bl P.length (V.v P.length) (labF P) [] [] w' ∧ Below w.heap.size w w'
set_option maxRecDepth 100000 in
set_option maxHeartbeats 8000000 in
theorem newMaker_any (w : World) (V : PV) (P : List SV) (hE : CE w.heap.size w V P) (hP : P.length ≤ 1000) (hL : ∀ (i : Nat) (S : SV), P[i]? = some S → SR S) : Calls Tryd.prog 8 #[V.v P.length] w (NewPost w V P) := by
  have hmm := @run_makeMap Tryd.prog
  have HPR := hide hE.prog
  have HSR := hide hL
  have HPL := hide hP
  have hpl : P.length ≤ 1000 := hP
  obtain ⟨w1, hw1⟩ : ∃ w1, w1 = (w.alloc (.map #[] 0)).alloc (.cells #[.slice V.xa P.length V.cap, .map (some w.heap.size), .slice none 0 0, .slice none 0 0] 51) := ⟨_, rfl⟩
  have hb0 : Below w.heap.size w (w.alloc (.map #[] 0)) := (Below.refl _ _).alloc (Nat.le_refl _) _
  have hb1 : Below w.heap.size w w1 := by rw [hw1]; exact hb0.alloc (by rw [World.size_alloc]; omega) _
  have hz1 : w1.heap[w.heap.size + 1]? = some (.cells #[.slice V.xa P.length V.cap, .map (some w.heap.size), .slice none 0 0, .slice none 0 0] 51 (0, 0)) := by rw [hw1]; exact at_new (by rw [World.size_alloc])
  have hM1 : MkM w.heap.size (w.heap.size + 1) w.heap.size 0 (.slice V.xa P.length V.cap) (labTo P 0) [] [] w1 := by
    refine ⟨⟨_, _, hz1, ⟨rfl, .inl ⟨rfl, rfl⟩⟩, ⟨rfl, .inl ⟨rfl, rfl⟩⟩⟩, ?_, by omega, Nat.le_refl _⟩
    have h := MI.new (w := w)
    refine h.below ?_
    rw [hw1]
    exact Below.heap_alloc _ _ _ (by rw [World.size_alloc]; omega)
  have HM1 := hide (And.intro hM1 hb1)
  have HW1 := hide hw1
  unfold PV.v NewPost
  clear hE hL hP hb0 hb1 hz1 hM1 hw1
  go_enter Tryd.func8, Tryd.ntmps8
  go_wp2_with fail
  rw [show (w.alloc (.map #[] 0)).alloc (.cells #[.slice V.xa P.length V.cap, .map (some w.heap.size), .slice none 0 0, .slice none 0 0] 51) = w1 from (unhide HW1).symm]
  go_loopw [12] (fun i wr => ∃ k : Nat, k ≤ P.length ∧ i = .int .i64 (k : Int) ∧ Hid (MkM w.heap.size (w.heap.size + 1) w.heap.size k (.slice V.xa P.length V.cap) (labTo P k) [] [] wr ∧ Below w.heap.size w wr)) (fun i _ => P.length - (intOf i).toNat)
  case atStart => exact ⟨0, by omega, rfl, unhide HM1⟩
  case round =>
    obtain ⟨k, hk, rfl, HI⟩ := hrel
    rcases Nat.lt_or_ge k P.length with hkt | hkt
    · obtain ⟨S, hS⟩ : ∃ S, P[k]? = some S := ⟨P[k]'hkt, List.getElem?_eq_getElem _⟩
      have hp := unhide HPR wr (unhide HI).2
      have hat := hp.at_ (by omega)
      have HRG := hide (hp.row k S hS).1
      have hix := idx24 (g := V.gb) (o := V.ob) (cap := V.cap) (n := P.length) (i := k) hkt
      rw [← hat] at hix
      have hD24 : S.cells.toList.length = 24 := sv_size S
      have HON := hide (sv_one S)
      have HCC := hide (show S.cells.toList[0]? = some (.string S.lab) from rfl)
      have hts : S.lab.size ≤ maxLen := Nat.le_trans (unhide HSR k S hS).lab.2.2.2 (by unfold maxLen; decide)
      have HLT := hide (show labTo P (k + 1) = if S.lab.toList.isEmpty = true then labTo P k else putF (labTo P k) S.lab (k : Int) from labS1_at hS _)
      obtain ⟨L, hL⟩ : ∃ L, L = S.cells.toList := ⟨_, rfl⟩
      have hLa : S.cells = L.toArray := by rw [hL]
      rw [← hL] at HRG hD24 HCC
      rw [hLa] at HON
      obtain ⟨w4, hw4⟩ : ∃ w4, w4 = wr.alloc (.cells L.toArray 44) := ⟨_, rfl⟩
      have hb4 : Below wr.heap.size wr w4 := by rw [hw4]; exact (Below.refl _ _).alloc (Nat.le_refl _) _
      have hr4 : w4.heap[wr.heap.size]? = some (.cells L.toArray 44 (0, 0)) := by rw [hw4]; exact at_new rfl
      have d0 : w4.cell? ⟨wr.heap.size, 0, none⟩ = some (.string S.lab) := by rw [cell_of_row _ _ _ _ _ _ hr4, List.getElem?_toArray]; exact unhide HCC
      have hM4 := (unhide HI).1.later hb4
      have d1 := hM4.c1
      have HB4 := hide ((unhide HI).2.trans (hb4.mono (unhide HI).1.le))
      have HRW4 := hide hw4
      have HM4 := hide hM4
      have hlb : k ≤ 1000 := by have := unhide HPL; omega
      clear hS hp hat hL hLa hw4 hb4 hr4 hM4
      cases he : S.lab.toList.isEmpty
      · obtain ⟨w5, hrun, hM5, hb5⟩ := (unhide HM4).learn S.lab k hts (by omega) (by omega)
        have HZ := hide (show MkM w.heap.size (w.heap.size + 1) w.heap.size (k + 1) (.slice V.xa P.length V.cap) (labTo P (k + 1)) [] [] w5 ∧ Below w.heap.size w w5 from ⟨by rw [unhide HLT, if_neg (by rw [he]; decide)]; exact hM5, (unhide HB4).trans hb5⟩)
        clear hM5 hb5
        go_wp2_with (first
          | (refine wpList_load_mid rfl 44 _ rfl V.gb (V.ob + k * 24) rfl L _ (unhide HRG) Tryd.underlying44 rfl (size_stmt.trans (by rw [hD24])) ?_)
          | (refine wpList_store_row rfl 44 _ _ rfl wr.heap.size L.toArray rfl rfl 44 _ (at_new rfl) (size_stmt.trans (by rw [show L.toArray.size = 24 from List.size_toArray.trans hD24])) (by rw [show L.toArray.size = 24 from List.size_toArray.trans hD24]; rfl) (unhide HON) ?_; rw [World.setRow_alloc_new]; rw [show wr.alloc (.cells L.toArray 44) = w4 from (unhide HRW4).symm])
          | fail)
        go_region
        go_wp2_with fail
        exact ⟨⟨k + 1, by omega, by go_num, unhide HZ⟩, by simp [intOf]; omega⟩
      · have HZ := hide (show MkM w.heap.size (w.heap.size + 1) w.heap.size (k + 1) (.slice V.xa P.length V.cap) (labTo P (k + 1)) [] [] w4 ∧ Below w.heap.size w w4 from ⟨by rw [unhide HLT, if_pos he]; exact (unhide HM4).more, unhide HB4⟩)
        go_wp2_with (first
          | (refine wpList_load_mid rfl 44 _ rfl V.gb (V.ob + k * 24) rfl L _ (unhide HRG) Tryd.underlying44 rfl (size_stmt.trans (by rw [hD24])) ?_)
          | (refine wpList_store_row rfl 44 _ _ rfl wr.heap.size L.toArray rfl rfl 44 _ (at_new rfl) (size_stmt.trans (by rw [show L.toArray.size = 24 from List.size_toArray.trans hD24])) (by rw [show L.toArray.size = 24 from List.size_toArray.trans hD24]; rfl) (unhide HON) ?_; rw [World.setRow_alloc_new]; rw [show wr.alloc (.cells L.toArray 44) = w4 from (unhide HRW4).symm])
          | fail)
        exact ⟨⟨k + 1, by omega, by go_num, unhide HZ⟩, by simp [intOf]; omega⟩
    · obtain rfl : k = P.length := by omega
      go_wp2_with fail
      go_ret
      exact ⟨_, _, rfl, (unhide HI).1, (unhide HI).2⟩
end Go.Proofs.YtpclpjcemeckgaaDoor
