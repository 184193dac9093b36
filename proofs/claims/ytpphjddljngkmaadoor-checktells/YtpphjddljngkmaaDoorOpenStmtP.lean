/- The table of kinds, out of what the row lists. A pattern that came in, opened: its nodes lie in memory, and there are no more of them than the reading has values. A pattern, and rules, that came in, opened. -/
import Derived.Test.YtpphjddljngkmaaDoorRows
import Derived.Test.YtpphjddljngkmaaDoorPatWrongP
import Derived.ProofKit
import Derived.OpenShut
import Derived.LaidLaws
import Derived.Lib.LaidTab
import Derived.Test.YtpphjddljngkmaaDoorPatPlainP
import Derived.Deep.Slices
import Derived.WalkKit
import Derived.Test.YtpphjddljngkmaaDoorCkQP
import Derived.Stop.LaidErr
namespace Go.Proofs.YtpphjddljngkmaaDoor
open Go.ChangeShapes Go.WideShapes Go.ChangeAt Go.RowKit

theorem cells_shape : Tryd.prog.cellsOf 108 = 4 := by kernel_rfl
theorem cells_int4 : Tryd.prog.cellsOf 3 = 1 := by kernel_rfl
theorem cells_str4 : Tryd.prog.cellsOf 9 = 1 := by kernel_rfl
set_option maxRecDepth 100000 in
theorem shape_open {H : Type} {enc : TypeId × Value → H} {W : World} {base m : Nat} {spare : Nat → Bool} {held : Bool} {cs : List Value} {pl : List MemPlace} {s : List UInt8} {h a b : Int}
    (hd : DataW.trod enc Tryd.prog W base spare held m 108 cs = some (.agg [.lit (.string s), .lit (.int .i64 h), .lit (.int .i64 a), .lit (.int .i64 b)], pl)) :
    cs = [.string ⟨s.toArray⟩, .int .i64 h, .int .i64 a, .int .i64 b] := by
  obtain ⟨xs, n, -, hx, hl, hxs, hf⟩ := DataW.trod_struct Tryd.underlying108 hd
  rw [cells_shape] at hl
  replace hxs : xs.length = 4 := hxs
  simp only [Prod.mk.injEq, DataW.agg.injEq] at hx
  match xs, hxs, cs, hl with
  | [x0, x1, x2, x3], _, [c0, c1, c2, c3], _ =>
    have u0 := hf 0 _ rfl
    have u1 := hf 1 _ rfl
    have u2 := hf 2 _ rfl
    have u3 := hf 3 _ rfl
    simp [cells_str4] at u0
    simp [cells_int4] at u1 u2 u3
    obtain ⟨t, hc0, hd0, -⟩ := DataW.trod_string Tryd.underlying9 u0
    obtain ⟨k1, hc1, hd1, -⟩ := DataW.trod_int Tryd.underlying3 u1
    obtain ⟨k2, hc2, hd2, -⟩ := DataW.trod_int Tryd.underlying3 u2
    obtain ⟨k3, hc3, hd3, -⟩ := DataW.trod_int Tryd.underlying3 u3
    simp only [List.cons.injEq, and_true] at hc0 hc1 hc2 hc3
    subst hc0 hc1 hc2 hc3
    have hx1 := hx.1
    rw [hd0, hd1, hd2, hd3] at hx1
    simp only [List.map_cons, List.map_nil, List.cons.injEq, DataW.lit.injEq, Lit.string.injEq, Lit.int.injEq, and_true, true_and] at hx1
    obtain ⟨e0, e1, e2, e3⟩ := hx1
    subst e1 e2 e3
    rw [e0]
theorem shapes_lit (K : Nat) (h1 : 1 ≤ K) (h2 : K ≤ 24) : ∃ l, (Rows.laid_scanfail_pats_shapes (H := Unit)) = .agg l ∧ l[K]? = some (.agg [.lit (.string (wordK K).data.toList), .lit (.int .i64 (hasK K)), .lit (.int .i64 (leastK K)), .lit (.int .i64 (mostK K))]) := by
  refine ⟨_, rfl, ?_⟩
  have h : K = 1 ∨ K = 2 ∨ K = 3 ∨ K = 4 ∨ K = 5 ∨ K = 6 ∨ K = 7 ∨ K = 8 ∨ K = 9 ∨ K = 10 ∨ K = 11 ∨ K = 12 ∨ K = 13 ∨ K = 14 ∨ K = 15 ∨ K = 16 ∨ K = 17 ∨ K = 18 ∨ K = 19 ∨ K = 20 ∨ K = 21 ∨ K = 22 ∨ K = 23 ∨ K = 24 := by omega
  rcases h with rfl | rfl | rfl | rfl | rfl | rfl | rfl | rfl | rfl | rfl | rfl | rfl | rfl | rfl | rfl | rfl | rfl | rfl | rfl | rfl | rfl | rfl | rfl | rfl <;> rfl
set_option maxRecDepth 100000 in
theorem shapes_of {W : World} {rest : List (String × DataW Unit)} (h : laidMet Tryd.prog (("scanfail/pats.shapes", Rows.laid_scanfail_pats_shapes) :: rest) W) : Shapes W := by
  obtain ⟨ps, ⟨g', t', cs, fuel, p, q, hg', ht', hvar, hd, -, -⟩, -⟩ := h
  have hg : Tryd.prog.globalNamed "scanfail/pats.shapes" = some 1 := by kernel_rfl
  have hty : (Tryd.prog.globals[1]?).map (·.type) = some 109 := by kernel_rfl
  obtain rfl := Option.some.inj (hg.symm.trans hg')
  obtain rfl := Option.some.inj (hty.symm.trans ht')
  intro K h1 h2
  obtain ⟨l, hl, hlK⟩ := shapes_lit K h1 h2
  rw [hl] at hd
  obtain ⟨xs, m, -, hx, hcl, hxl, hf⟩ := DataW.trod_array Tryd.underlying109 hd
  simp only [Prod.mk.injEq, DataW.agg.injEq] at hx
  have hK := hf K (by omega)
  rw [cells_shape] at hK
  have hxK : ∃ y, xs[K]? = some y ∧ y.1 = .agg [.lit (.string (wordK K).data.toList), .lit (.int .i64 (hasK K)), .lit (.int .i64 (leastK K)), .lit (.int .i64 (mostK K))] := by
    rw [hx.1, List.getElem?_map] at hlK
    cases hy : xs[K]? with
    | none => rw [hy] at hlK; cases hlK
    | some y => rw [hy] at hlK; exact ⟨y, rfl, Option.some.inj hlK⟩
  obtain ⟨⟨y1, y2⟩, hy, hyd⟩ := hxK
  simp only at hyd
  rw [hy, hyd] at hK
  have hrow := shape_open hK
  have hc : ∀ j, j < 4 → W.cell? ⟨1, K * 4 + j, none⟩ = ((cs.toList.drop (K * 4)).take 4)[j]? := fun j hj => by
    have h3 := World.var?_cell hg hvar (K * 4 + j)
    rw [h3, List.getElem?_take, if_pos hj, List.getElem?_drop, Array.getElem?_toList]
  rw [hrow] at hc
  exact ⟨hc 0 (by omega), hc 1 (by omega), hc 2 (by omega), hc 3 (by omega)⟩
end Go.Proofs.YtpphjddljngkmaaDoor

namespace Go.Proofs.YtpphjddljngkmaaDoor
open Go.ChangeShapes Go.WideShapes Go.ChangeAt Go.RowKit Go.Deep

theorem cells_24 : Tryd.prog.cellsOf 46 = 5 := by kernel_rfl
theorem cells_int : Tryd.prog.cellsOf 3 = 1 := by kernel_rfl
theorem cells_str : Tryd.prog.cellsOf 9 = 1 := by kernel_rfl
theorem cells_sl : Tryd.prog.cellsOf 44 = 1 := by kernel_rfl
theorem bulk_mem {H : Type} : ∀ (l : List (DataW H)) (x : DataW H), x ∈ l → Rows.uptoBulk x ≤ Rows.uptoBulkAll l
  | [], x, h => by simp at h
  | y :: l, x, h => by
    simp only [Rows.uptoBulkAll]
    rcases List.mem_cons.1 h with rfl | h
    · omega
    · have := bulk_mem l x h; omega
theorem bulk_range {H : Type} (D : Nat → DataW H) (f : Nat → Nat) : ∀ n, (∀ i, i < n → f i ≤ Rows.uptoBulk (D i)) → sumTo f n ≤ Rows.uptoBulkAll ((List.range n).map D)
  | 0, _ => Nat.zero_le _
  | n + 1, h => by
    have ih := bulk_range D f n (fun i hi => h i (by omega))
    have hn := h n (by omega)
    have happ : ∀ (a : List (DataW H)) (x : DataW H), Rows.uptoBulkAll (a ++ [x]) = Rows.uptoBulkAll a + Rows.uptoBulk x := by
      intro a x
      induction a with
      | nil => simp [Rows.uptoBulkAll]
      | cons y a iha => simp only [List.cons_append, Rows.uptoBulkAll, iha]; omega
    rw [List.range_succ, List.map_append, List.map_cons, List.map_nil, happ]
    simp only [sumTo]
    omega
set_option maxRecDepth 100000 in
theorem open_pat {H : Type} {enc : TypeId × Value → H} {W : World} : ∀ (N fuel : Nat) (cs : List Value) (d : DataW H) (pl : List MemPlace), Rows.uptoBulk d ≤ N →
    DataW.trod enc Tryd.prog W 0 (fun _ => true) true fuel 46 cs = some (d, pl) →
    ∃ T : PT, T.In W ∧ cs = [.int .i64 T.k, .string T.t, .int .i64 T.n, .string T.nm, .slice T.xa T.len T.cap] ∧ T.cnt ≤ Rows.uptoBulk d := by
  intro N
  induction N with
  | zero =>
    intro fuel cs d pl hN h
    obtain ⟨xs, n, -, hx, -⟩ := DataW.trod_struct Tryd.underlying46 h
    simp only [Prod.mk.injEq] at hx
    rw [hx.1] at hN
    simp [Rows.uptoBulk] at hN
  | succ N ihN =>
    intro fuel cs d pl hN h
    obtain ⟨xs, n, -, hx, hl, hxs, hf⟩ := DataW.trod_struct Tryd.underlying46 h
    rw [cells_24] at hl
    simp only [Prod.mk.injEq] at hx
    obtain ⟨rfl, -⟩ := hx
    replace hxs : xs.length = 5 := hxs
    match xs, hxs, cs, hl with
    | [x0, x1, x2, x3, x4], _, [c0, c1, c2, c3, c4], _ =>
      have u0 := hf 0 _ rfl
      have u1 := hf 1 _ rfl
      have u2 := hf 2 _ rfl
      have u3 := hf 3 _ rfl
      have u4 := hf 4 _ rfl
      simp [cells_int] at u0 u2
      simp [cells_str] at u1 u3
      simp [cells_sl] at u4
      obtain ⟨k, hc0, hd0, hw0⟩ := DataW.trod_int Tryd.underlying3 u0
      obtain ⟨t, hc1, hd1, hs1⟩ := DataW.trod_string Tryd.underlying9 u1
      obtain ⟨m, hc2, hd2, hw2⟩ := DataW.trod_int Tryd.underlying3 u2
      obtain ⟨nm, hc3, hd3, hs3⟩ := DataW.trod_string Tryd.underlying9 u3
      simp only [List.cons.injEq, and_true] at hc0 hc1 hc2 hc3
      subst hc0 hc1 hc2 hc3
      have r0 : -9223372036854775808 ≤ k ∧ k ≤ 9223372036854775807 := by simpa [Lit.wf, show IntKind.i64.min = -9223372036854775808 from rfl] using hw0
      have r2 : -9223372036854775808 ≤ m ∧ m ≤ 9223372036854775807 := by simpa [Lit.wf, show IntKind.i64.min = -9223372036854775808 from rfl] using hw2
      rcases open_slice Tryd.underlying44 u4 with ⟨hc4, hx4⟩ | ⟨a, len, cap, mm, q, D, Pl, hc4, _, hlc, hcm, hmm, hx4, hall⟩
      · simp only [List.cons.injEq, and_true] at hc4
        subst hc4
        refine ⟨.node k t m nm none 0 0 0 0 fun i => i.elim0, ⟨r0, hs1, r2, hs3, Nat.zero_le _, Nat.le_refl _, fun h => absurd h (Nat.lt_irrefl 0), fun i => i.elim0⟩, rfl, ?_⟩
        simp [PT.cnt, sumTo, Rows.uptoBulk]
      · simp only [List.cons.injEq, and_true] at hc4
        subst hc4
        simp only [if_true] at hmm
        rw [cells_24] at hall
        have hel : ∀ i, i < len → ∃ T : PT, T.In W ∧ W.cells? 0 (a.add (i * 5)) 5 = some [.int .i64 T.k, .string T.t, .int .i64 T.n, .string T.nm, .slice T.xa T.len T.cap] ∧ T.cnt ≤ Rows.uptoBulk (D i) := by
          intro i hi
          obtain ⟨cs', h1, h2⟩ := hall i (by omega)
          have hsmall : Rows.uptoBulk (D i) ≤ N := by
            have h3 := bulk_mem ((List.range len).map D) (D i) (List.mem_map.2 ⟨i, List.mem_range.2 hi, rfl⟩)
            rw [hx4] at hN
            simp [Rows.uptoBulk, Rows.uptoBulkAll] at hN
            omega
          obtain ⟨T, hT, hrow, hcnt⟩ := ihN q cs' (D i) (Pl i) hsmall h2
          exact ⟨T, hT, by rw [h1, hrow], hcnt⟩
        obtain ⟨b, o, spot⟩ := a
        have hsp : 0 < len → spot = none := fun hp => by
          obtain ⟨T, -, hc, -⟩ := hel 0 hp
          obtain ⟨-, hlen, hcell⟩ := World.cells?_some hc
          simpa [Addr.add] using World.cell?_spot (hcell 0 (by omega))
        refine ⟨.node k t m nm (some ⟨b, o, spot⟩) b o len cap fun i => (hel i.val i.isLt).choose, ⟨r0, hs1, r2, hs3, by omega, hlc, fun hp => ?_, fun i => ?_⟩, rfl, ?_⟩
        · rw [hsp hp]
        · obtain ⟨i, hi⟩ := i
          obtain ⟨hT, hc, -⟩ := (hel i hi).choose_spec
          show (W.cell? ⟨b, o + i * 5, none⟩ = some (.int .i64 (hel i hi).choose.k) ∧ W.cell? ⟨b, o + i * 5 + 1, none⟩ = some (.string (hel i hi).choose.t) ∧ W.cell? ⟨b, o + i * 5 + 2, none⟩ = some (.int .i64 (hel i hi).choose.n) ∧ W.cell? ⟨b, o + i * 5 + 3, none⟩ = some (.string (hel i hi).choose.nm) ∧ W.cell? ⟨b, o + i * 5 + 4, none⟩ = some (hel i hi).choose.kv) ∧ PT.In W (hel i hi).choose
          generalize (hel i hi).choose = T at hT hc ⊢
          obtain ⟨-, hlen, hcell⟩ := World.cells?_some hc
          obtain rfl := hsp (by omega)
          have hj : ∀ j, (h : j < 5) → W.cell? ⟨b, o + i * 5 + j, none⟩ = [Value.int .i64 T.k, .string T.t, .int .i64 T.n, .string T.nm, .slice T.xa T.len T.cap][j]? := fun j h => by
            have := hcell j h
            rw [Addr.add_lit, Addr.add_lit] at this
            rw [this]
          exact ⟨⟨hj 0 (by omega), hj 1 (by omega), hj 2 (by omega), hj 3 (by omega), hj 4 (by omega)⟩, hT⟩
        · have hsum := bulk_range D (kf len 1 fun i => ((hel i.val i.isLt).choose).cnt) len (fun i hi => by rw [kf_at hi]; exact (hel i hi).choose_spec.2.2)
          rw [hx4]
          simp only [PT.cnt, List.map_cons, List.map_nil, Rows.uptoBulk, Rows.uptoBulkAll]
          omega
end Go.Proofs.YtpphjddljngkmaaDoor
namespace Go.Proofs.YtpphjddljngkmaaDoor
open Go.ChangeShapes Go.WideShapes Go.ChangeAt Go.RowKit Go.Deep

theorem cells_ex : Tryd.prog.cellsOf 43 = 5 := by kernel_rfl
theorem cells_slx : Tryd.prog.cellsOf 41 = 1 := by kernel_rfl
theorem cells_i64 : Tryd.prog.cellsOf 2 = 1 := by kernel_rfl
theorem cells_bo : Tryd.prog.cellsOf 4 = 1 := by kernel_rfl
theorem cells_sls : Tryd.prog.cellsOf 47 = 1 := by kernel_rfl
theorem cells_st : Tryd.prog.cellsOf 49 = 24 := by kernel_rfl
theorem cells_shx : Tryd.prog.cellsOf 104 = 5 := by kernel_rfl
set_option maxRecDepth 100000 in
theorem shapeX_open {H : Type} {enc : TypeId × Value → H} {W : World} {base m : Nat} {spare : Nat → Bool} {held : Bool} {cs : List Value} {pl : List MemPlace} {s : List UInt8} {h a b : Int} {q : Bool}
    (hd : DataW.trod enc Tryd.prog W base spare held m 104 cs = some (.agg [.lit (.string s), .lit (.int .i64 h), .lit (.bool q), .lit (.int .i64 a), .lit (.int .i64 b)], pl)) :
    cs = [.string ⟨s.toArray⟩, .int .i64 h, .bool q, .int .i64 a, .int .i64 b] := by
  obtain ⟨xs, n, -, hx, hl, hxs, hf⟩ := DataW.trod_struct Tryd.underlying104 hd
  rw [cells_shx] at hl
  replace hxs : xs.length = 5 := hxs
  simp only [Prod.mk.injEq, DataW.agg.injEq] at hx
  match xs, hxs, cs, hl with
  | [x0, x1, x2, x3, x4], _, [c0, c1, c2, c3, c4], _ =>
    have u0 := hf 0 _ rfl
    have u1 := hf 1 _ rfl
    have u2 := hf 2 _ rfl
    have u3 := hf 3 _ rfl
    have u4 := hf 4 _ rfl
    simp [cells_str4] at u0
    simp [cells_int4] at u1 u3 u4
    simp [cells_bo] at u2
    obtain ⟨t, hc0, hd0, -⟩ := DataW.trod_string Tryd.underlying9 u0
    obtain ⟨k1, hc1, hd1, -⟩ := DataW.trod_int Tryd.underlying3 u1
    obtain ⟨k2, hc2, hd2⟩ := DataW.trod_bool Tryd.underlying4 u2
    obtain ⟨k3, hc3, hd3, -⟩ := DataW.trod_int Tryd.underlying3 u3
    obtain ⟨k4, hc4, hd4, -⟩ := DataW.trod_int Tryd.underlying3 u4
    simp only [List.cons.injEq, and_true] at hc0 hc1 hc2 hc3 hc4
    subst hc0 hc1 hc2 hc3 hc4
    have hx1 := hx.1
    rw [hd0, hd1, hd2, hd3, hd4] at hx1
    simp only [List.map_cons, List.map_nil, List.cons.injEq, DataW.lit.injEq, Lit.string.injEq, Lit.int.injEq, Lit.bool.injEq, and_true, true_and] at hx1
    obtain ⟨e0, e1, e2, e3, e4⟩ := hx1
    subst e1 e2 e3 e4
    rw [e0]
theorem shapesX_lit (K : Nat) (h1 : 1 ≤ K) (h2 : K ≤ 13) : ∃ l, (Rows.laid_scanfail_syntax_shapes (H := Unit)) = .agg l ∧ l[K]? = some (.agg [.lit (.string (signX K).data.toList), .lit (.int .i64 (levelX K)), .lit (.bool (namedX K)), .lit (.int .i64 (leastX K)), .lit (.int .i64 (mostX K))]) := by
  refine ⟨_, rfl, ?_⟩
  have h : K = 1 ∨ K = 2 ∨ K = 3 ∨ K = 4 ∨ K = 5 ∨ K = 6 ∨ K = 7 ∨ K = 8 ∨ K = 9 ∨ K = 10 ∨ K = 11 ∨ K = 12 ∨ K = 13 := by omega
  rcases h with rfl | rfl | rfl | rfl | rfl | rfl | rfl | rfl | rfl | rfl | rfl | rfl | rfl <;> rfl
set_option maxRecDepth 100000 in
theorem shapesX_of {W : World} {rest : List (String × DataW Unit)} (h : laidMet Tryd.prog (("scanfail/syntax.shapes", Rows.laid_scanfail_syntax_shapes) :: rest) W) : ShapesX W := by
  obtain ⟨ps, ⟨g', t', cs, fuel, p, q, hg', ht', hvar, hd, -, -⟩, -⟩ := h
  have hg : Tryd.prog.globalNamed "scanfail/syntax.shapes" = some 0 := by kernel_rfl
  have hty : (Tryd.prog.globals[0]?).map (·.type) = some 105 := by kernel_rfl
  obtain rfl := Option.some.inj (hg.symm.trans hg')
  obtain rfl := Option.some.inj (hty.symm.trans ht')
  intro K h1 h2
  obtain ⟨l, hl, hlK⟩ := shapesX_lit K h1 h2
  rw [hl] at hd
  obtain ⟨xs, m, -, hx, hcl, hxl, hf⟩ := DataW.trod_array Tryd.underlying105 hd
  simp only [Prod.mk.injEq, DataW.agg.injEq] at hx
  have hK := hf K (by omega)
  rw [cells_shx] at hK
  have hxK : ∃ y, xs[K]? = some y ∧ y.1 = .agg [.lit (.string (signX K).data.toList), .lit (.int .i64 (levelX K)), .lit (.bool (namedX K)), .lit (.int .i64 (leastX K)), .lit (.int .i64 (mostX K))] := by
    rw [hx.1, List.getElem?_map] at hlK
    cases hy : xs[K]? with
    | none => rw [hy] at hlK; cases hlK
    | some y => rw [hy] at hlK; exact ⟨y, rfl, Option.some.inj hlK⟩
  obtain ⟨⟨y1, y2⟩, hy, hyd⟩ := hxK
  simp only at hyd
  rw [hy, hyd] at hK
  have hrow := shapeX_open hK
  have hc : ∀ j, j < 5 → W.cell? ⟨0, K * 5 + j, none⟩ = ((cs.toList.drop (K * 5)).take 5)[j]? := fun j hj => by
    have h3 := World.var?_cell hg hvar (K * 5 + j)
    rw [h3, List.getElem?_take, if_pos hj, List.getElem?_drop, Array.getElem?_toList]
  rw [hrow] at hc
  exact ⟨hc 0 (by omega), hc 1 (by omega), hc 2 (by omega), hc 3 (by omega), hc 4 (by omega)⟩
set_option maxRecDepth 100000 in
theorem open_expr {H : Type} {enc : TypeId × Value → H} {W : World} : ∀ (N fuel : Nat) (cs : List Value) (d : DataW H) (pl : List MemPlace), Rows.uptoBulk d ≤ N →
    DataW.trod enc Tryd.prog W 0 (fun _ => true) true fuel 43 cs = some (d, pl) →
    ∃ T : PT, T.In W ∧ cs = [.int .i64 T.k, .string T.t, .int .i64 T.n, .string T.nm, .slice T.xa T.len T.cap] ∧ T.cnt ≤ Rows.uptoBulk d := by
  intro N
  induction N with
  | zero =>
    intro fuel cs d pl hN h
    obtain ⟨xs, n, -, hx, -⟩ := DataW.trod_struct Tryd.underlying43 h
    simp only [Prod.mk.injEq] at hx
    rw [hx.1] at hN
    simp [Rows.uptoBulk] at hN
  | succ N ihN =>
    intro fuel cs d pl hN h
    obtain ⟨xs, n, -, hx, hl, hxs, hf⟩ := DataW.trod_struct Tryd.underlying43 h
    rw [cells_ex] at hl
    simp only [Prod.mk.injEq] at hx
    obtain ⟨rfl, -⟩ := hx
    replace hxs : xs.length = 5 := hxs
    match xs, hxs, cs, hl with
    | [x0, x1, x2, x3, x4], _, [c0, c1, c2, c3, c4], _ =>
      have u0 := hf 0 _ rfl
      have u1 := hf 1 _ rfl
      have u2 := hf 2 _ rfl
      have u3 := hf 3 _ rfl
      have u4 := hf 4 _ rfl
      simp [cells_int] at u0
      simp [cells_i64] at u2
      simp [cells_str] at u1 u3
      simp [cells_slx] at u4
      obtain ⟨k, hc0, hd0, hw0⟩ := DataW.trod_int Tryd.underlying3 u0
      obtain ⟨t, hc1, hd1, hs1⟩ := DataW.trod_string Tryd.underlying9 u1
      obtain ⟨m, hc2, hd2, hw2⟩ := DataW.trod_int Tryd.underlying2 u2
      obtain ⟨nm, hc3, hd3, hs3⟩ := DataW.trod_string Tryd.underlying9 u3
      simp only [List.cons.injEq, and_true] at hc0 hc1 hc2 hc3
      subst hc0 hc1 hc2 hc3
      have r0 : -9223372036854775808 ≤ k ∧ k ≤ 9223372036854775807 := by simpa [Lit.wf, show IntKind.i64.min = -9223372036854775808 from rfl] using hw0
      have r2 : -9223372036854775808 ≤ m ∧ m ≤ 9223372036854775807 := by simpa [Lit.wf, show IntKind.i64.min = -9223372036854775808 from rfl] using hw2
      rcases open_slice Tryd.underlying41 u4 with ⟨hc4, hx4⟩ | ⟨a, len, cap, mm, q, D, Pl, hc4, _, hlc, hcm, hmm, hx4, hall⟩
      · simp only [List.cons.injEq, and_true] at hc4
        subst hc4
        refine ⟨.node k t m nm none 0 0 0 0 fun i => i.elim0, ⟨r0, hs1, r2, hs3, Nat.zero_le _, Nat.le_refl _, fun h => absurd h (Nat.lt_irrefl 0), fun i => i.elim0⟩, rfl, ?_⟩
        simp [PT.cnt, sumTo, Rows.uptoBulk]
      · simp only [List.cons.injEq, and_true] at hc4
        subst hc4
        simp only [if_true] at hmm
        rw [cells_ex] at hall
        have hel : ∀ i, i < len → ∃ T : PT, T.In W ∧ W.cells? 0 (a.add (i * 5)) 5 = some [.int .i64 T.k, .string T.t, .int .i64 T.n, .string T.nm, .slice T.xa T.len T.cap] ∧ T.cnt ≤ Rows.uptoBulk (D i) := by
          intro i hi
          obtain ⟨cs', h1, h2⟩ := hall i (by omega)
          have hsmall : Rows.uptoBulk (D i) ≤ N := by
            have h3 := bulk_mem ((List.range len).map D) (D i) (List.mem_map.2 ⟨i, List.mem_range.2 hi, rfl⟩)
            rw [hx4] at hN
            simp [Rows.uptoBulk, Rows.uptoBulkAll] at hN
            omega
          obtain ⟨T, hT, hrow, hcnt⟩ := ihN q cs' (D i) (Pl i) hsmall h2
          exact ⟨T, hT, by rw [h1, hrow], hcnt⟩
        obtain ⟨b, o, spot⟩ := a
        have hsp : 0 < len → spot = none := fun hp => by
          obtain ⟨T, -, hc, -⟩ := hel 0 hp
          obtain ⟨-, hlen, hcell⟩ := World.cells?_some hc
          simpa [Addr.add] using World.cell?_spot (hcell 0 (by omega))
        refine ⟨.node k t m nm (some ⟨b, o, spot⟩) b o len cap fun i => (hel i.val i.isLt).choose, ⟨r0, hs1, r2, hs3, by omega, hlc, fun hp => ?_, fun i => ?_⟩, rfl, ?_⟩
        · rw [hsp hp]
        · obtain ⟨i, hi⟩ := i
          obtain ⟨hT, hc, -⟩ := (hel i hi).choose_spec
          show (W.cell? ⟨b, o + i * 5, none⟩ = some (.int .i64 (hel i hi).choose.k) ∧ W.cell? ⟨b, o + i * 5 + 1, none⟩ = some (.string (hel i hi).choose.t) ∧ W.cell? ⟨b, o + i * 5 + 2, none⟩ = some (.int .i64 (hel i hi).choose.n) ∧ W.cell? ⟨b, o + i * 5 + 3, none⟩ = some (.string (hel i hi).choose.nm) ∧ W.cell? ⟨b, o + i * 5 + 4, none⟩ = some (hel i hi).choose.kv) ∧ PT.In W (hel i hi).choose
          generalize (hel i hi).choose = T at hT hc ⊢
          obtain ⟨-, hlen, hcell⟩ := World.cells?_some hc
          obtain rfl := hsp (by omega)
          have hj : ∀ j, (h : j < 5) → W.cell? ⟨b, o + i * 5 + j, none⟩ = [Value.int .i64 T.k, .string T.t, .int .i64 T.n, .string T.nm, .slice T.xa T.len T.cap][j]? := fun j h => by
            have := hcell j h
            rw [Addr.add_lit, Addr.add_lit] at this
            rw [this]
          exact ⟨⟨hj 0 (by omega), hj 1 (by omega), hj 2 (by omega), hj 3 (by omega), hj 4 (by omega)⟩, hT⟩
        · have hsum := bulk_range D (kf len 1 fun i => ((hel i.val i.isLt).choose).cnt) len (fun i hi => by rw [kf_at hi]; exact (hel i hi).choose_spec.2.2)
          rw [hx4]
          simp only [PT.cnt, List.map_cons, List.map_nil, Rows.uptoBulk, Rows.uptoBulkAll]
          omega
end Go.Proofs.YtpphjddljngkmaaDoor
