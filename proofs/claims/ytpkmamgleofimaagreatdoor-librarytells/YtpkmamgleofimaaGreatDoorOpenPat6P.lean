/- The table of kinds, out of what the row lists. A pattern that came in, opened: its nodes lie in memory, and there are no more of them than the reading has values. A pattern, and rules, that came in, opened. -/
import Derived.Test.YtpkmamgleofimaaGreatDoorRows
import Derived.Test.YtpkmamgleofimaaGreatDoorPatWrongP
import Derived.ProofKit
import Derived.OpenShut
import Derived.LaidLaws
import Derived.Lib.LaidTab
import Derived.Test.YtpkmamgleofimaaGreatDoorPatBaseM
import Derived.Deep.Slices
import Derived.WalkKit
namespace Go.Proofs.YtpkmamgleofimaaGreatDoor
open Go.ChangeShapes Go.WideShapes Go.ChangeAt Go.RowKit

theorem cells_shape : Tryz.prog.cellsOf 159 = 4 := by kernel_rfl
theorem cells_int4 : Tryz.prog.cellsOf 3 = 1 := by kernel_rfl
theorem cells_str4 : Tryz.prog.cellsOf 9 = 1 := by kernel_rfl
set_option maxRecDepth 100000 in
theorem shape_open {H : Type} {enc : TypeId × Value → H} {W : World} {base m : Nat} {spare : Nat → Bool} {held : Bool} {cs : List Value} {pl : List MemPlace} {s : List UInt8} {h a b : Int}
    (hd : DataW.trod enc Tryz.prog W base spare held m 159 cs = some (.agg [.lit (.string s), .lit (.int .i64 h), .lit (.int .i64 a), .lit (.int .i64 b)], pl)) :
    cs = [.string ⟨s.toArray⟩, .int .i64 h, .int .i64 a, .int .i64 b] := by
  obtain ⟨xs, n, -, hx, hl, hxs, hf⟩ := DataW.trod_struct Tryz.underlying159 hd
  rw [cells_shape] at hl
  replace hxs : xs.length = 4 := hxs
  simp only [Prod.mk.injEq, DataW.agg.injEq] at hx
  match xs, hxs, cs, hl with
  | [x0, x1, x2, x3], _, [c0, c1, c2, c3], _ =>
    have u0 := hf 0 _ rfl
    have u1 := hf 1 _ rfl
    have u2 := hf 2 _ rfl
    have u3 := hf 3 _ rfl
    simp [cells_str4] at u0
    simp [cells_int4] at u1 u2 u3
    obtain ⟨t, hc0, hd0, -⟩ := DataW.trod_string Tryz.underlying9 u0
    obtain ⟨k1, hc1, hd1, -⟩ := DataW.trod_int Tryz.underlying3 u1
    obtain ⟨k2, hc2, hd2, -⟩ := DataW.trod_int Tryz.underlying3 u2
    obtain ⟨k3, hc3, hd3, -⟩ := DataW.trod_int Tryz.underlying3 u3
    simp only [List.cons.injEq, and_true] at hc0 hc1 hc2 hc3
    subst hc0 hc1 hc2 hc3
    have hx1 := hx.1
    rw [hd0, hd1, hd2, hd3] at hx1
    simp only [List.map_cons, List.map_nil, List.cons.injEq, DataW.lit.injEq, Lit.string.injEq, Lit.int.injEq, and_true, true_and] at hx1
    obtain ⟨e0, e1, e2, e3⟩ := hx1
    subst e1 e2 e3
    rw [e0]
theorem shapes_lit (K : Nat) (h1 : 1 ≤ K) (h2 : K ≤ 24) : ∃ l, (Rows.laid_scanfail_pats_shapes (H := Unit)) = .agg l ∧ l[K]? = some (.agg [.lit (.string (wordK K).data.toList), .lit (.int .i64 (hasK K)), .lit (.int .i64 (leastK K)), .lit (.int .i64 (mostK K))]) := by
  refine ⟨_, rfl, ?_⟩
  have h : K = 1 ∨ K = 2 ∨ K = 3 ∨ K = 4 ∨ K = 5 ∨ K = 6 ∨ K = 7 ∨ K = 8 ∨ K = 9 ∨ K = 10 ∨ K = 11 ∨ K = 12 ∨ K = 13 ∨ K = 14 ∨ K = 15 ∨ K = 16 ∨ K = 17 ∨ K = 18 ∨ K = 19 ∨ K = 20 ∨ K = 21 ∨ K = 22 ∨ K = 23 ∨ K = 24 := by omega
  rcases h with rfl | rfl | rfl | rfl | rfl | rfl | rfl | rfl | rfl | rfl | rfl | rfl | rfl | rfl | rfl | rfl | rfl | rfl | rfl | rfl | rfl | rfl | rfl | rfl <;> rfl
set_option maxRecDepth 100000 in
theorem shapes_of {W : World} {rest : List (String × DataW Unit)} (h : laidMet Tryz.prog (("scanfail/pats.shapes", Rows.laid_scanfail_pats_shapes) :: rest) W) : Shapes W := by
  obtain ⟨ps, ⟨g', t', cs, fuel, p, q, hg', ht', hvar, hd, -, -⟩, -⟩ := h
  have hg : Tryz.prog.globalNamed "scanfail/pats.shapes" = some 4 := by kernel_rfl
  have hty : (Tryz.prog.globals[4]?).map (·.type) = some 160 := by kernel_rfl
  obtain rfl := Option.some.inj (hg.symm.trans hg')
  obtain rfl := Option.some.inj (hty.symm.trans ht')
  intro K h1 h2
  obtain ⟨l, hl, hlK⟩ := shapes_lit K h1 h2
  rw [hl] at hd
  obtain ⟨xs, m, -, hx, hcl, hxl, hf⟩ := DataW.trod_array Tryz.underlying160 hd
  simp only [Prod.mk.injEq, DataW.agg.injEq] at hx
  have hK := hf K (by omega)
  rw [cells_shape] at hK
  have hxK : ∃ y, xs[K]? = some y ∧ y.1 = .agg [.lit (.string (wordK K).data.toList), .lit (.int .i64 (hasK K)), .lit (.int .i64 (leastK K)), .lit (.int .i64 (mostK K))] := by
    rw [hx.1, List.getElem?_map] at hlK
    cases hy : xs[K]? with
    | none => rw [hy] at hlK; cases hlK
    | some y => rw [hy] at hlK; exact ⟨y, rfl, Option.some.inj hlK⟩
  obtain ⟨⟨y1, y2⟩, hy, hyd⟩ := hxK
  simp only at hyd
  rw [hy, hyd] at hK
  have hrow := shape_open hK
  have hc : ∀ j, j < 4 → W.cell? ⟨4, K * 4 + j, none⟩ = ((cs.toList.drop (K * 4)).take 4)[j]? := fun j hj => by
    have h3 := World.var?_cell hg hvar (K * 4 + j)
    rw [h3, List.getElem?_take, if_pos hj, List.getElem?_drop, Array.getElem?_toList]
  rw [hrow] at hc
  exact ⟨hc 0 (by omega), hc 1 (by omega), hc 2 (by omega), hc 3 (by omega)⟩
end Go.Proofs.YtpkmamgleofimaaGreatDoor
