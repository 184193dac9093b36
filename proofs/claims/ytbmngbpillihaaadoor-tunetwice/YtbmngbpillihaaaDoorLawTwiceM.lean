/- The table of kinds, out of what the row lists. A pattern that came in, opened: its nodes lie in memory, and there are no more of them than the reading has values. A pattern, and rules, that came in, opened. Simplify twice is Simplify once: TuneTwice is true of any pattern. -/
import Derived.Test.YtbmngbpillihaaaDoorRows
import Derived.Test.YtbmngbpillihaaaDoorPatWrongP
import Derived.ProofKit
import Derived.OpenShut
import Derived.LaidLaws
import Derived.Lib.LaidTab
import Derived.Test.YtbmngbpillihaaaDoorPatBaseM
import Derived.Deep.Slices
import Derived.WalkKit
import Derived.Test.YtbmngbpillihaaaDoorExtPlainM
import Derived.Test.YtbmngbpillihaaaDoorLenAliveP
namespace Go.Proofs.YtbmngbpillihaaaDoor
open Go.ChangeShapes Go.WideShapes Go.ChangeAt Go.RowKit

theorem cells_shape : Tryd.prog.cellsOf 137 = 4 := by kernel_rfl
theorem cells_int4 : Tryd.prog.cellsOf 3 = 1 := by kernel_rfl
theorem cells_str4 : Tryd.prog.cellsOf 9 = 1 := by kernel_rfl
set_option maxRecDepth 100000 in
theorem shape_open {H : Type} {enc : TypeId × Value → H} {W : World} {base m : Nat} {spare : Nat → Bool} {held : Bool} {cs : List Value} {pl : List MemPlace} {s : List UInt8} {h a b : Int}
    (hd : DataW.trod enc Tryd.prog W base spare held m 137 cs = some (.agg [.lit (.string s), .lit (.int .i64 h), .lit (.int .i64 a), .lit (.int .i64 b)], pl)) :
    cs = [.string ⟨s.toArray⟩, .int .i64 h, .int .i64 a, .int .i64 b] := by
  obtain ⟨xs, n, -, hx, hl, hxs, hf⟩ := DataW.trod_struct Tryd.underlying137 hd
  rw [cells_shape] at hl
  replace hxs : xs.length = 4 := hxs
  simp only [Prod.mk.injEq, DataW.agg.injEq] at hx
  match xs, hxs, cs, hl with
  | [x0, x1, x2, x3], _, [c0, c1, c2, c3], _ =>
    have u0 := hf 0 _ rfl
    have u1 := hf 1 _ rfl
    have u2 := hf 2 _ rfl
    have u3 := hf 3 _ rfl
    simp [cells_str4] at u0
    simp [cells_int4] at u1 u2 u3
    obtain ⟨t, hc0, hd0, -⟩ := DataW.trod_string Tryd.underlying9 u0
    obtain ⟨k1, hc1, hd1, -⟩ := DataW.trod_int Tryd.underlying3 u1
    obtain ⟨k2, hc2, hd2, -⟩ := DataW.trod_int Tryd.underlying3 u2
    obtain ⟨k3, hc3, hd3, -⟩ := DataW.trod_int Tryd.underlying3 u3
    simp only [List.cons.injEq, and_true] at hc0 hc1 hc2 hc3
    subst hc0 hc1 hc2 hc3
    have hx1 := hx.1
    rw [hd0, hd1, hd2, hd3] at hx1
    simp only [List.map_cons, List.map_nil, List.cons.injEq, DataW.lit.injEq, Lit.string.injEq, Lit.int.injEq, and_true, true_and] at hx1
    obtain ⟨e0, e1, e2, e3⟩ := hx1
    subst e1 e2 e3
    rw [e0]
theorem shapes_lit (K : Nat) (h1 : 1 ≤ K) (h2 : K ≤ 24) : ∃ l, (Rows.laid_scanfail_pats_shapes (H := Unit)) = .agg l ∧ l[K]? = some (.agg [.lit (.string (wordK K).data.toList), .lit (.int .i64 (hasK K)), .lit (.int .i64 (leastK K)), .lit (.int .i64 (mostK K))]) := by
  refine ⟨_, rfl, ?_⟩
  have h : K = 1 ∨ K = 2 ∨ K = 3 ∨ K = 4 ∨ K = 5 ∨ K = 6 ∨ K = 7 ∨ K = 8 ∨ K = 9 ∨ K = 10 ∨ K = 11 ∨ K = 12 ∨ K = 13 ∨ K = 14 ∨ K = 15 ∨ K = 16 ∨ K = 17 ∨ K = 18 ∨ K = 19 ∨ K = 20 ∨ K = 21 ∨ K = 22 ∨ K = 23 ∨ K = 24 := by omega
  rcases h with rfl | rfl | rfl | rfl | rfl | rfl | rfl | rfl | rfl | rfl | rfl | rfl | rfl | rfl | rfl | rfl | rfl | rfl | rfl | rfl | rfl | rfl | rfl | rfl <;> rfl
set_option maxRecDepth 100000 in
theorem shapes_of {W : World} {rest : List (String × DataW Unit)} (h : laidMet Tryd.prog (("scanfail/pats.shapes", Rows.laid_scanfail_pats_shapes) :: rest) W) : Shapes W := by
  obtain ⟨ps, ⟨g', t', cs, fuel, p, q, hg', ht', hvar, hd, -, -⟩, -⟩ := h
  have hg : Tryd.prog.globalNamed "scanfail/pats.shapes" = some 0 := by kernel_rfl
  have hty : (Tryd.prog.globals[0]?).map (·.type) = some 138 := by kernel_rfl
  obtain rfl := Option.some.inj (hg.symm.trans hg')
  obtain rfl := Option.some.inj (hty.symm.trans ht')
  intro K h1 h2
  obtain ⟨l, hl, hlK⟩ := shapes_lit K h1 h2
  rw [hl] at hd
  obtain ⟨xs, m, -, hx, hcl, hxl, hf⟩ := DataW.trod_array Tryd.underlying138 hd
  simp only [Prod.mk.injEq, DataW.agg.injEq] at hx
  have hK := hf K (by omega)
  rw [cells_shape] at hK
  have hxK : ∃ y, xs[K]? = some y ∧ y.1 = .agg [.lit (.string (wordK K).data.toList), .lit (.int .i64 (hasK K)), .lit (.int .i64 (leastK K)), .lit (.int .i64 (mostK K))] := by
    rw [hx.1, List.getElem?_map] at hlK
    cases hy : xs[K]? with
    | none => rw [hy] at hlK; cases hlK
    | some y => rw [hy] at hlK; exact ⟨y, rfl, Option.some.inj hlK⟩
  obtain ⟨⟨y1, y2⟩, hy, hyd⟩ := hxK
  simp only at hyd
  rw [hy, hyd] at hK
  have hrow := shape_open hK
  have hc : ∀ j, j < 4 → W.cell? ⟨0, K * 4 + j, none⟩ = ((cs.toList.drop (K * 4)).take 4)[j]? := fun j hj => by
    have h3 := World.var?_cell hg hvar (K * 4 + j)
    rw [h3, List.getElem?_take, if_pos hj, List.getElem?_drop, Array.getElem?_toList]
  rw [hrow] at hc
  exact ⟨hc 0 (by omega), hc 1 (by omega), hc 2 (by omega), hc 3 (by omega)⟩
end Go.Proofs.YtbmngbpillihaaaDoor

namespace Go.Proofs.YtbmngbpillihaaaDoor
open Go.ChangeShapes Go.WideShapes Go.ChangeAt Go.RowKit Go.Deep

theorem cells_24 : Tryd.prog.cellsOf 24 = 5 := by kernel_rfl
theorem cells_int : Tryd.prog.cellsOf 3 = 1 := by kernel_rfl
theorem cells_str : Tryd.prog.cellsOf 9 = 1 := by kernel_rfl
theorem cells_sl : Tryd.prog.cellsOf 22 = 1 := by kernel_rfl
theorem bulk_mem {H : Type} : ∀ (l : List (DataW H)) (x : DataW H), x ∈ l → Rows.uptoBulk x ≤ Rows.uptoBulkAll l
  | [], x, h => by simp at h
  | y :: l, x, h => by
    simp only [Rows.uptoBulkAll]
    rcases List.mem_cons.1 h with rfl | h
    · omega
    · have := bulk_mem l x h; omega
theorem bulk_range {H : Type} (D : Nat → DataW H) (f : Nat → Nat) : ∀ n, (∀ i, i < n → f i ≤ Rows.uptoBulk (D i)) → sumTo f n ≤ Rows.uptoBulkAll ((List.range n).map D)
  | 0, _ => Nat.zero_le _
  | n + 1, h => by
    have ih := bulk_range D f n (fun i hi => h i (by omega))
    have hn := h n (by omega)
    have happ : ∀ (a : List (DataW H)) (x : DataW H), Rows.uptoBulkAll (a ++ [x]) = Rows.uptoBulkAll a + Rows.uptoBulk x := by
      intro a x
      induction a with
      | nil => simp [Rows.uptoBulkAll]
      | cons y a iha => simp only [List.cons_append, Rows.uptoBulkAll, iha]; omega
    rw [List.range_succ, List.map_append, List.map_cons, List.map_nil, happ]
    simp only [sumTo]
    omega
set_option maxRecDepth 100000 in
theorem open_pat {H : Type} {enc : TypeId × Value → H} {W : World} : ∀ (N fuel : Nat) (cs : List Value) (d : DataW H) (pl : List MemPlace), Rows.uptoBulk d ≤ N →
    DataW.trod enc Tryd.prog W 0 (fun _ => true) true fuel 24 cs = some (d, pl) →
    ∃ T : PT, T.In W ∧ cs = [.int .i64 T.k, .string T.t, .int .i64 T.n, .string T.nm, .slice T.xa T.len T.cap] ∧ T.cnt ≤ Rows.uptoBulk d := by
  intro N
  induction N with
  | zero =>
    intro fuel cs d pl hN h
    obtain ⟨xs, n, -, hx, -⟩ := DataW.trod_struct Tryd.underlying24 h
    simp only [Prod.mk.injEq] at hx
    rw [hx.1] at hN
    simp [Rows.uptoBulk] at hN
  | succ N ihN =>
    intro fuel cs d pl hN h
    obtain ⟨xs, n, -, hx, hl, hxs, hf⟩ := DataW.trod_struct Tryd.underlying24 h
    rw [cells_24] at hl
    simp only [Prod.mk.injEq] at hx
    obtain ⟨rfl, -⟩ := hx
    replace hxs : xs.length = 5 := hxs
    match xs, hxs, cs, hl with
    | [x0, x1, x2, x3, x4], _, [c0, c1, c2, c3, c4], _ =>
      have u0 := hf 0 _ rfl
      have u1 := hf 1 _ rfl
      have u2 := hf 2 _ rfl
      have u3 := hf 3 _ rfl
      have u4 := hf 4 _ rfl
      simp [cells_int] at u0 u2
      simp [cells_str] at u1 u3
      simp [cells_sl] at u4
      obtain ⟨k, hc0, hd0, hw0⟩ := DataW.trod_int Tryd.underlying3 u0
      obtain ⟨t, hc1, hd1, hs1⟩ := DataW.trod_string Tryd.underlying9 u1
      obtain ⟨m, hc2, hd2, hw2⟩ := DataW.trod_int Tryd.underlying3 u2
      obtain ⟨nm, hc3, hd3, hs3⟩ := DataW.trod_string Tryd.underlying9 u3
      simp only [List.cons.injEq, and_true] at hc0 hc1 hc2 hc3
      subst hc0 hc1 hc2 hc3
      have r0 : -9223372036854775808 ≤ k ∧ k ≤ 9223372036854775807 := by simpa [Lit.wf, show IntKind.i64.min = -9223372036854775808 from rfl] using hw0
      have r2 : -9223372036854775808 ≤ m ∧ m ≤ 9223372036854775807 := by simpa [Lit.wf, show IntKind.i64.min = -9223372036854775808 from rfl] using hw2
      rcases open_slice Tryd.underlying22 u4 with ⟨hc4, hx4⟩ | ⟨a, len, cap, mm, q, D, Pl, hc4, _, hlc, hcm, hmm, hx4, hall⟩
      · simp only [List.cons.injEq, and_true] at hc4
        subst hc4
        refine ⟨.node k t m nm none 0 0 0 0 fun i => i.elim0, ⟨r0, hs1, r2, hs3, Nat.zero_le _, Nat.le_refl _, fun h => absurd h (Nat.lt_irrefl 0), fun i => i.elim0⟩, rfl, ?_⟩
        simp [PT.cnt, sumTo, Rows.uptoBulk]
      · simp only [List.cons.injEq, and_true] at hc4
        subst hc4
        simp only [if_true] at hmm
        rw [cells_24] at hall
        have hel : ∀ i, i < len → ∃ T : PT, T.In W ∧ W.cells? 0 (a.add (i * 5)) 5 = some [.int .i64 T.k, .string T.t, .int .i64 T.n, .string T.nm, .slice T.xa T.len T.cap] ∧ T.cnt ≤ Rows.uptoBulk (D i) := by
          intro i hi
          obtain ⟨cs', h1, h2⟩ := hall i (by omega)
          have hsmall : Rows.uptoBulk (D i) ≤ N := by
            have h3 := bulk_mem ((List.range len).map D) (D i) (List.mem_map.2 ⟨i, List.mem_range.2 hi, rfl⟩)
            rw [hx4] at hN
            simp [Rows.uptoBulk, Rows.uptoBulkAll] at hN
            omega
          obtain ⟨T, hT, hrow, hcnt⟩ := ihN q cs' (D i) (Pl i) hsmall h2
          exact ⟨T, hT, by rw [h1, hrow], hcnt⟩
        obtain ⟨b, o, spot⟩ := a
        have hsp : 0 < len → spot = none := fun hp => by
          obtain ⟨T, -, hc, -⟩ := hel 0 hp
          obtain ⟨-, hlen, hcell⟩ := World.cells?_some hc
          simpa [Addr.add] using World.cell?_spot (hcell 0 (by omega))
        refine ⟨.node k t m nm (some ⟨b, o, spot⟩) b o len cap fun i => (hel i.val i.isLt).choose, ⟨r0, hs1, r2, hs3, by omega, hlc, fun hp => ?_, fun i => ?_⟩, rfl, ?_⟩
        · rw [hsp hp]
        · obtain ⟨i, hi⟩ := i
          obtain ⟨hT, hc, -⟩ := (hel i hi).choose_spec
          show (W.cell? ⟨b, o + i * 5, none⟩ = some (.int .i64 (hel i hi).choose.k) ∧ W.cell? ⟨b, o + i * 5 + 1, none⟩ = some (.string (hel i hi).choose.t) ∧ W.cell? ⟨b, o + i * 5 + 2, none⟩ = some (.int .i64 (hel i hi).choose.n) ∧ W.cell? ⟨b, o + i * 5 + 3, none⟩ = some (.string (hel i hi).choose.nm) ∧ W.cell? ⟨b, o + i * 5 + 4, none⟩ = some (hel i hi).choose.kv) ∧ PT.In W (hel i hi).choose
          generalize (hel i hi).choose = T at hT hc ⊢
          obtain ⟨-, hlen, hcell⟩ := World.cells?_some hc
          obtain rfl := hsp (by omega)
          have hj : ∀ j, (h : j < 5) → W.cell? ⟨b, o + i * 5 + j, none⟩ = [Value.int .i64 T.k, .string T.t, .int .i64 T.n, .string T.nm, .slice T.xa T.len T.cap][j]? := fun j h => by
            have := hcell j h
            rw [Addr.add_lit, Addr.add_lit] at this
            rw [this]
          exact ⟨⟨hj 0 (by omega), hj 1 (by omega), hj 2 (by omega), hj 3 (by omega), hj 4 (by omega)⟩, hT⟩
        · have hsum := bulk_range D (kf len 1 fun i => ((hel i.val i.isLt).choose).cnt) len (fun i hi => by rw [kf_at hi]; exact (hel i hi).choose_spec.2.2)
          rw [hx4]
          simp only [PT.cnt, List.map_cons, List.map_nil, Rows.uptoBulk, Rows.uptoBulkAll]
          omega
end Go.Proofs.YtbmngbpillihaaaDoor

namespace Go.Proofs.YtbmngbpillihaaaDoor
open Go.ChangeShapes Go.WideShapes Go.ChangeAt Go.RowKit Go.Deep

set_option maxRecDepth 100000 in
theorem open_argPat {H : Type} {enc : TypeId × Value → H} {W : World} {base : Nat} {v : Value} {d : DataW H} {p : List MemPlace}
    (hval : Value.okWide Tryd.prog W .any base 24 v) (h : DataW.Trod enc Tryd.prog W 0 (fun _ => true) true 24 v d p) : ∃ T : PT, T.In W ∧ v = pv T := by
  obtain ⟨cs, rfl, hsz⟩ : ∃ cs, v = .agg cs ∧ cs.size = Tryd.prog.cellsOf 24 := by
    simp only [Value.okWide, Tryd.underlying24] at hval
    obtain ⟨cs, h1, h2, _⟩ := hval
    exact ⟨cs, h1, h2⟩
  obtain ⟨fuel, hf⟩ := h
  obtain ⟨T, hT, hrow, -⟩ := open_pat _ fuel _ d p (Nat.le_refl _) hf
  refine ⟨T, hT, ?_⟩
  unfold pv
  have : cs.toList = [.int .i64 T.k, .string T.t, .int .i64 T.n, .string T.nm, .slice T.xa T.len T.cap] := hrow
  rw [← this]
end Go.Proofs.YtbmngbpillihaaaDoor

namespace Go.Proofs.YtbmngbpillihaaaDoor
open Go.RowKit

theorem agree_later {w W X : World} {U : PT} (h : ∀ X : World, (∀ i, w.heap.size ≤ i → i < W.heap.size → X.heap[i]? = W.heap[i]?) → U.In X) (hb : Below W.heap.size W X) : U.In X := h X fun i _ b => hb.block i b
theorem size_right (T : PT) (h : T.wrong = 0) (w : World) (hT : T.In w) : Calls Tryd.prog 20 #[pv T] w fun e w' => e = .returned (.tuple #[.int .i64 (T.cnt : Int), .int .i64 (T.dep : Int), .int .i64 0]) ∧ Below w.heap.size w w' := by
  have hf : T.fits = true := by
    cases hq : T.fits with
    | true => rfl
    | false => unfold PT.wrong at h; rw [hq, if_neg (by decide)] at h; exact absurd h (by decide)
  have := size_any T w hT
  unfold sizeSaid at this
  rw [hf, if_pos rfl] at this
  exact this
set_option maxRecDepth 100000 in
set_option maxHeartbeats 2000000 in
theorem twice_right (T : PT) (w : World) (hT : T.In w) (hS : Shapes w) (h : T.wrong = 0) : Calls Tryd.prog 6 #[pv T] w fun e w' => e = .returned (.bool true) ∧ Below w.heap.size w w' := by
  have HTw := hide (fun (U : PT) (hU : U.can = T.simp) => twice_of h (right_of h).1 hU)
  have HW0 := hide h
  have H1 := hide (fun W (hb : Below w.heap.size w W) => simplify_right T W (PT.In.later hb hT) (hS.later hb) h)
  have HZT := hide (fun W (hb : Below w.heap.size w W) => size_right T h W (PT.In.later hb hT))
  have HSh := hide (fun W (hb : Below w.heap.size w W) => hS.later hb)
  have HAl := hide (fun W (hb : Below w.heap.size w W) => alive6 W (hS.later hb))
  have hk0 : Below w.heap.size w (w.alloc (.cells #[.int .i64 T.k, .string T.t, .int .i64 T.n, .string T.nm, .slice T.xa T.len T.cap] 24)) := (Below.refl _ _).alloc (Nat.le_refl _) _
  have gb : (w.alloc (.cells #[.int .i64 T.k, .string T.t, .int .i64 T.n, .string T.nm, .slice T.xa T.len T.cap] 24)).heap[w.heap.size]? = some (.cells #[.int .i64 T.k, .string T.t, .int .i64 T.n, .string T.nm, .slice T.xa T.len T.cap] 24 (0, 0)) := at_new rfl
  have H0 := hide (And.intro hk0 gb)
  unfold pv at H1 HZT ⊢
  clear hT hS h hk0 gb
  go_enter Tryd.func6, Tryd.ntmps6
  go_wp2_with fail
  refine (unhide HAl _ (unhide H0).1).mono ?_
  rintro e w1 ⟨rfl, hb1⟩
  have HB1 := hide (bnext (unhide H0).1 hb1)
  have g1 := row_below (unhide H0).2 hb1
  have G1 := hide g1
  obtain ⟨y0, y1, y2, y3, y4⟩ := pats5s g1
  clear hb1 g1 H0 HAl
  go_wp2_with fail
  refine (unhide H1 _ (unhide HB1)).mono ?_
  rintro e w2 ⟨U, rfl, hU, hUc, hb2⟩
  have HUw := hide (unhide HTw U hUc)
  have HUc := hide hUc
  have HB2 := hide (bnext (unhide HB1) hb2)
  have HUi := hide (fun X (hb : Below w2.heap.size w2 X) => agree_later hU hb)
  have H2 := hide (fun W (hb : Below w2.heap.size w2 W) => simplify_right U W (agree_later hU hb) (unhide HSh W (bnext2 (bnext (unhide HB1) hb2) hb)) (unhide HUw).1)
  have HWU := hide (fun W (hb : Below w2.heap.size w2 W) => (unhide HUw).1 ▸ wrong_any U W (agree_later hU hb) (unhide HSh W (bnext2 (bnext (unhide HB1) hb2) hb)))
  have HZU := hide (fun W (hb : Below w2.heap.size w2 W) => size_right U (unhide HUw).1 W (agree_later hU hb))
  have G2 := hide (row_below (unhide G1) hb2)
  clear hU hUc hb2 y0 y1 y2 y3 y4 G1 H1
  unfold pv at H2 HWU HZU
  go_wp2_with fail
  have HA2 := hide ((Below.refl w2.heap.size w2).alloc (Nat.le_refl _) (.cells #[.int .i64 U.k, .string U.t, .int .i64 U.n, .string U.nm, .slice U.xa U.len U.cap] 24))
  have gU := at_new (w := w2) (o := (.cells #[.int .i64 U.k, .string U.t, .int .i64 U.n, .string U.nm, .slice U.xa U.len U.cap] 24)) rfl
  refine (unhide H2 _ (unhide HA2)).mono ?_
  rintro e w3 ⟨V, rfl, hV, hVc, hb3⟩
  have HB3 := hide (bnext (unhide HA2) hb3)
  have GU := hide (row_below gU hb3)
  have G3 := hide (row_below (row_below (unhide G2) (unhide HA2)) hb3)
  have HSm := hide (fun X (hb : Below w3.heap.size w3 X) => same_can U V X (unhide HUi X (bnext2 (bnext (unhide HA2) hb3) hb)) (agree_later hV hb) (by rw [hVc, (unhide HUw).2.1]))
  unfold pv at HSm
  obtain ⟨x0, x1, x2, x3, x4⟩ := pats5s (unhide GU)
  have X0 := fun o => cell_later ((Below.refl w3.heap.size w3).alloc (Nat.le_refl _) o) x0
  have X1 := fun o => cell_later ((Below.refl w3.heap.size w3).alloc (Nat.le_refl _) o) x1
  have X2 := fun o => cell_later ((Below.refl w3.heap.size w3).alloc (Nat.le_refl _) o) x2
  have X3 := fun o => cell_later ((Below.refl w3.heap.size w3).alloc (Nat.le_refl _) o) x3
  have X4 := fun o => cell_later ((Below.refl w3.heap.size w3).alloc (Nat.le_refl _) o) x4
  clear hV hVc hb3 gU H2 HUi G2
  go_wp2_with fail
  have HA3 := hide ((Below.refl w3.heap.size w3).alloc (Nat.le_refl _) (.cells #[.int .i64 V.k, .string V.t, .int .i64 V.n, .string V.nm, .slice V.xa V.len V.cap] 24))
  refine (unhide HSm _ (unhide HA3)).mono ?_
  rintro e w4 ⟨rfl, hb4⟩
  have HB4 := hide (bnext (unhide HA3) hb4)
  clear hb4 x0 x1 x2 x3 x4 X0 X1 X2 X3 X4 HSm
  obtain ⟨x0, x1, x2, x3, x4⟩ := pats5s (row_below (unhide GU) (unhide HB4))
  go_wp2_with fail
  refine (unhide HWU _ (bnext2 (unhide HB3) (unhide HB4))).mono ?_
  rintro e w5 ⟨rfl, hb5⟩
  have HB5 := hide (bnext (unhide HB4) hb5)
  clear hb5 x0 x1 x2 x3 x4 HWU
  obtain ⟨y0, y1, y2, y3, y4⟩ := pats5s (row_below (unhide G3) (unhide HB5))
  go_wp2_with fail
  refine (unhide HZT _ (bnext2 (bnext2 (unhide HB2) (unhide HB3)) (unhide HB5))).mono ?_
  rintro e w6 ⟨rfl, hb6⟩
  have HB6 := hide (bnext (unhide HB5) hb6)
  clear hb6 y0 y1 y2 y3 y4 HZT
  obtain ⟨x0, x1, x2, x3, x4⟩ := pats5s (row_below (unhide GU) (unhide HB6))
  go_wp2_with fail
  refine (unhide HZU _ (bnext2 (unhide HB3) (unhide HB6))).mono ?_
  rintro e w7 ⟨rfl, hb7⟩
  have HB7 := hide (bnext (unhide HB6) hb7)
  clear hb7 x0 x1 x2 x3 x4 HZU
  have c1 : (U.cnt : Int) ≤ (T.cnt : Int) := by have := (unhide HUw).2.2.1; omega
  have c2 : (U.dep : Int) ≤ (T.dep : Int) := by have := (unhide HUw).2.2.2; omega
  go_wp2_with fail
  go_ret
  exact ⟨by simp, bnext2 (bnext2 (unhide HB2) (unhide HB3)) (unhide HB7)⟩
set_option maxRecDepth 100000 in
set_option maxHeartbeats 2000000 in
theorem twice_wrong (T : PT) (w : World) (hT : T.In w) (hS : Shapes w) (h : T.wrong ≠ 0) : Calls Tryd.prog 6 #[pv T] w fun e w' => e = .returned (.bool true) ∧ Below w.heap.size w w' := by
  have q : (T.wrong != 0) = true := by rw [bne_iff_ne]; exact h
  have H1 := hide (fun W (hb : Below w.heap.size w W) => simplify_wrong T W (PT.In.later hb hT) (hS.later hb) h)
  have HW := hide (fun W (hb : Below w.heap.size w W) => wrong_any T W (PT.In.later hb hT) (hS.later hb))
  have HAl := hide (fun W (hb : Below w.heap.size w W) => alive6 W (hS.later hb))
  have hk0 : Below w.heap.size w (w.alloc (.cells #[.int .i64 T.k, .string T.t, .int .i64 T.n, .string T.nm, .slice T.xa T.len T.cap] 24)) := (Below.refl _ _).alloc (Nat.le_refl _) _
  have gb := at_new (w := w) (o := (.cells #[.int .i64 T.k, .string T.t, .int .i64 T.n, .string T.nm, .slice T.xa T.len T.cap] 24)) rfl
  have H0 := hide (And.intro hk0 gb)
  unfold pv at H1 HW ⊢
  clear hT hS h hk0 gb
  generalize T.wrong = c at *
  go_enter Tryd.func6, Tryd.ntmps6
  go_wp2_with fail
  refine (unhide HAl _ (unhide H0).1).mono ?_
  rintro e w1 ⟨rfl, hb1⟩
  have HB1 := hide (bnext (unhide H0).1 hb1)
  have g1 := row_below (unhide H0).2 hb1
  have G1 := hide g1
  obtain ⟨y0, y1, y2, y3, y4⟩ := pats5s g1
  clear hb1 g1 H0 HAl
  go_wp2_with fail
  refine (unhide H1 _ (unhide HB1)).mono ?_
  rintro e w2 ⟨rfl, hb2⟩
  have HB2 := hide (bnext (unhide HB1) hb2)
  have G2 := hide (row_below (unhide G1) hb2)
  clear hb2 y0 y1 y2 y3 y4 G1 H1
  obtain ⟨y0, y1, y2, y3, y4⟩ := pats5s (unhide G2)
  have Y0 := fun o => cell_later ((Below.refl w2.heap.size w2).alloc (Nat.le_refl _) o) y0
  have Y1 := fun o => cell_later ((Below.refl w2.heap.size w2).alloc (Nat.le_refl _) o) y1
  have Y2 := fun o => cell_later ((Below.refl w2.heap.size w2).alloc (Nat.le_refl _) o) y2
  have Y3 := fun o => cell_later ((Below.refl w2.heap.size w2).alloc (Nat.le_refl _) o) y3
  have Y4 := fun o => cell_later ((Below.refl w2.heap.size w2).alloc (Nat.le_refl _) o) y4
  unfold zeroP leafO
  go_wp2_with fail
  have HA2 := hide ((Below.refl w2.heap.size w2).alloc (Nat.le_refl _) (.cells #[.int .i64 0, .string ⟨#[]⟩, .int .i64 0, .string ⟨#[]⟩, .slice none 0 0] 24))
  refine (unhide HW _ (bnext2 (unhide HB2) (unhide HA2))).mono ?_
  rintro e w3 ⟨rfl, hb3⟩
  have HB3 := hide (bnext (bnext2 (unhide HB2) (unhide HA2)) hb3)
  clear hb3 y0 y1 y2 y3 y4 Y0 Y1 Y2 Y3 Y4
  go_wp2_with fail
  go_ret
  exact ⟨by simp, unhide HB3⟩
theorem twice_any (T : PT) (w : World) (hT : T.In w) (hS : Shapes w) : Calls Tryd.prog 6 #[pv T] w fun e w' => e = .returned (.bool true) ∧ Below w.heap.size w w' := by
  by_cases h : T.wrong = 0
  · exact twice_right T w hT hS h
  · exact twice_wrong T w hT hS h
theorem tabs_twice {w : World} (h : laidMetH Tryd.prog Rows.tuneTwiceRow.laid w) : Shapes w := by
  have e : (Rows.tuneTwiceRow.laid.filter fun x => x.2.handleName?.isSome) = [] := by kernel_rfl
  have h' : laidMet Tryd.prog Rows.tuneTwiceRow.laid w := by
    have hp := h
    unfold laidMetH at hp
    rw [e] at hp
    exact hp
  exact shapes_of (rest := []) h'
theorem tuneTwice_walk (T : PT) (w : World) (hT : T.In w) (hS : Shapes w) : Calls Tryd.prog 6 #[pv T] w fun e w' => e = .returned (.bool true) ∧ Below w.heap.size w w' := twice_any T w hT hS
end Go.Proofs.YtbmngbpillihaaaDoor
