/- LibraryTells' walk. The table of expressions' kinds, out of what the row lists; a statement that came in, opened. -/
import Derived.Test.YtpkmamgleofimaaGreatDoorLbSM
import Derived.Test.YtpkmamgleofimaaGreatDoorSplLibM
import Derived.Test.YtpkmamgleofimaaGreatDoorSrBM
import Derived.KernelRfl
import Derived.Test.YtpkmamgleofimaaGreatDoorOpenPat6P
import Derived.Stop.LaidErr
namespace Go.Proofs.YtpkmamgleofimaaGreatDoor
open Go.RowKit

theorem lkT_self {i : Nat} {p : ByteArray × ByteArray} (h : progsL[i]? = some p) : lkT progsL p.1 = (p.2, 0) := by
  have e := congrArg (fun l => l[i]?) lkT_at
  simp only [List.getElem?_map, h, Option.map_some, Option.some.injEq] at e
  exact e
set_option maxRecDepth 100000 in
set_option maxHeartbeats 8000000 in
theorem libraryTells_any (n : ByteArray) (wh : Int) (w : World) (hW : SyW w) (m : Int) (hm : w.cell? ⟨1, 0, none⟩ = some (.int .i64 m)) : Calls Tryz.prog 3 #[.string n, .int .i64 wh] w fun e w' => e = .returned (.bool true) ∧ Below w.heap.size w w' := by
  have HSX := hide (fun W (q : Below w.heap.size w W) => And.intro (hW.shx.later q) (hW.sh.later q))
  have HRD := hide (fun (s : ByteArray) (hs : s.size ≤ maxLen) (X : World) (h : Below w.heap.size w X) => sread_any s X hs (hW.later h) m (cell_later h hm))
  have HLT := hide (fun t X => libText_any t X)
  have HRT := hide (fun t X => refText_any t X)
  have HPR := hide (fun (i : Nat) p (h : progsL[i]? = some p) => And.intro (lkT_self h) (And.intro (goodB_at h) (progs_at h).2))
  have HSAM := hide (fun (va vb : Value) X => same_true (progsL.map (·.1)) va vb X (by rw [List.length_map]; exact (by decide : progsL.length ≤ 1000000000000000)))
  have HLN := hide (fun X => libNames_any X)
  have HRN := hide (fun X => refNames_any X)
  have hlen : progsL.length = 29 := progs_len
  clear hW hm
  generalize progsL = L at *
  obtain ⟨R, hR⟩ : ∃ R, R = lkT L n := ⟨_, rfl⟩
  have HLT0 := unhide HLT n w
  rw [← hR] at HLT0
  have HLT0 := hide HLT0
  have HRT0 := hide (fun X => unhide HRT n X)
  rw [← hR] at HRT0
  obtain ⟨tx, er⟩ := R
  dsimp only at HLT0 HRT0
  have HLL := hide hlen
  clear hR
  go_enter Tryz.func3, Tryz.ntmps3
  go_wp2_with fail
  refine (unhide HLT0).mono ?_
  rintro e w1 ⟨rfl, hb1⟩
  have HB1 := hide hb1
  clear hb1 HLT0
  go_wp2_with fail
  refine (unhide HRT0 w1).mono ?_
  rintro e w2 ⟨rfl, rfl⟩
  clear HRT0
  go_wp2_with fail
  refine (unhide HLN w2).mono ?_
  rintro e w3 ⟨⟨v, rfl, hv⟩, hb3⟩
  have HB3 := hide (bnext2 (unhide HB1) hb3)
  have HV := hide hv
  clear hb3 hv HLN
  go_wp2_with fail
  refine (unhide HRN w3).mono ?_
  rintro e w4 ⟨rfl, hw4⟩
  have hb4 : Below w3.heap.size w3 w4 := by rw [hw4]; exact ba _
  have HV4 := hide ((unhide HV).later hb4)
  have hs4 : StrsAt w4 (.slice (some ⟨w3.heap.size, 0, none⟩) (L.map (·.1)).length (L.map (·.1)).length) (L.map (·.1)) := by rw [hw4]; exact strs_alloc w3 (L.map (·.1))
  have HSM := hide (unhide HSAM v _ w4 (unhide HV4) hs4)
  have HB4 := hide (bnext2 (unhide HB3) hb4)
  have hml : (L.map (·.1)).length = 29 := by rw [List.length_map]; exact unhide HLL
  rw [hml] at HSM ⊢
  have HML := hide hml
  clear hw4 hb4 hs4 hml HRN HSAM HV
  go_wp2_with fail
  refine (unhide HSM).mono ?_
  rintro e w5 ⟨rfl, hb5⟩
  have HB5 := hide (bnext2 (unhide HB4) hb5)
  obtain ⟨xa, cap, rfl, hcap, hx⟩ := (unhide HV4).later hb5
  rw [unhide HML] at hcap ⊢
  have HX := hide hx
  clear hb5 hx HSM HV4
  by_cases hr : wh < 0 ∨ 29 ≤ wh
  · rcases hr with h1 | h1
    · go_wp2_with fail
      go_ret
      exact ⟨rfl, unhide HB5⟩
    · have h2 : ¬ wh < 0 := by omega
      go_wp2_with fail
      go_ret
      exact ⟨rfl, unhide HB5⟩
  · obtain ⟨i, rfl⟩ : ∃ i : Nat, wh = (i : Int) := ⟨wh.toNat, by omega⟩
    have hi : i < 29 := by omega
    have g1 : (i : Int) < 29 := by omega
    have g0 : ¬ (i : Int) < 0 := by omega
    have g2 : ¬ (29 : Int) ≤ (i : Int) := by omega
    obtain ⟨p, hp⟩ : ∃ p, L[i]? = some p := ⟨L[i]'(by have := unhide HLL; omega), List.getElem?_eq_getElem _⟩
    obtain ⟨hk1, ⟨l, hl1, hl2⟩, hz⟩ := unhide HPR i p hp
    rcases unhide HX with h0 | ⟨b, off, rfl, hc⟩
    · have := congrArg List.length h0
      rw [unhide HML] at this; cases this
    · have hct : w5.cell? ⟨b, off + i, none⟩ = some (.string p.1) := by
        rw [hc i (by rw [unhide HML]; exact hi), List.getD_eq_getElem?_getD, List.getElem?_map, hp]; rfl
      have hix := sl_idx (g := b) (o := off) (cap := cap) (i := i) (n := 29) Tryz.underlying25 size_strS hi
      have HL4 := unhide HLT p.1 w5
      have HR4 := hide (fun X => unhide HRT p.1 X)
      rw [hk1] at HL4 HR4
      have HL4 := hide HL4
      obtain ⟨p1, p2⟩ := p
      dsimp only at HL4 HR4 hl1 hz hct
      have HL1 := hide hl1
      have HL2 := hide hl2
      have HZZ := hide hz
      have HCT := hide hct
      clear hr hp hk1 hl1 hl2 hz hc HPR HX HLT HRT
      go_wp2_with fail
      refine (unhide HL4).mono ?_
      rintro e w6 ⟨rfl, hb6⟩
      have hct := cell_later hb6 (unhide HCT)
      have HB6 := hide (bnext2 (unhide HB5) hb6)
      clear hb6 HL4
      go_wp2_with fail
      refine (unhide HR4 w6).mono ?_
      rintro e w7 ⟨rfl, rfl⟩
      clear HR4 hct
      go_wp2_with fail
      refine (unhide HRD p2 (by have := unhide HZZ; unfold maxLen; omega) w7 (unhide HB6)).mono ?_
      rintro e w8 ⟨hb8, hc⟩
      rcases hc with ⟨er2, i2, hE, -, -⟩ | ⟨V, P, hE, rfl, hpi⟩
      · rw [unhide HL1] at hE; cases hE
      · have hlk : (lookS P).er = 0 := by
          rw [unhide HL1] at hE; injection hE with hE
          rw [← look_can, ← hE]; exact unhide HL2
        have HB8 := hide (bnext2 (unhide HB6) hb8)
        have HPI := hide hpi
        have HLK := hide hlk
        unfold fauV PV.v
        clear hE hb8 hpi hlk HL1 HL2 HRD
        obtain ⟨w9, hw9⟩ : ∃ w9, w9 = w8.alloc (.cells #[.int .i64 0, .int .i64 0] 30) := ⟨_, rfl⟩
        have hb9 : Below w8.heap.size w8 w9 := by rw [hw9]; exact ba _
        have HF9 : Hid (w9.heap[w8.heap.size]? = some (.cells #[.int .i64 0, .int .i64 0] 30 (0, 0))) := hide (by rw [hw9]; exact at_new rfl)
        have HB9 := hide (bnext2 (unhide HB8) hb9)
        have HEN : Hid (Env w9.heap.size w9 V P) := hide ⟨fun W q => unhide HPI W (bnext hb9 q).size fun i _ hi => (bnext hb9 q).block i hi, fun W q => (unhide HSX W (bnext (unhide HB9) q)).1, fun W q => (unhide HSX W (bnext (unhide HB9) q)).2⟩
        have HCK := hide (check_any w9 V P (unhide HEN))
        have HW9 := hide hw9
        unfold PV.v at HCK
        clear hw9 hb9 HPI HEN
        go_upto_region 11 with fail
        (try rw [show w8.alloc (.cells #[.int .i64 0, .int .i64 0] 30) = w9 from (unhide HW9).symm])
        obtain ⟨f9, -⟩ := fault2 (unhide HF9)
        go_wp2_with fail
        refine (unhide HCK).mono ?_
        rintro e w10 ⟨rfl, hb10⟩
        rw [unhide HLK]
        generalize (lookS P).at_ = at2 at *
        have hfd : ∀ w, (Instr.field 30 (.agg #[.int .i64 0, .int .i64 at2]) 0).run Tryz.prog w = .ok (.int .i64 0) w := fun w => by kernel_rfl
        have HB10 := hide (bnext2 (unhide HB9) hb10)
        go_wp2_with fail
        go_ret
        exact ⟨rfl, unhide HB10⟩
end Go.Proofs.YtpkmamgleofimaaGreatDoor

namespace Go.Proofs.YtpkmamgleofimaaGreatDoor
open Go.ChangeShapes Go.WideShapes Go.ChangeAt Go.RowKit Go.Deep

theorem cells_bo : Tryz.prog.cellsOf 4 = 1 := by kernel_rfl
theorem cells_shx : Tryz.prog.cellsOf 104 = 5 := by kernel_rfl
set_option maxRecDepth 100000 in
theorem shapeX_open {H : Type} {enc : TypeId × Value → H} {W : World} {base m : Nat} {spare : Nat → Bool} {held : Bool} {cs : List Value} {pl : List MemPlace} {s : List UInt8} {h a b : Int} {q : Bool}
    (hd : DataW.trod enc Tryz.prog W base spare held m 104 cs = some (.agg [.lit (.string s), .lit (.int .i64 h), .lit (.bool q), .lit (.int .i64 a), .lit (.int .i64 b)], pl)) :
    cs = [.string ⟨s.toArray⟩, .int .i64 h, .bool q, .int .i64 a, .int .i64 b] := by
  obtain ⟨xs, n, -, hx, hl, hxs, hf⟩ := DataW.trod_struct Tryz.underlying104 hd
  rw [cells_shx] at hl
  replace hxs : xs.length = 5 := hxs
  simp only [Prod.mk.injEq, DataW.agg.injEq] at hx
  match xs, hxs, cs, hl with
  | [x0, x1, x2, x3, x4], _, [c0, c1, c2, c3, c4], _ =>
    have u0 := hf 0 _ rfl
    have u1 := hf 1 _ rfl
    have u2 := hf 2 _ rfl
    have u3 := hf 3 _ rfl
    have u4 := hf 4 _ rfl
    simp [cells_str4] at u0
    simp [cells_int4] at u1 u3 u4
    simp [cells_bo] at u2
    obtain ⟨t, hc0, hd0, -⟩ := DataW.trod_string Tryz.underlying9 u0
    obtain ⟨k1, hc1, hd1, -⟩ := DataW.trod_int Tryz.underlying3 u1
    obtain ⟨k2, hc2, hd2⟩ := DataW.trod_bool Tryz.underlying4 u2
    obtain ⟨k3, hc3, hd3, -⟩ := DataW.trod_int Tryz.underlying3 u3
    obtain ⟨k4, hc4, hd4, -⟩ := DataW.trod_int Tryz.underlying3 u4
    simp only [List.cons.injEq, and_true] at hc0 hc1 hc2 hc3 hc4
    subst hc0 hc1 hc2 hc3 hc4
    have hx1 := hx.1
    rw [hd0, hd1, hd2, hd3, hd4] at hx1
    simp only [List.map_cons, List.map_nil, List.cons.injEq, DataW.lit.injEq, Lit.string.injEq, Lit.int.injEq, Lit.bool.injEq, and_true, true_and] at hx1
    obtain ⟨e0, e1, e2, e3, e4⟩ := hx1
    subst e1 e2 e3 e4
    rw [e0]
theorem shapesX_lit (K : Nat) (h1 : 1 ≤ K) (h2 : K ≤ 13) : ∃ l, (Rows.laid_scanfail_syntax_shapes (H := Unit)) = .agg l ∧ l[K]? = some (.agg [.lit (.string (signX K).data.toList), .lit (.int .i64 (levelX K)), .lit (.bool (namedX K)), .lit (.int .i64 (leastX K)), .lit (.int .i64 (mostX K))]) := by
  refine ⟨_, rfl, ?_⟩
  have h : K = 1 ∨ K = 2 ∨ K = 3 ∨ K = 4 ∨ K = 5 ∨ K = 6 ∨ K = 7 ∨ K = 8 ∨ K = 9 ∨ K = 10 ∨ K = 11 ∨ K = 12 ∨ K = 13 := by omega
  rcases h with rfl | rfl | rfl | rfl | rfl | rfl | rfl | rfl | rfl | rfl | rfl | rfl | rfl <;> rfl
set_option maxRecDepth 100000 in
theorem shapesX_of {W : World} {rest : List (String × DataW Unit)} (h : laidMet Tryz.prog (("scanfail/syntax.shapes", Rows.laid_scanfail_syntax_shapes) :: rest) W) : ShapesX W := by
  obtain ⟨ps, ⟨g', t', cs, fuel, p, q, hg', ht', hvar, hd, -, -⟩, -⟩ := h
  have hg : Tryz.prog.globalNamed "scanfail/syntax.shapes" = some 0 := by kernel_rfl
  have hty : (Tryz.prog.globals[0]?).map (·.type) = some 105 := by kernel_rfl
  obtain rfl := Option.some.inj (hg.symm.trans hg')
  obtain rfl := Option.some.inj (hty.symm.trans ht')
  intro K h1 h2
  obtain ⟨l, hl, hlK⟩ := shapesX_lit K h1 h2
  rw [hl] at hd
  obtain ⟨xs, m, -, hx, hcl, hxl, hf⟩ := DataW.trod_array Tryz.underlying105 hd
  simp only [Prod.mk.injEq, DataW.agg.injEq] at hx
  have hK := hf K (by omega)
  rw [cells_shx] at hK
  have hxK : ∃ y, xs[K]? = some y ∧ y.1 = .agg [.lit (.string (signX K).data.toList), .lit (.int .i64 (levelX K)), .lit (.bool (namedX K)), .lit (.int .i64 (leastX K)), .lit (.int .i64 (mostX K))] := by
    rw [hx.1, List.getElem?_map] at hlK
    cases hy : xs[K]? with
    | none => rw [hy] at hlK; cases hlK
    | some y => rw [hy] at hlK; exact ⟨y, rfl, Option.some.inj hlK⟩
  obtain ⟨⟨y1, y2⟩, hy, hyd⟩ := hxK
  simp only at hyd
  rw [hy, hyd] at hK
  have hrow := shapeX_open hK
  have hc : ∀ j, j < 5 → W.cell? ⟨0, K * 5 + j, none⟩ = ((cs.toList.drop (K * 5)).take 5)[j]? := fun j hj => by
    have h3 := World.var?_cell hg hvar (K * 5 + j)
    rw [h3, List.getElem?_take, if_pos hj, List.getElem?_drop, Array.getElem?_toList]
  rw [hrow] at hc
  exact ⟨hc 0 (by omega), hc 1 (by omega), hc 2 (by omega), hc 3 (by omega), hc 4 (by omega)⟩
theorem star_es : "*" ++ "errors.errorString" = "*errors.errorString" := by decide
theorem sent_row (u : TypeId) (h : Tryz.prog.typeName? 3 u = some "*errors.errorString") : u = 186 :=
  typeName_ptr_named (nm := "errors.errorString") (by rw [star_es]; kernel_rfl) (by kernel_rfl) (by decide) u (by rw [star_es]; exact h)
theorem shapesX_lit0 : ∃ l, (Rows.laid_scanfail_syntax_shapes (H := Unit)) = .agg l ∧ l[0]? = some (.agg [.lit (.string []), .lit (.int .i64 0), .lit (.bool false), .lit (.int .i64 0), .lit (.int .i64 0)]) := ⟨_, rfl, rfl⟩
set_option maxRecDepth 100000 in
theorem shapesX_0 {W : World} {rest : List (String × DataW Unit)} (h : laidMet Tryz.prog (("scanfail/syntax.shapes", Rows.laid_scanfail_syntax_shapes) :: rest) W) : W.cell? ⟨0, 1, none⟩ = some (.int .i64 0) := by
  obtain ⟨ps, ⟨g', t', cs, fuel, p, q, hg', ht', hvar, hd, -, -⟩, -⟩ := h
  have hg : Tryz.prog.globalNamed "scanfail/syntax.shapes" = some 0 := by kernel_rfl
  have hty : (Tryz.prog.globals[0]?).map (·.type) = some 105 := by kernel_rfl
  obtain rfl := Option.some.inj (hg.symm.trans hg')
  obtain rfl := Option.some.inj (hty.symm.trans ht')
  obtain ⟨l, hl, hlK⟩ := shapesX_lit0
  rw [hl] at hd
  obtain ⟨xs, m, -, hx, hcl, hxl, hf⟩ := DataW.trod_array Tryz.underlying105 hd
  simp only [Prod.mk.injEq, DataW.agg.injEq] at hx
  have hK := hf 0 (by omega)
  rw [cells_shx] at hK
  have hxK : ∃ y, xs[0]? = some y ∧ y.1 = .agg [.lit (.string []), .lit (.int .i64 0), .lit (.bool false), .lit (.int .i64 0), .lit (.int .i64 0)] := by
    rw [hx.1, List.getElem?_map] at hlK
    cases hy : xs[0]? with
    | none => rw [hy] at hlK; cases hlK
    | some y => rw [hy] at hlK; exact ⟨y, rfl, Option.some.inj hlK⟩
  obtain ⟨⟨y1, y2⟩, hy, hyd⟩ := hxK
  simp only at hyd
  rw [hy, hyd] at hK
  have hrow := shapeX_open hK
  have hc : ∀ j, j < 5 → W.cell? ⟨0, j, none⟩ = ((cs.toList.drop (0 * 5)).take 5)[j]? := fun j hj => by
    have h3 := World.var?_cell hg hvar (j)
    rw [h3, List.getElem?_take, if_pos hj, List.getElem?_drop, Nat.zero_mul, Nat.zero_add, Array.getElem?_toList]
  rw [hrow] at hc
  exact hc 1 (by omega)
theorem tabs_lb {w : World} (h : laidMetH Tryz.prog Rows.libraryTellsRow.laid w) : SyW w := by
  have e : (Rows.libraryTellsRow.laid.filter fun x => x.2.handleName?.isSome) = [] := by kernel_rfl
  have h' : laidMet Tryz.prog Rows.libraryTellsRow.laid w := by
    have hp := h
    unfold laidMetH at hp
    rw [e] at hp
    exact hp
  have h2 := h'.tail.tail
  have he := h2.tail.tail
  have hp := he.tail.tail
  have hx := hp.tail
  have hS : Shapes w := shapes_of (rest := _) hp
  have hX : ShapesX w := shapesX_of (rest := _) hx
  have hg : Tryz.prog.globalNamed "strconv.ErrRange" = some 6 := by kernel_rfl
  obtain ⟨a0, s0, hv, -⟩ := laid_sentinel (show laidMet Tryz.prog (("strconv.ErrRange", .iface "*errors.errorString" (.ptr (.agg [.lit (.string [118, 97, 108, 117, 101, 32, 111, 117, 116, 32, 111, 102, 32, 114, 97, 110, 103, 101])]))) :: _) w from he) hg (ti := 140) (by kernel_rfl) Tryz.underlying140 sent_row Tryz.underlying186 Tryz.underlying188 rfl rfl Tryz.underlying9 (by kernel_rfl) (by kernel_rfl)
  exact ⟨hS, hX, shapesX_0 (rest := _) hx, ⟨_, _, by have h3 := World.var?_cell hg hv 0; exact h3⟩⟩
theorem libraryTells_walk (n : ByteArray) (wh : Int) (w : World) (h : laidMetH Tryz.prog Rows.libraryTellsRow.laid w) (hm : ∃ m, w.cell? ⟨1, 0, none⟩ = some (.int .i64 m)) : Calls Tryz.prog 3 #[.string n, .int .i64 wh] w fun e w' => e = .returned (.bool true) ∧ Below w.heap.size w w' := by
  obtain ⟨m, hm⟩ := hm
  exact libraryTells_any n wh w (tabs_lb h) m hm
end Go.Proofs.YtpkmamgleofimaaGreatDoor
