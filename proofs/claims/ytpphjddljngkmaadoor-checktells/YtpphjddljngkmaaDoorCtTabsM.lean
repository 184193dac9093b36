/- Statements that came in, opened; how large their patterns and lists of names are. What the second form's row lists, for CheckTells. -/
import Derived.Test.YtpphjddljngkmaaDoorOpenStmtP
import Derived.Test.YtpphjddljngkmaaDoorRefChGP
namespace Go.Proofs.YtpphjddljngkmaaDoor
open Go.ChangeShapes Go.WideShapes Go.ChangeAt Go.RowKit Go.Deep

theorem bulk_pos {H : Type} (d : DataW H) : 1 ≤ Rows.uptoBulk d := by
  unfold Rows.uptoBulk
  split <;> omega
theorem sum_one : ∀ n, sumTo (fun _ => 1) n = n
  | 0 => rfl
  | n + 1 => by
    rw [sumTo, sum_one n]
/-- Names that came in. -/
theorem open_nmsB {H : Type} {enc : TypeId × Value → H} {W : World} {fuel : Nat} {c : Value} {d : DataW H} {pl : List MemPlace} (h : DataW.trod enc Tryd.prog W 0 (fun _ => true) true fuel 47 [c] = some (d, pl)) : ∃ N : NL, N.In W ∧ c = N.v ∧ N.l.length ≤ Rows.uptoBulk d := by
  rcases open_slice Tryd.underlying47 h with ⟨hc, -⟩ | ⟨a, len, cap, mm, q, D, Pl, hc, _, hlc, hcm, hmm, hx, hall⟩
  · simp only [List.cons.injEq, and_true] at hc
    subst hc
    exact ⟨⟨none, 0, 0, 0, []⟩, ⟨Nat.le_refl _, Nat.zero_le _, fun h => absurd h (Nat.lt_irrefl 0), fun i t ht => by simp at ht⟩, rfl, Nat.zero_le _⟩
  · simp only [List.cons.injEq, and_true] at hc
    subst hc
    simp only [if_true] at hmm
    rw [cells_str] at hall
    have hel : ∀ i, i < len → ∃ t : ByteArray, t.size ≤ maxLen ∧ W.cells? 0 (a.add (i * 1)) 1 = some [.string t] := by
      intro i hi
      obtain ⟨cs', h1, h2⟩ := hall i (by omega)
      obtain ⟨t, ht, -, hs⟩ := DataW.trod_string Tryd.underlying9 h2
      exact ⟨t, hs, by rw [h1, ht]⟩
    obtain ⟨b, o, spot⟩ := a
    have hsp : 0 < len → spot = none := fun hp => by
      obtain ⟨T, -, hc⟩ := hel 0 hp
      obtain ⟨-, hlen, hcell⟩ := World.cells?_some hc
      simpa [Addr.add] using World.cell?_spot (hcell 0 (by omega))
    haveI : Inhabited ByteArray := ⟨ByteArray.empty⟩
    obtain ⟨F, hF⟩ := choose_lt (α := ByteArray) (p := fun i t => t.size ≤ maxLen ∧ W.cells? 0 ((⟨b, o, spot⟩ : Addr).add (i * 1)) 1 = some [.string t]) hel
    refine ⟨⟨some ⟨b, o, spot⟩, b, o, cap, (List.range len).map F⟩, ⟨by simpa using hlc, by simpa using hcm, fun hp => by rw [hsp (by simpa using hp)], fun i t ht => ?_⟩, by unfold NL.v; simp, by
      have hsum := bulk_range D (fun _ => 1) len (fun i _ => bulk_pos (D i))
      rw [sum_one] at hsum
      rw [show d = _ from congrArg Prod.fst hx]
      simp only [Rows.uptoBulk, List.length_map, List.length_range]
      omega⟩
    have ht : ((List.range len).map F)[i]? = some t := ht
    rw [List.getElem?_map] at ht
    rcases Nat.lt_or_ge i len with hi | hi
    · rw [List.getElem?_range hi] at ht
      obtain rfl := (Option.some.inj ht).symm
      obtain ⟨hs, hc⟩ := hF i hi
      obtain ⟨-, hlen, hcell⟩ := World.cells?_some hc
      obtain rfl := hsp (by omega)
      have := hcell 0 (by omega)
      rw [Addr.add_lit, Addr.add_lit, Nat.mul_one, Nat.add_zero] at this
      exact ⟨this, hs⟩
    · rw [List.getElem?_eq_none (by simpa using hi)] at ht
      cases ht
set_option maxRecDepth 100000 in
set_option maxHeartbeats 1000000 in
theorem open_stmtB {H : Type} {enc : TypeId × Value → H} {W : World} {fuel : Nat} {cs : List Value} {d : DataW H} {pl : List MemPlace} (h : DataW.trod enc Tryd.prog W 0 (fun _ => true) true fuel 49 cs = some (d, pl)) :
    ∃ S : SV, S.In W ∧ cs = S.cells.toList ∧ S.pa.cnt ≤ Rows.uptoBulk d ∧ S.ps.l.length + S.ls.l.length ≤ Rows.uptoBulk d := by
  obtain ⟨xs, n, -, hx, hl, hxs, hf⟩ := DataW.trod_struct Tryd.underlying49 h
  rw [cells_st] at hl
  simp only [Prod.mk.injEq] at hx
  obtain ⟨rfl, -⟩ := hx
  replace hxs : xs.length = 12 := hxs
  match xs, hxs, cs, hl with
  | [x0, x1, x2, x3, x4, x5, x6, x7, x8, x9, x10, x11], _, [c0, c1, c2, c3, c4, c5, c6, c7, c8, c9, c10, c11, c12, c13, c14, c15, c16, c17, c18, c19, c20, c21, c22, c23], _ =>
    have u0 := hf 0 _ rfl
    have u1 := hf 1 _ rfl
    have u2 := hf 2 _ rfl
    have u3 := hf 3 _ rfl
    have u4 := hf 4 _ rfl
    have u5 := hf 5 _ rfl
    have u6 := hf 6 _ rfl
    have u7 := hf 7 _ rfl
    have u8 := hf 8 _ rfl
    have u9 := hf 9 _ rfl
    have u10 := hf 10 _ rfl
    have u11 := hf 11 _ rfl
    simp [cells_str] at u0 u5 u6 u9 u10 u11
    simp [cells_int] at u1
    simp [cells_ex] at u2 u3
    simp [cells_24] at u4
    simp [cells_sls] at u7 u8
    obtain ⟨lab, h0, -, s0⟩ := DataW.trod_string Tryd.underlying9 u0
    obtain ⟨k, h1, -, -⟩ := DataW.trod_int Tryd.underlying3 u1
    obtain ⟨tg, i2, h2, -⟩ := open_expr _ n _ x2.1 x2.2 (Nat.le_refl _) u2
    obtain ⟨va, i3, h3, -⟩ := open_expr _ n _ x3.1 x3.2 (Nat.le_refl _) u3
    obtain ⟨pa, i4, h4, n4⟩ := open_pat _ n _ x4.1 x4.2 (Nat.le_refl _) u4
    obtain ⟨nm, h5, -, s5⟩ := DataW.trod_string Tryd.underlying9 u5
    obtain ⟨en, h6, -, s6⟩ := DataW.trod_string Tryd.underlying9 u6
    obtain ⟨ps, i7, h7, n7⟩ := open_nmsB u7
    obtain ⟨ls, i8, h8, n8⟩ := open_nmsB u8
    obtain ⟨al, h9, -, s9⟩ := DataW.trod_string Tryd.underlying9 u9
    obtain ⟨ye, h10, -, s10⟩ := DataW.trod_string Tryd.underlying9 u10
    obtain ⟨no, h11, -, s11⟩ := DataW.trod_string Tryd.underlying9 u11
    simp only [List.cons.injEq, and_true] at h0 h1 h2 h3 h4 h5 h6 h9 h10 h11
    refine ⟨⟨lab, k, tg, va, pa, nm, en, ps, ls, al, ye, no⟩, ⟨⟨s0, s5, s6, s9, s10, s11⟩, i2, i3, i4, i7, i8⟩, ?_, ?_, ?_⟩
    rotate_left
    · show pa.cnt ≤ _
      simp only [List.map_cons, List.map_nil, Rows.uptoBulk, Rows.uptoBulkAll]
      omega
    · show ps.l.length + ls.l.length ≤ _
      simp only [List.map_cons, List.map_nil, Rows.uptoBulk, Rows.uptoBulkAll]
      omega
    obtain ⟨a2, b2, c2', d2, e2⟩ := h2
    obtain ⟨a3, b3, c3', d3, e3⟩ := h3
    obtain ⟨a4, b4, c4', d4, e4⟩ := h4
    rw [h0, h1, a2, b2, c2', d2, e2, a3, b3, c3', d3, e3, a4, b4, c4', d4, e4, h5, h6, h7, h8, h9, h10, h11]
    rfl
set_option maxRecDepth 100000 in
theorem open_argStmtsB {H : Type} {enc : TypeId × Value → H} {W : World} {base : Nat} {v : Value} {d : DataW H} {p : List MemPlace}
    (hval : Value.okWide Tryd.prog W .any base 22 v) (h : DataW.Trod enc Tryd.prog W 0 (fun _ => true) true 22 v d p) : ∃ (V : PV) (P : List SV), v = V.v P.length ∧ PIn W V P ∧ ∀ (i : Nat) S, P[i]? = some S → S.pa.cnt ≤ Rows.uptoBulk d ∧ S.ps.l.length + S.ls.l.length ≤ Rows.uptoBulk d := by
  obtain ⟨a0, n0, c0, rfl⟩ := okWide_slice Tryd.underlying22 hval
  obtain ⟨fuel, hf⟩ := h
  rcases open_slice Tryd.underlying22 (show DataW.trod enc Tryd.prog W 0 (fun _ => true) true fuel 22 [.slice a0 n0 c0] = some (d, p) from hf) with ⟨hc, -⟩ | ⟨a, len, cap, mm, q, D, Pl, hc, _, hlc, hcm, hmm, hx, hall⟩
  · simp only [List.cons.injEq, and_true] at hc
    rw [hc]
    exact ⟨⟨none, 0, 0, 0⟩, [], rfl, ⟨Nat.le_refl _, Nat.zero_le _, fun h => absurd h (Nat.lt_irrefl 0), fun i S h => by simp at h⟩, fun i S h => by simp at h⟩
  · simp only [List.cons.injEq, and_true] at hc
    rw [hc]
    simp only [if_true] at hmm
    rw [cells_st] at hall
    have hel : ∀ i, i < len → ∃ S : SV, S.In W ∧ W.cells? 0 (a.add (i * 24)) 24 = some S.cells.toList ∧ S.pa.cnt ≤ Rows.uptoBulk d ∧ S.ps.l.length + S.ls.l.length ≤ Rows.uptoBulk d := by
      intro i hi
      obtain ⟨cs', h1, h2⟩ := hall i (by omega)
      obtain ⟨S, hS, hrow, n1, n2⟩ := open_stmtB h2
      have hsm : Rows.uptoBulk (D i) ≤ Rows.uptoBulk d := by
        have h3 := bulk_mem ((List.range len).map D) (D i) (List.mem_map.2 ⟨i, List.mem_range.2 hi, rfl⟩)
        rw [show d = _ from congrArg Prod.fst hx]
        simp only [Rows.uptoBulk]
        omega
      exact ⟨S, hS, by rw [h1, hrow], Nat.le_trans n1 hsm, Nat.le_trans n2 hsm⟩
    obtain ⟨b, o, spot⟩ := a
    have hsp : 0 < len → spot = none := fun hp => by
      obtain ⟨T, -, hc, -⟩ := hel 0 hp
      obtain ⟨-, hlen, hcell⟩ := World.cells?_some hc
      simpa [Addr.add] using World.cell?_spot (hcell 0 (by decide))
    haveI : Inhabited SV := ⟨⟨ByteArray.empty, 0, PT.nul, PT.nul, PT.nul, ByteArray.empty, ByteArray.empty, ⟨none, 0, 0, 0, []⟩, ⟨none, 0, 0, 0, []⟩, ByteArray.empty, ByteArray.empty, ByteArray.empty⟩⟩
    obtain ⟨F, hF⟩ := choose_lt (α := SV) (p := fun i S => S.In W ∧ W.cells? 0 ((⟨b, o, spot⟩ : Addr).add (i * 24)) 24 = some S.cells.toList ∧ S.pa.cnt ≤ Rows.uptoBulk d ∧ S.ps.l.length + S.ls.l.length ≤ Rows.uptoBulk d) hel
    refine ⟨⟨some ⟨b, o, spot⟩, b, o, cap⟩, (List.range len).map F, by unfold PV.v; simp, ⟨by simpa using hlc, by simpa using hcm, fun hp => by rw [hsp (by simpa using hp)], fun i S hS => ?_⟩, fun i S hS => ?_⟩
    rotate_left
    · rw [List.getElem?_map] at hS
      rcases Nat.lt_or_ge i len with hi | hi
      · rw [List.getElem?_range hi] at hS
        obtain rfl := (Option.some.inj hS).symm
        exact (hF i hi).2.2
      · rw [List.getElem?_eq_none (by simpa using hi)] at hS
        cases hS
    rw [List.getElem?_map] at hS
    rcases Nat.lt_or_ge i len with hi | hi
    · rw [List.getElem?_range hi] at hS
      obtain rfl := (Option.some.inj hS).symm
      obtain ⟨hs, hc, -⟩ := hF i hi
      obtain ⟨-, hlen, hcell⟩ := World.cells?_some hc
      obtain rfl := hsp (by omega)
      refine ⟨fun j u hj => ?_, hs⟩
      have hjl : j < (F i).cells.toList.length := (List.getElem?_eq_some_iff.1 hj).1
      have := hcell j (by first | exact hjl | omega)
      rw [Addr.add_lit, Addr.add_lit] at this
      rw [this]
      exact hj
    · rw [List.getElem?_eq_none (by simpa using hi)] at hS
      cases hS
end Go.Proofs.YtpphjddljngkmaaDoor

namespace Go.Proofs.YtpphjddljngkmaaDoor
open Go.ChangeShapes Go.WideShapes Go.ChangeAt Go.RowKit Go.Deep

theorem tabs_tells {w : World} (h : laidMetH Tryd.prog Rows.checkTellsUptoRow.laid w) : ShapesX w ∧ Shapes w := by
  have e : (Rows.checkTellsUptoRow.laid.filter fun x => x.2.handleName?.isSome) = [] := by kernel_rfl
  have h' : laidMet Tryd.prog Rows.checkTellsUptoRow.laid w := by
    have hp := h
    unfold laidMetH at hp
    rw [e] at hp
    exact hp
  exact ⟨shapesX_of (rest := []) (laidMet.tail h'), shapes_of (rest := _) h'⟩
end Go.Proofs.YtpphjddljngkmaaDoor
