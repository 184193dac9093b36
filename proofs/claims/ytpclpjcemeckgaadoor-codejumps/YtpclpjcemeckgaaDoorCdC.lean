/- What puts an expression's text on the stack, and its place on the places. -/
import Derived.Test.YtpclpjcemeckgaaDoorCdB
namespace Go.Proofs.YtpclpjcemeckgaaDoor
open Go.RowKit

theorem firstTo_zero {f : Nat → Int} : ∀ {n : Nat}, firstTo f n = 0 → ∀ i, i < n → f i = 0
  | 0, _, i, hi => by omega
  | n + 1, h, i, hi => by
    have h : (if firstTo f n = 0 then f n else firstTo f n) = 0 := h
    by_cases h0 : firstTo f n = 0
    · rw [if_pos h0] at h
      rcases Nat.lt_or_ge i n with q | q
      · exact firstTo_zero h0 i q
      · obtain rfl : i = n := by omega
        exact h
    · rw [if_neg h0] at h; exact absurd h h0
theorem badX_err {T : PT} (h : T.badX = 0) : errX T = 0 := by
  rw [T.badX_eq] at h
  by_cases h0 : errX T = 0
  · exact h0
  · rw [if_neg h0] at h; exact h
theorem badX_kid {T : PT} (h : T.badX = 0) (i : Nat) (hi : i < T.len) : (T.kid i).badX = 0 := by
  have h0 := badX_err h
  rw [T.badX_eq, if_pos h0] at h
  exact firstTo_zero h i hi
theorem cnt_room {T : PT} {N m : Nat} (h : m + 2 * T.cnt ≤ N) (k : Nat) (hk : k < T.len) : m + 1 + (kidI T k).length + 2 * (T.kid k).cnt ≤ N := by
  have h1 : (kidI T k).length ≤ sumTo (fun i => 2 * (T.kid i).cnt) k := flat_len_le k fun i _ => (T.kid i).cod_len
  rw [sumTo_two] at h1
  have h2 : sumTo (fun i => (T.kid i).cnt) (k + 1) ≤ sumTo (fun i => (T.kid i).cnt) T.len := sumTo_le _ hk
  have h3 : sumTo (fun i => (T.kid i).cnt) (k + 1) = sumTo (fun i => (T.kid i).cnt) k + (T.kid k).cnt := rfl
  have h4 := T.cnt_eq
  omega
def CodSays (T : PT) : Prop := ∀ (B z bl n : Nat) (pv : Value) (fl : ByteArray → Option Int) (out : List IN) (sts : List Nat) (w : World) (g o : Nat), MkM B z bl n pv fl out sts w → XE B w g o T → T.badX = 0 → out.length + 2 * T.cnt ≤ 100000000 →
    Calls Tryd.prog 20 #[.pointer (some ⟨z, 0, none⟩), .pointer (some ⟨g, o, none⟩)] w (MkPost B z bl n pv fl (out ++ T.cod) sts w)
set_option maxRecDepth 100000 in
set_option maxHeartbeats 4000000 in
theorem cod_step (T : PT) (ih : ∀ i, i < T.len → CodSays (T.kid i)) : CodSays T := by
  intro B z bl n pv fl out sts w g o hM hX hb hl
  have hmax : T.len ≤ 100000000 := by have := T.len_lt; omega
  have c0 := hX.cells.1
  have c4 := hX.cells.2.2.2.2
  have HIH := hide ih
  have HK := hide (fun i hi => badX_kid hb i hi)
  have HE0 := hide (badX_err hb)
  have HX := hide hX
  have HM := hide hM
  have HLN := hide (cnt_room hl)
  have HL := hide hl
  have HTL := hide (kidI_len T (Nat.le_refl _))
  have HCO := hide (show ∀ O, O = out ++ negI T → out ++ T.cod = (O ++ kidI T T.len) ++ [lastI T] from fun O q => by rw [q, T.cod_eq]; simp [List.append_assoc])
  generalize out ++ T.cod = res at *
  by_cases h7 : T.k = 7
  · rw [h7] at c0
    have HN := hide (show out ++ [iT 2 tNul] = out ++ negI T by unfold negI; rw [if_pos h7])
    have HA := hide (show Calls Tryd.prog 10 #[.pointer (some ⟨z, 0, none⟩), .agg #[.int .i64 2, .string ⟨#[48]⟩, .int .i64 0, .int .i64 0]] w (MkPost B z bl n pv fl (out ++ [iT 2 tNul]) sts w) from adI_any w (iT 2 tNul) hM (by omega))
    have HOL := hide (show (out ++ [iT 2 tNul]).length = out.length + 1 by simp)
    generalize out ++ [iT 2 tNul] = out1 at *
    clear hM hX ih hb hl h7
    go_enter Tryd.func20, Tryd.ntmps20
    go_wp2_with fail
    refine (unhide HA).mono ?_
    rintro e w0 ⟨rfl, hM0, hb0⟩
    have HS0 := hide (And.intro hM0 hb0)
    have d4 := ((unhide HX).next hb0).cells.2.2.2.2
    clear hM0 hb0 c0 c4
    go_wp2_with fail
    go_loopw [18] (fun i wr => ∃ k : Nat, k ≤ T.len ∧ i = .int .i64 (k : Int) ∧ Hid (MkM B z bl n pv fl (out1 ++ kidI T k) sts wr ∧ Below B w wr)) (fun i _ => T.len - (intOf i).toNat)
    case atStart => exact ⟨0, by omega, rfl, by rw [show kidI T 0 = [] from rfl, List.append_nil]; exact unhide HS0⟩
    case round =>
      obtain ⟨k, hk, rfl, HI⟩ := hrel
      have hX := (unhide HX).next (unhide HI).2
      have c4 := hX.cells.2.2.2.2
      rcases Nat.lt_or_ge k T.len with hkt | hkt
      · have hia := kidx_at (hX.in_ wr (Below.refl _ _)) hkt
        have hln := kidI_len T (m := k + 1) hkt
        have hcl := (T.kid k).cod_len
        have HC := hide (unhide HIH k hkt B z bl n pv fl (out1 ++ kidI T k) sts wr T.b (T.o + k * 5) (unhide HI).1 (hX.kid hkt) (unhide HK k hkt) (by have := unhide HLN k hkt; have h9 := unhide HOL; rw [List.length_append]; omega))
        have HE := hide (show out1 ++ kidI T k ++ (T.kid k).cod = out1 ++ kidI T (k + 1) by rw [kidI_succ, List.append_assoc])
        generalize out1 ++ kidI T k ++ (T.kid k).cod = out2 at *
        clear hX hln hcl
        go_wp2_with fail
        refine (unhide HC).mono ?_
        rintro e w2 ⟨rfl, hM2, hb2⟩
        have HI2 := hide (show MkM B z bl n pv fl (out1 ++ kidI T (k + 1)) sts w2 ∧ Below B w w2 from ⟨by rw [← unhide HE]; exact hM2, (unhide HI).2.trans hb2⟩)
        clear hM2 hb2
        go_wp2_with fail
        exact ⟨⟨k + 1, by omega, by go_num, unhide HI2⟩, by simp [intOf]; omega⟩
      · obtain rfl : k = T.len := by omega
        have hI := hX.in_ wr (Below.refl _ _)
        have HLA := hide (last_any wr hX.cells (hX.ten wr (Below.refl _ _)) hI (unhide HE0))
        have HRES := hide (unhide HCO out1 (unhide HN))
        have HLL := hide (show (out1 ++ kidI T T.len).length ≤ 100000000 by rw [List.length_append]; have h1 := unhide HL; have h2 := unhide HTL; have h3 := unhide HOL; omega)
        generalize out1 ++ kidI T T.len = o2 at *
        generalize lastI T = x at *
        clear hX hI
        go_wp2_with fail
        refine (unhide HLA).mono ?_
        rintro e w2 ⟨rfl, hb2⟩
        have HA2 := hide (show Calls Tryd.prog 10 #[.pointer (some ⟨z, 0, none⟩), iV x] w2 (MkPost B z bl n pv fl (o2 ++ [x]) sts w2) from adI_any w2 x ((unhide HI).1.later hb2) (unhide HLL))
        have HB2 := hide ((unhide HI).2.trans (hb2.mono (unhide HI).1.le))
        clear hb2
        go_wp2_with fail
        refine (unhide HA2).mono ?_
        rintro e w3 ⟨rfl, hM3, hb3⟩
        have HZ := hide (show MkM B z bl n pv fl res sts w3 ∧ Below B w w3 from ⟨by rw [unhide HRES]; exact hM3, (unhide HB2).trans hb3⟩)
        clear hM3 hb3
        go_wp2_with fail
        go_end0
        exact ⟨rfl, unhide HZ⟩
  · have q7 : (T.k == 7) = false := by rw [beq_eq_false_iff_ne]; exact h7
    have HN := hide (show out = out ++ negI T by unfold negI; rw [if_neg h7, List.append_nil])
    have HOL := hide (show out.length ≤ out.length + 1 by omega)
    have HS0 := hide (And.intro hM (Below.refl B w))
    clear hM hX ih hb hl h7
    go_enter Tryd.func20, Tryd.ntmps20
    go_wp2_with fail
    go_loopw [18] (fun i wr => ∃ k : Nat, k ≤ T.len ∧ i = .int .i64 (k : Int) ∧ Hid (MkM B z bl n pv fl (out ++ kidI T k) sts wr ∧ Below B w wr)) (fun i _ => T.len - (intOf i).toNat)
    case atStart => exact ⟨0, by omega, rfl, by rw [show kidI T 0 = [] from rfl, List.append_nil]; exact unhide HS0⟩
    case round =>
      obtain ⟨k, hk, rfl, HI⟩ := hrel
      have hX := (unhide HX).next (unhide HI).2
      have c4 := hX.cells.2.2.2.2
      rcases Nat.lt_or_ge k T.len with hkt | hkt
      · have hia := kidx_at (hX.in_ wr (Below.refl _ _)) hkt
        have hln := kidI_len T (m := k + 1) hkt
        have hcl := (T.kid k).cod_len
        have HC := hide (unhide HIH k hkt B z bl n pv fl (out ++ kidI T k) sts wr T.b (T.o + k * 5) (unhide HI).1 (hX.kid hkt) (unhide HK k hkt) (by have := unhide HLN k hkt; rw [List.length_append]; omega))
        have HE := hide (show out ++ kidI T k ++ (T.kid k).cod = out ++ kidI T (k + 1) by rw [kidI_succ, List.append_assoc])
        generalize out ++ kidI T k ++ (T.kid k).cod = out2 at *
        clear hX hln hcl
        go_wp2_with fail
        refine (unhide HC).mono ?_
        rintro e w2 ⟨rfl, hM2, hb2⟩
        have HI2 := hide (show MkM B z bl n pv fl (out ++ kidI T (k + 1)) sts w2 ∧ Below B w w2 from ⟨by rw [← unhide HE]; exact hM2, (unhide HI).2.trans hb2⟩)
        clear hM2 hb2
        go_wp2_with fail
        exact ⟨⟨k + 1, by omega, by go_num, unhide HI2⟩, by simp [intOf]; omega⟩
      · obtain rfl : k = T.len := by omega
        have hI := hX.in_ wr (Below.refl _ _)
        have HLA := hide (last_any wr hX.cells (hX.ten wr (Below.refl _ _)) hI (unhide HE0))
        have HRES := hide (unhide HCO out (unhide HN))
        have HLL := hide (show (out ++ kidI T T.len).length ≤ 100000000 by rw [List.length_append]; have h1 := unhide HL; have h2 := unhide HTL; have h3 := unhide HOL; omega)
        generalize out ++ kidI T T.len = o2 at *
        generalize lastI T = x at *
        clear hX hI
        go_wp2_with fail
        refine (unhide HLA).mono ?_
        rintro e w2 ⟨rfl, hb2⟩
        have HA2 := hide (show Calls Tryd.prog 10 #[.pointer (some ⟨z, 0, none⟩), iV x] w2 (MkPost B z bl n pv fl (o2 ++ [x]) sts w2) from adI_any w2 x ((unhide HI).1.later hb2) (unhide HLL))
        have HB2 := hide ((unhide HI).2.trans (hb2.mono (unhide HI).1.le))
        clear hb2
        go_wp2_with fail
        refine (unhide HA2).mono ?_
        rintro e w3 ⟨rfl, hM3, hb3⟩
        have HZ := hide (show MkM B z bl n pv fl res sts w3 ∧ Below B w w3 from ⟨by rw [unhide HRES]; exact hM3, (unhide HB2).trans hb3⟩)
        clear hM3 hb3
        go_wp2_with fail
        go_end0
        exact ⟨rfl, unhide HZ⟩
theorem cod_any : ∀ T : PT, CodSays T := PT.ind cod_step
set_option maxRecDepth 100000 in
set_option maxHeartbeats 4000000 in
theorem place_any (T : PT) (B z bl n : Nat) (pv : Value) (fl : ByteArray → Option Int) (out : List IN) (sts : List Nat) (w : World) (g o : Nat) (hM : MkM B z bl n pv fl out sts w) (hX : XE B w g o T) (hb : T.badX = 0) (hp : isPl T.k = true) (hl : out.length + 2 * T.cnt ≤ 100000000) :
    Calls Tryd.prog 21 #[.pointer (some ⟨z, 0, none⟩), .pointer (some ⟨g, o, none⟩)] w (MkPost B z bl n pv fl (out ++ plcI T) sts w) := by
  have hmax : T.len ≤ 100000000 := by have := T.len_lt; omega
  have c4 := hX.cells.2.2.2.2
  have HIH := hide (fun i (_ : i < T.len) => cod_any (T.kid i))
  have HK := hide (fun i hi => badX_kid hb i hi)
  have HE0 := hide (badX_err hb)
  have HX := hide hX
  have HLN := hide (cnt_room hl)
  have HL := hide hl
  have HTL := hide (kidI_len T (Nat.le_refl _))
  have HS0 := hide (And.intro hM (Below.refl B w))
  have HPL := hide (show T.k = 3 ∨ T.k = 4 ∨ T.k = 5 by unfold isPl at hp; simpa [or_assoc] using hp)
  have HCO := hide (show out ++ plcI T = (out ++ kidI T T.len) ++ plcE T by unfold plcI; rw [List.append_assoc])
  have HPE := hide (show plcE T = if T.k = 3 then [iT 9 T.nm] else if T.k = 4 then [iT 10 T.nm] else if T.k = 5 then [i0 11] else [] from rfl)
  have HOL := hide (show out.length ≤ out.length + 1 by omega)
  generalize out ++ plcI T = res at *
  generalize plcE T = pe at *
  clear hM hX hb hp hl
  go_enter Tryd.func21, Tryd.ntmps21
  go_wp2_with fail
  go_loopw [10] (fun i wr => ∃ k : Nat, k ≤ T.len ∧ i = .int .i64 (k : Int) ∧ Hid (MkM B z bl n pv fl (out ++ kidI T k) sts wr ∧ Below B w wr)) (fun i _ => T.len - (intOf i).toNat)
  case atStart => exact ⟨0, by omega, rfl, by rw [show kidI T 0 = [] from rfl, List.append_nil]; exact unhide HS0⟩
  case round =>
    obtain ⟨k, hk, rfl, HI⟩ := hrel
    have hX := (unhide HX).next (unhide HI).2
    have c4 := hX.cells.2.2.2.2
    rcases Nat.lt_or_ge k T.len with hkt | hkt
    · have hia := kidx_at (hX.in_ wr (Below.refl _ _)) hkt
      have hln := kidI_len T (m := k + 1) hkt
      have hcl := (T.kid k).cod_len
      have HC := hide (unhide HIH k hkt B z bl n pv fl (out ++ kidI T k) sts wr T.b (T.o + k * 5) (unhide HI).1 (hX.kid hkt) (unhide HK k hkt) (by have := unhide HLN k hkt; rw [List.length_append]; omega))
      have HE := hide (show out ++ kidI T k ++ (T.kid k).cod = out ++ kidI T (k + 1) by rw [kidI_succ, List.append_assoc])
      generalize out ++ kidI T k ++ (T.kid k).cod = out2 at *
      clear hX hln hcl
      go_wp2_with fail
      refine (unhide HC).mono ?_
      rintro e w2 ⟨rfl, hM2, hb2⟩
      have HI2 := hide (show MkM B z bl n pv fl (out ++ kidI T (k + 1)) sts w2 ∧ Below B w w2 from ⟨by rw [← unhide HE]; exact hM2, (unhide HI).2.trans hb2⟩)
      clear hM2 hb2
      go_wp2_with fail
      exact ⟨⟨k + 1, by omega, by go_num, unhide HI2⟩, by simp [intOf]; omega⟩
    · obtain rfl : k = T.len := by omega
      have hI := hX.in_ wr (Below.refl _ _)
      have HXA := hide hX.cells
      have e0 := hX.cells.1
      have HLL := hide (show (out ++ kidI T T.len).length ≤ 100000000 by rw [List.length_append]; have h1 := unhide HL; have h2 := unhide HTL; omega)
      have HMI := hide (unhide HI).1
      generalize out ++ kidI T T.len = o2 at *
      clear hX hI c4
      rcases unhide HPL with h3 | h3 | h3
      · have HNA := hide (named_in 9 wr (unhide HXA) (by have := errX_name (unhide HE0) (by simp [namedX, h3]); omega))
        rw [h3] at e0
        have HR := hide (show res = o2 ++ [iT 9 T.nm] by rw [unhide HCO, unhide HPE, if_pos h3])
        clear h3
        go_wp2_with fail
        refine (unhide HNA).mono ?_
        rintro e w2 ⟨rfl, hb2⟩
        have HA2 := hide (show Calls Tryd.prog 10 #[.pointer (some ⟨z, 0, none⟩), .agg #[.int .i64 9, .string T.nm, .int .i64 0, .int .i64 0]] w2 (MkPost B z bl n pv fl (o2 ++ [iT 9 T.nm]) sts w2) from adI_any w2 (iT 9 T.nm) ((unhide HMI).later hb2) (unhide HLL))
        have HB2 := hide ((unhide HI).2.trans (hb2.mono (unhide HMI).le))
        clear hb2
        go_wp2_with fail
        refine (unhide HA2).mono ?_
        rintro e w3 ⟨rfl, hM3, hb3⟩
        have HZ := hide (show MkM B z bl n pv fl res sts w3 ∧ Below B w w3 from ⟨by rw [unhide HR]; exact hM3, (unhide HB2).trans hb3⟩)
        clear hM3 hb3
        go_wp2_with fail
        go_end0
        exact ⟨rfl, unhide HZ⟩
      · have HNA := hide (named_in 10 wr (unhide HXA) (by have := errX_name (unhide HE0) (by simp [namedX, h3]); omega))
        rw [h3] at e0
        have HR := hide (show res = o2 ++ [iT 10 T.nm] by rw [unhide HCO, unhide HPE, if_neg (by omega), if_pos h3])
        clear h3
        go_wp2_with fail
        refine (unhide HNA).mono ?_
        rintro e w2 ⟨rfl, hb2⟩
        have HA2 := hide (show Calls Tryd.prog 10 #[.pointer (some ⟨z, 0, none⟩), .agg #[.int .i64 10, .string T.nm, .int .i64 0, .int .i64 0]] w2 (MkPost B z bl n pv fl (o2 ++ [iT 10 T.nm]) sts w2) from adI_any w2 (iT 10 T.nm) ((unhide HMI).later hb2) (unhide HLL))
        have HB2 := hide ((unhide HI).2.trans (hb2.mono (unhide HMI).le))
        clear hb2
        go_wp2_with fail
        refine (unhide HA2).mono ?_
        rintro e w3 ⟨rfl, hM3, hb3⟩
        have HZ := hide (show MkM B z bl n pv fl res sts w3 ∧ Below B w w3 from ⟨by rw [unhide HR]; exact hM3, (unhide HB2).trans hb3⟩)
        clear hM3 hb3
        go_wp2_with fail
        go_end0
        exact ⟨rfl, unhide HZ⟩
      · rw [h3] at e0
        have HR := hide (show res = o2 ++ [i0 11] by rw [unhide HCO, unhide HPE, if_neg (by omega), if_neg (by omega), if_pos h3])
        have HA2 := hide (show Calls Tryd.prog 10 #[.pointer (some ⟨z, 0, none⟩), .agg #[.int .i64 11, .string ⟨#[]⟩, .int .i64 0, .int .i64 0]] wr (MkPost B z bl n pv fl (o2 ++ [i0 11]) sts wr) from adI_any wr (i0 11) (unhide HMI) (unhide HLL))
        clear h3
        go_wp2_with fail
        refine (unhide HA2).mono ?_
        rintro e w3 ⟨rfl, hM3, hb3⟩
        have HZ := hide (show MkM B z bl n pv fl res sts w3 ∧ Below B w w3 from ⟨by rw [unhide HR]; exact hM3, (unhide HI).2.trans hb3⟩)
        clear hM3 hb3
        go_wp2_with fail
        go_end0
        exact ⟨rfl, unhide HZ⟩
end Go.Proofs.YtpclpjcemeckgaaDoor
