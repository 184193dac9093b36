/- What the document's own Digits, Read, Unbase and Base answer. -/
import Derived.Test.YtfjbafdgjpdbdaaDoorBigIntAdd
import Derived.Test.YtfjbafdgjpdbdaaDoorBigIntMul
import Derived.Test.YtfjbafdgjpdbdaaDoorBigGcd
import Derived.Test.YtfjbafdgjpdbdaaDoorFmtInt
import Derived.Lib.ConvBytes
import Derived.Lib.AtoiErrMem
namespace Go.Proofs.YtfjbafdgjpdbdaaDoor
open Go.RowKit

set_option maxHeartbeats 400000 in
theorem sign_any (x : Nat) (n : Int) (w : World) (hx : IntAt w x n) (lm : (wordsOf n.natAbs).length ≤ 10000000) :
    Calls Tryd.prog 28 #[ptr x] w fun e w' => e = .returned (.int .i64 (if n = 0 then 0 else if n < 0 then -1 else 1)) ∧ w' = w := by
  obtain ⟨v, hxr, hv⟩ := hx
  have x0 : w.cell? ⟨x, 0, none⟩ = some (.bool (decide (n < 0))) := by rw [cell_row hxr]; rfl
  have x1 : w.cell? ⟨x, 1, none⟩ = some v := by rw [cell_row hxr]; rfl
  obtain ⟨a, ca, rfl, hca, _⟩ := hv.slice
  have Z := wordsOf_len_zero n.natAbs
  generalize (wordsOf n.natAbs).length = p at *
  clear hxr hv
  by_cases h0 : n = 0
  · have hp : p = 0 := Z.2 (by omega)
    have H := hide (show (if n = 0 then (0 : Int) else if n < 0 then -1 else 1) = 0 by rw [if_pos h0])
    rw [unhide H]
    subst hp
    clear Z H
    go_enter Tryd.func28, Tryd.ntmps28
    go_wp2
    go_ret
    exact ⟨rfl, rfl⟩
  · have hp : p ≠ 0 := fun e => h0 (by have := Z.1 e; omega)
    have d1 : ((p : Int) == 0) = false := by simp; omega
    by_cases h1 : n < 0
    · have H := hide (show (if n = 0 then (0 : Int) else if n < 0 then -1 else 1) = -1 by rw [if_neg h0, if_pos h1])
      rw [unhide H]
      rw [decide_eq_true h1] at x0
      clear Z H
      go_enter Tryd.func28, Tryd.ntmps28
      go_wp2
      go_ret
      exact ⟨rfl, rfl⟩
    · have H := hide (show (if n = 0 then (0 : Int) else if n < 0 then -1 else 1) = 1 by rw [if_neg h0, if_neg h1])
      rw [unhide H]
      rw [decide_eq_false h1] at x0
      clear Z H
      go_enter Tryd.func28, Tryd.ntmps28
      go_wp2
      go_ret
      exact ⟨rfl, rfl⟩

set_option maxHeartbeats 4000000 in
theorem ineg_any (z x : Nat) (n : Int) (w : World) (hz : IntBlock w z) (hx : IntAt w x n) (lm : (wordsOf n.natAbs).length ≤ 10000000) :
    Calls Tryd.prog 23 #[ptr z, ptr x] w fun e w' => e = .returned (ptr z) ∧ IntAt w' z (-n) ∧ But z w w' := by
  obtain ⟨u, hxr, hu⟩ := hx
  have x0 : w.cell? ⟨x, 0, none⟩ = some (.bool (decide (n < 0))) := by rw [cell_row hxr]; rfl
  have x1 : w.cell? ⟨x, 1, none⟩ = some u := by rw [cell_row hxr]; rfl
  have C := hide (twin_any n.natAbs u w.drew hu.drew (by omega))
  have HS := hide (signedOf_not n)
  generalize decide (n < 0) = s at *
  have HZ := hide hz
  clear hxr hu hz
  go_enter Tryd.func23, Tryd.ntmps23
  go_wp2_with fail
  go_region_with
    (first
      | (go_at_call 47; refine (unhide C).mono ?_; rintro e w1 ⟨⟨r, rfl, hr⟩, hb⟩; have k0 := (hb.cell (p := ⟨x, 0, none⟩) (lt_of_cell x0)).trans x0)
      | (go_at_call 46; refine (give_any z n.natAbs _ _ _ ((unhide HZ).drew.below hb) hr (by omega)).mono ?_; rintro e w2 ⟨rfl, hi, hb2⟩))
  all_goals go_wp2
  all_goals go_ret
  all_goals exact ⟨rfl, by rw [← unhide HS]; exact hi, (But.of_below (undrew hb)).trans hb2⟩

theorem worth_len (base : Nat) (l : List UInt8) (h36 : base ≤ 36) (h : allIn base l = true) (hl : l.length ≤ 65536) : (wordsOf (worthIn base l)).length ≤ 65536 := by
  have h1 := worthIn_lt base l h
  have h2 : base ^ l.length ≤ 4294967296 ^ l.length := Nat.pow_le_pow_left (by omega) _
  exact Nat.le_trans (wordsOf_length_le _ l.length (Nat.lt_of_lt_of_le h1 h2)) hl

set_option maxRecDepth 100000 in
set_option maxHeartbeats 4000000 in
theorem refDigits_any (t : ByteArray) (base : Nat) (w : World) (ht : t.size ≤ 65536) (h1 : 2 ≤ base) (h2 : base ≤ 36) :
    Calls Tryd.prog 22 #[.string t, .int .i64 base] w fun e w' => ((allIn base t.data.toList = true ∧ e = .returned (.tuple #[ptr w.heap.size, .bool (decide (0 < t.size))]) ∧ IntAt w' w.heap.size (worthIn base t.data.toList : Int)) ∨ (allIn base t.data.toList = false ∧ e = .returned (.tuple #[.pointer none, .bool false]))) ∧ Below w.heap.size w w' := by
  have F := one_fresh w
  have hcv := Lib.run_convert_string_bytes (P := Tryd.prog) (w.alloc newObj) 9 67 5 t Tryd.underlying9 Tryd.underlying67 Tryd.underlying5
  rw [F.2.2] at hcv
  have hbw := Lib.bytesWorld_below (w.alloc newObj) 5 t
  have hcl : ∀ j, j < t.size → (Lib.bytesWorld (w.alloc newObj) 5 t).cell? ⟨w.heap.size + 1, j, none⟩ = some (.int .u8 ((t.data.toList.getD j 0).toNat : Int)) := fun j hj => by
    have := Lib.bytesWorld_cell (w.alloc newObj) 5 t j hj
    rw [F.2.2] at this; exact this
  have hI0 := hide (F.1.below hbw)
  have hB0 := bnext F.2.1 hbw
  have HCL := hide hcl
  generalize grownCap (w.alloc newObj) t.size 0 5 = cp at *
  generalize Lib.bytesWorld (w.alloc newObj) 5 t = W1 at *
  have BB := fun w => hide (refBig_any (base : Int) w (by unfold in64; omega))
  clear F hbw hcl
  go_enter Tryd.func22, Tryd.ntmps22
  go_wp2
  clear hcv
  go_loopw [14] (fun vi wr => ∃ k : Nat, k ≤ t.size ∧ vi = .int .i64 k ∧ Hid (IntAt wr w.heap.size (worthIn base (t.data.toList.take k) : Int)) ∧ Hid (allIn base (t.data.toList.take k) = true) ∧ Hid (∀ j, j < t.size → wr.cell? ⟨w.heap.size + 1, j, none⟩ = some (.int .u8 ((t.data.toList.getD j 0).toNat : Int))) ∧ Below w.heap.size w wr) (fun vi _ => t.size - (intOf vi).toNat)
  case atStart => exact ⟨0, Nat.zero_le _, rfl, hI0, hide rfl, HCL, hB0⟩
  case round =>
    clear hI0 HCL hB0
    obtain ⟨k, hk, rfl, I, HAL, HC, hb⟩ := hrel
    by_cases hlt : k < t.size
    · have hc := unhide HC k hlt
      rw [show t.data.toList.getD k 0 = t[k] by rw [List.getD_eq_getElem?_getD, List.getElem?_eq_getElem (by simpa using hlt)]; rfl] at hc
      have hsn := take_snoc t k hlt
      have HA := allIn_snoc base (t.data.toList.take k) t[k]
      have HW := worthIn_snoc base (t.data.toList.take k) t[k]
      rw [← hsn] at HA HW
      have htk := List.take_append_drop (k + 1) t.data.toList
      have hcb := UInt8.toNat_lt t[k]
      have hdv : digVal t[k] = if 48 ≤ t[k].toNat ∧ t[k].toNat ≤ 57 then t[k].toNat - 48 else if 97 ≤ t[k].toNat ∧ t[k].toNat ≤ 122 then t[k].toNat - 87 else 36 := rfl
      have hll : (t.data.toList.take k).length ≤ 65536 := by simp; omega
      have hwl := worth_len base _ h2 (unhide HAL) hll
      have hgl := (unhide I).block.lt
      have hg1 : w.heap.size + 1 < wr.heap.size := lt_of_cell hc
      obtain ⟨d, hd⟩ : ∃ d, d = digVal t[k] := ⟨_, rfl⟩
      rw [← hd] at HA HW hdv
      generalize t[k].toNat = c at *
      have HBAD : Hid (¬ d < base → allIn base t.data.toList = false) := by
        intro hdb
        rw [Bool.eq_false_iff]
        intro hall
        rw [← htk] at hall
        have := allIn_head base _ _ hall
        rw [HA, decide_eq_false hdb, Bool.and_false] at this
        cases this
      have HGOOD : Hid (d < base → allIn base (t.data.toList.take (k + 1)) = true) := by
        intro hdb
        rw [HA, unhide HAL, decide_eq_true hdb]; rfl
      have HWW := hide HW
      clear HA HW hsn htk hd
      have hway : (48 ≤ c ∧ c ≤ 57 ∧ (c : Int) - 48 = (d : Int) ∧ d < 37) ∨ (97 ≤ c ∧ c ≤ 122 ∧ (c : Int) - 97 + 10 = (d : Int) ∧ d < 37) ∨ (d = 36 ∧ (c < 48 ∨ (57 < c ∧ c < 97) ∨ 122 < c)) := by
        by_cases q1 : 48 ≤ c ∧ c ≤ 57
        · rw [if_pos q1] at hdv
          left; omega
        · by_cases q2 : 97 ≤ c ∧ c ≤ 122
          · rw [if_neg q1, if_pos q2] at hdv
            right; left; omega
          · rw [if_neg q1, if_neg q2] at hdv
            right; right; omega
      clear hdv
      by_cases hdb : d < base
      · have hway2 : (48 ≤ c ∧ c ≤ 57 ∧ (c : Int) - 48 = (d : Int)) ∨ (97 ≤ c ∧ c ≤ 122 ∧ (c : Int) - 97 + 10 = (d : Int) ∧ ¬ c ≤ 57 ∧ 48 ≤ c) := by omega
        have BD := fun w => hide (refBig_any (d : Int) w (by unfold in64; omega))
        have HG2 := hide (unhide HGOOD hdb)
        have lb : (wordsOf ((base : Int)).natAbs).length ≤ 2 := wordsOf_len_two (by rw [Int.natAbs_natCast]; omega)
        have ld : (wordsOf ((d : Int)).natAbs).length ≤ 2 := wordsOf_len_two (by rw [Int.natAbs_natCast]; omega)
        have lw : (wordsOf ((worthIn base (t.data.toList.take k) : Nat) : Int).natAbs).length ≤ 65536 := by rw [Int.natAbs_natCast]; exact hwl
        have lm : (wordsOf (((worthIn base (t.data.toList.take k) : Nat) : Int) * (base : Int)).natAbs).length ≤ 65540 := by
          rw [Int.natAbs_mul, Int.natAbs_natCast, Int.natAbs_natCast]
          have q1 := lt_wordsOf (worthIn base (t.data.toList.take k))
          have q3 := Nat.mul_lt_mul'' q1 (show base < 4294967296 by omega)
          rw [← Nat.pow_succ] at q3
          exact Nat.le_trans (wordsOf_length_le _ _ q3) (by omega)
        have hwe := hide (show ((worthIn base (t.data.toList.take k) : Nat) : Int) * (base : Int) + (d : Int) = ((worthIn base (t.data.toList.take (k + 1)) : Nat) : Int) by rw [unhide HWW]; simp)
        clear HBAD HGOOD hway hwl hll
        generalize ((worthIn base (t.data.toList.take k) : Nat) : Int) = W0 at *
        rcases hway2 with ⟨q1, q2, q3⟩ | ⟨q1, q2, q3, q4, q5⟩
        all_goals
          go_wp2_with fail
          refine (unhide (BB _)).mono ?_
          rintro e w2 ⟨rfl, hi2, hb2⟩
          have hI2 := (unhide I).below hb2
          have M := hide (imul_any w.heap.size w.heap.size wr.heap.size W0 (base : Int) w2 hI2.block hI2 hi2 (by omega) (by omega))
          have hc2 := hide (fun j hj => (hb2.cell (p := ⟨w.heap.size + 1, j, none⟩) hg1).trans (unhide HC j hj))
          have hs2 := hb2.size
          have hbb2 := bnext hb hb2
          have hIB2 := hide hI2.block
          clear hI2 hi2 hb2 hc
          go_wp2_with fail
          refine (unhide M).mono ?_
          rintro e w3 ⟨rfl, hi3, hb3⟩
          have hc3 := hide (fun j hj => (cell_but hb3 (x := w.heap.size + 1) (j := j) (by omega) (by show w.heap.size + 1 < w2.heap.size; omega)).trans (unhide hc2 j hj))
          have hbb3 := hbb2.trans (hb3.belowz (Nat.le_refl _) hbb2.size)
          have hs3 := hb3.size
          have HI3 := hide hi3
          clear M hi3 hb3 hIB2 hc2 hbb2
          go_wp2_with fail
          refine (unhide (BD _)).mono ?_
          rintro e w4 ⟨rfl, hi4, hb4⟩
          have hI4 := (unhide HI3).below hb4
          have Q := hide (iadd_any w.heap.size w.heap.size w3.heap.size (W0 * (base : Int)) (d : Int) w4 hI4.block hI4 hi4 (by omega) (by omega))
          rw [unhide hwe] at Q
          have hc4 := hide (fun j hj => (hb4.cell (p := ⟨w.heap.size + 1, j, none⟩) (by show w.heap.size + 1 < w3.heap.size; omega)).trans (unhide hc3 j hj))
          have hs4 := hb4.size
          have hbb4 := bnext hbb3 hb4
          clear hI4 hi4 hb4 HI3 hc3 hbb3
          go_wp2_with fail
          refine (unhide Q).mono ?_
          rintro e w5 ⟨rfl, hi5, hb5⟩
          have hc5 := hide (fun j hj => (cell_but hb5 (x := w.heap.size + 1) (j := j) (by omega) (by show w.heap.size + 1 < w4.heap.size; omega)).trans (unhide hc4 j hj))
          have hbb5 := hbb4.trans (hb5.belowz (Nat.le_refl _) hbb4.size)
          have HI5 := hide hi5
          clear Q hi5 hb5 hc4 hbb4
          go_wp2
          go_roundw
          case rel => exact ⟨k + 1, by omega, by go_num, HI5, HG2, hc5, hbb5⟩
          case measure => simp [intOf]; omega
      · have HB2 := hide (unhide HBAD hdb)
        clear HBAD HGOOD HWW
        have hway2 : (48 ≤ c ∧ c ≤ 57 ∧ (c : Int) - 48 = (d : Int)) ∨ (97 ≤ c ∧ c ≤ 122 ∧ (c : Int) - 97 + 10 = (d : Int) ∧ ¬ c ≤ 57 ∧ 48 ≤ c) ∨ (c < 48) ∨ (57 < c ∧ c < 97 ∧ 48 ≤ c) ∨ (122 < c ∧ 97 ≤ c ∧ 48 ≤ c ∧ ¬ c ≤ 57) := by omega
        clear hway
        rcases hway2 with ⟨q1, q2, q3⟩ | ⟨q1, q2, q3, q4, q5⟩ | q1 | ⟨q1, q2, q3⟩ | ⟨q1, q2, q3, q4⟩
        all_goals
          go_wp2
          go_ret2
          exact ⟨.inr ⟨unhide HB2, rfl⟩, hb⟩
    · obtain rfl : k = t.size := by omega
      have htk : t.data.toList.take t.size = t.data.toList := List.take_of_length_le (by simp)
      rw [htk] at I HAL
      clear htk
      go_wp2
      go_ret2
      exact ⟨.inl ⟨unhide HAL, rfl, unhide I⟩, hb⟩

theorem refDigits_way (t : ByteArray) (base : Nat) (w : World) (ht : t.size ≤ 65536) (h1 : 2 ≤ base) (h2 : base ≤ 36) :
    Calls Tryd.prog 22 #[.string t, .int .i64 base] w fun e w' => ((∃ p, e = .returned (.tuple #[p, .bool false]) ∧ ∀ s, digitsSaid base t.data.toList s = (0, 2)) ∨ (∃ W : Nat, e = .returned (.tuple #[ptr w.heap.size, .bool true]) ∧ IntAt w' w.heap.size (W : Int) ∧ (wordsOf W).length ≤ 65536 ∧ ∀ s, digitsSaid base t.data.toList s = within (if s then -(W : Int) else (W : Int)))) ∧ Below w.heap.size w w' := by
  refine (refDigits_any t base w ht h1 h2).mono ?_
  rintro e w' ⟨h, hb⟩
  refine ⟨?_, hb⟩
  rcases h with ⟨ha, rfl, hi⟩ | ⟨ha, rfl⟩
  · by_cases h0 : t.size = 0
    · left
      refine ⟨_, by rw [decide_eq_false (by omega)], fun s => ?_⟩
      have : t.data.toList = [] := List.eq_nil_of_length_eq_zero (by simpa using h0)
      simp [digitsSaid, this]
    · right
      have hne : t.data.toList ≠ [] := by
        intro e
        apply h0
        have := congrArg List.length e
        simpa using this
      exact ⟨_, by rw [decide_eq_true (by omega)], hi, worth_len base _ h2 ha (by simpa using ht), fun s => digitsSaid_ok base _ s hne ha⟩
  · left
    exact ⟨_, rfl, fun s => digitsSaid_bad base _ s ha⟩

theorem byte_is (b : UInt8) (k : UInt8) : ((b.toNat : Int) == (k.toNat : Int)) = decide (b = k) := by
  by_cases h : b = k
  · rw [h]; simp
  · rw [decide_eq_false h]
    simp only [beq_eq_false_iff_ne, ne_eq]
    intro e
    apply h
    apply UInt8.toNat_inj.1
    omega

set_option maxHeartbeats 400000 in
theorem refUnbase_no (t : ByteArray) (b : Int) (w : World) (h : b < 2 ∨ 36 < b) :
    Calls Tryd.prog 13 #[.string t, .int .i64 b] w fun e w' => e = .returned (pairOf (0, 3)) ∧ w' = w := by
  by_cases h1 : b < 2
  · clear h
    go_enter Tryd.func13, Tryd.ntmps13
    go_wp2
    go_ret2
    exact ⟨rfl, rfl⟩
  · have h2 : 36 < b := by omega
    clear h
    go_enter Tryd.func13, Tryd.ntmps13
    go_wp2
    go_ret2
    exact ⟨rfl, rfl⟩
set_option maxHeartbeats 400000 in
theorem refUnbase_much (t : ByteArray) (b : Int) (w : World) (hs : t.size ≤ maxLen) (hl : 65536 < t.size) (h1 : 2 ≤ b) (h2 : b ≤ 36) :
    Calls Tryd.prog 13 #[.string t, .int .i64 b] w fun e w' => e = .returned (pairOf (0, 4)) ∧ w' = w := by
  unfold maxLen at hs
  have d1 : decide (b < 2) = false := decide_eq_false (by omega)
  have d2 : decide (36 < b) = false := decide_eq_false (by omega)
  go_enter Tryd.func13, Tryd.ntmps13
  go_wp2
  go_ret2
  exact ⟨rfl, rfl⟩

set_option maxHeartbeats 2000000 in
theorem refUnbase_ok (t : ByteArray) (base : Nat) (w : World) (hl : t.size ≤ 65536) (h1 : 2 ≤ base) (h2 : base ≤ 36) :
    Calls Tryd.prog 13 #[.string t, .int .i64 base] w fun e w' => e = .returned (pairOf (unbaseIn base t.data.toList)) ∧ Below w.heap.size w w' := by
  have d1 : decide ((base : Int) < 2) = false := decide_eq_false (by omega)
  have d2 : decide (36 < (base : Int)) = false := decide_eq_false (by omega)
  obtain ⟨q, hq⟩ : ∃ q, q = unbaseIn base t.data.toList := ⟨_, rfl⟩
  rw [← hq]
  by_cases hs : 0 < t.size ∧ ∀ h : 0 < t.size, t[0] = 45
  · obtain ⟨hp, h45⟩ := hs
    have h45 := h45 hp
    have hfb := first_byte t hp
    have hp' : (0 : Int) < (t.size : Int) := by omega
    have hel : (t.extract 1 t.size).size ≤ 65536 := by rw [ByteArray.size_extract]; omega
    have D := hide (refDigits_way (t.extract 1 t.size) base w hel h1 h2)
    have hc : ((t[0].toNat : Int) == 45) = true := by have := byte_is t[0] 45; rw [decide_eq_true h45] at this; exact this
    have HQ := hide (show q = digitsSaid base (t.extract 1 t.size).data.toList true by rw [hq, hfb]; simp [unbaseIn, h45])
    clear hq hfb h45
    go_enter Tryd.func13, Tryd.ntmps13
    go_wp2_with fail
    refine (unhide D).mono ?_
    rintro e w1 ⟨hh, hb⟩
    rcases hh with ⟨p, rfl, hbad⟩ | ⟨W, rfl, hi, hlw, hok⟩
    · have H := hide ((unhide HQ).trans (hbad true))
      clear hbad
      go_wp2
      go_ret2
      exact ⟨ret_pair (unhide H), hb⟩
    · have H := hide ((unhide HQ).trans (hok true))
      simp only [if_true] at H
      have NG := hide (ineg_any w.heap.size w.heap.size (W : Int) w1 hi.block hi (by rw [Int.natAbs_natCast]; omega))
      clear hok hi
      go_wp2_with fail
      refine (unhide NG).mono ?_
      rintro e w2 ⟨rfl, hi2, hb2⟩
      have WI := hide (refWithin_any w.heap.size (-(W : Int)) w2 hi2 (by rw [Int.natAbs_neg, Int.natAbs_natCast]; omega))
      have hbb := hb.trans (hb2.belowz (Nat.le_refl _) hb.size)
      rw [← unhide H] at WI
      clear NG hi2 hb2
      go_wp2_with fail
      refine (unhide WI).mono ?_
      rintro e w2 ⟨rfl, rfl⟩
      go_wp2
      go_ret2
      exact ⟨rfl, hbb⟩
  · have D := hide (refDigits_way t base w hl h1 h2)
    have HQ := hide (show q = digitsSaid base t.data.toList false by
      rw [hq]
      by_cases h0 : t.size = 0
      · rw [show t.data.toList = [] from List.eq_nil_of_length_eq_zero (by simpa using h0)]; rfl
      · have hp : 0 < t.size := by omega
        have h45 : t[0] ≠ 45 := fun e => hs ⟨hp, fun _ => e⟩
        rw [first_byte t hp]; simp [unbaseIn, h45])
    have hway : t.size = 0 ∨ (0 < t.size ∧ ∀ h : 0 < t.size, ((t[0].toNat : Int) == 45) = false) := by
      by_cases h0 : t.size = 0
      · exact .inl h0
      · refine .inr ⟨by omega, fun hp => ?_⟩
        have := byte_is t[0] 45
        rw [decide_eq_false (fun e => hs ⟨hp, fun _ => e⟩)] at this
        exact this
    clear hq hs
    rcases hway with h0 | ⟨hp, hc⟩
    · have d0 : decide (0 < t.size) = false := decide_eq_false (by omega)
      go_enter Tryd.func13, Tryd.ntmps13
      go_wp2_with fail
      refine (unhide D).mono ?_
      rintro e w1 ⟨hh, hb⟩
      rcases hh with ⟨p, rfl, hbad⟩ | ⟨W, rfl, hi, hlw, hok⟩
      · have H := hide ((unhide HQ).trans (hbad false))
        clear hbad
        go_wp2
        go_ret2
        exact ⟨ret_pair (unhide H), hb⟩
      · have H := hide ((unhide HQ).trans (hok false))
        simp only [Bool.false_eq_true, if_false] at H
        have WI := hide (refWithin_any w.heap.size (W : Int) w1 hi (by rw [Int.natAbs_natCast]; omega))
        rw [← unhide H] at WI
        clear hok hi
        go_wp2_with fail
        refine (unhide WI).mono ?_
        rintro e w1 ⟨rfl, rfl⟩
        go_wp2
        go_ret2
        exact ⟨rfl, hb⟩
    · have hc := hc hp
      have hp' : (0 : Int) < (t.size : Int) := by omega
      go_enter Tryd.func13, Tryd.ntmps13
      go_wp2_with fail
      refine (unhide D).mono ?_
      rintro e w1 ⟨hh, hb⟩
      rcases hh with ⟨p, rfl, hbad⟩ | ⟨W, rfl, hi, hlw, hok⟩
      · have H := hide ((unhide HQ).trans (hbad false))
        clear hbad
        go_wp2
        go_ret2
        exact ⟨ret_pair (unhide H), hb⟩
      · have H := hide ((unhide HQ).trans (hok false))
        simp only [Bool.false_eq_true, if_false] at H
        have WI := hide (refWithin_any w.heap.size (W : Int) w1 hi (by rw [Int.natAbs_natCast]; omega))
        rw [← unhide H] at WI
        clear hok hi
        go_wp2_with fail
        refine (unhide WI).mono ?_
        rintro e w1 ⟨rfl, rfl⟩
        go_wp2
        go_ret2
        exact ⟨rfl, hb⟩

theorem trimS_ahead (b : UInt8) (r : List UInt8) (h : [32, 9].contains b = true) : Lib.trimS (b :: r) [32, 9] = Lib.trimS r [32, 9] := by
  unfold Lib.trimS Lib.trimLeftS Lib.trimRightS
  rw [List.reverse_cons, List.dropWhile_append]
  split
  · rename_i he
    rw [List.isEmpty_iff] at he
    rw [he]
    simp only [List.dropWhile_cons, h, List.dropWhile_nil, List.reverse_nil, if_true]
  · rw [List.reverse_append, List.reverse_singleton, List.singleton_append, List.dropWhile_cons, h]
    simp
theorem trimS_behind (b : UInt8) (r : List UInt8) (h : [32, 9].contains b = true) : Lib.trimS (r ++ [b]) [32, 9] = Lib.trimS r [32, 9] := by
  unfold Lib.trimS Lib.trimLeftS Lib.trimRightS
  rw [List.reverse_append, List.reverse_singleton, List.singleton_append, List.dropWhile_cons, h]
  simp
theorem blank_is (b : UInt8) (h : b = 32 ∨ b = 9) : [32, 9].contains b = true := by rcases h with rfl | rfl <;> decide
theorem blank_not (b : UInt8) (h : b ≠ 32) (h' : b ≠ 9) : [32, 9].contains b = false := by simp [h, h']
theorem trimB_ahead (s : ByteArray) (h : 0 < s.size) (hb : s[0] = 32 ∨ s[0] = 9) : trimB (s.extract 1 s.size) = trimB s := by
  unfold trimB
  rw [first_byte s h, trimS_ahead _ _ (blank_is _ hb)]
theorem trimB_behind (s : ByteArray) (h : 0 < s.size) (hb : s[s.size - 1] = 32 ∨ s[s.size - 1] = 9) : trimB (s.extract 0 (s.size - 1)) = trimB s := by
  unfold trimB
  have e : s.data.toList = (s.extract 0 (s.size - 1)).data.toList ++ [s[s.size - 1]] := by
    have h1 := take_snoc s (s.size - 1) (by omega)
    rw [show s.size - 1 + 1 = s.size by omega, List.take_of_length_le (by simp)] at h1
    rw [h1, ByteArray.data_extract]
    simp [List.dropLast_eq_take]
  rw [e, trimS_behind _ _ (blank_is _ hb)]
theorem trimB_stop (s : ByteArray) (h : 0 < s.size) (h1 : s[0] ≠ 32 ∧ s[0] ≠ 9) (h2 : s[s.size - 1] ≠ 32 ∧ s[s.size - 1] ≠ 9) : trimB s = s := by
  have e : s.data.toList = (s.extract 0 (s.size - 1)).data.toList ++ [s[s.size - 1]] := by
    have h1 := take_snoc s (s.size - 1) (by omega)
    rw [show s.size - 1 + 1 = s.size by omega, List.take_of_length_le (by simp)] at h1
    rw [h1, ByteArray.data_extract]
    simp [List.dropLast_eq_take]
  have e2 : Lib.trimRightS s.data.toList [32, 9] = s.data.toList := by
    unfold Lib.trimRightS
    rw [e, List.reverse_append, List.reverse_singleton, List.singleton_append, List.dropWhile_cons, blank_not _ h2.1 h2.2]
    simp
  have e3 : Lib.trimLeftS s.data.toList [32, 9] = s.data.toList := by
    unfold Lib.trimLeftS
    rw [first_byte s h, List.dropWhile_cons, blank_not _ h1.1 h1.2]
    simp
  unfold trimB Lib.trimS
  rw [e2, e3]
theorem trimB_empty (s : ByteArray) (h : s.size = 0) : trimB s = s := by
  have e : s.data.toList = [] := List.eq_nil_of_length_eq_zero (by simpa using h)
  apply ByteArray.ext
  unfold trimB
  rw [e]
  have : s.data = #[] := by apply Array.eq_empty_of_size_eq_zero; simpa using h
  rw [this]; rfl

set_option maxHeartbeats 400000 in
theorem refRead_much (t : ByteArray) (w : World) (hs : t.size ≤ maxLen) (hl : 65536 < t.size) :
    Calls Tryd.prog 8 #[.string t] w fun e w' => e = .returned (pairOf (0, 4)) ∧ w' = w := by
  unfold maxLen at hs
  go_enter Tryd.func8, Tryd.ntmps8
  go_wp2
  go_ret2
  exact ⟨rfl, rfl⟩

set_option maxHeartbeats 4000000 in
theorem refRead_ok (t : ByteArray) (w : World) (hl : t.size ≤ 65536) :
    Calls Tryd.prog 8 #[.string t] w fun e w' => e = .returned (pairOf (readIn (trimB t).data.toList)) ∧ Below w.heap.size w w' := by
  obtain ⟨q, hq⟩ : ∃ q, q = readIn (trimB t).data.toList := ⟨_, rfl⟩
  rw [← hq]
  have HQ := hide hq
  clear hq
  go_enter Tryd.func8, Tryd.ntmps8
  go_wp2
  go_loop [0] (fun v => ∃ s : ByteArray, s.size ≤ 65536 ∧ v = .string s ∧ Hid (trimB s = trimB t)) (fun v => match v with | .string s => s.size | _ => 0)
  case atStart => exact ⟨t, hl, rfl, hide rfl⟩
  case round =>
    obtain ⟨s, hs, rfl, HT⟩ := hrel
    by_cases hblank : 0 < s.size ∧ ∀ h : 0 < s.size, (s[0] = 32 ∨ s[0] = 9)
    · obtain ⟨hp, hbl⟩ := hblank
      have hbl := hbl hp
      have hp' : (0 : Int) < (s.size : Int) := by omega
      have H2 := hide ((trimB_ahead s hp hbl).trans (unhide HT))
      have b32 := byte_is s[0] 32
      have b9 := byte_is s[0] 9
      rw [show ((32 : UInt8).toNat : Int) = 32 from rfl] at b32
      rw [show ((9 : UInt8).toNat : Int) = 9 from rfl] at b9
      have hsz : (s.extract 1 s.size).size = s.size - 1 := by rw [ByteArray.size_extract]; omega
      rcases hbl with h | h
      · rw [decide_eq_true h] at b32
        clear b9 h
        go_wp2
        go_round
        case rel => exact ⟨_, by omega, rfl, H2⟩
        case measure => show (s.extract 1 s.size).size < s.size; omega
      · rw [decide_eq_true h] at b9
        rw [decide_eq_false (by rw [h]; decide)] at b32
        clear h
        go_wp2
        go_round
        case rel => exact ⟨_, by omega, rfl, H2⟩
        case measure => show (s.extract 1 s.size).size < s.size; omega
    · have HF : Hid (∀ h : 0 < s.size, s[0] ≠ 32 ∧ s[0] ≠ 9) := fun h => ⟨fun e => hblank ⟨h, fun _ => .inl e⟩, fun e => hblank ⟨h, fun _ => .inr e⟩⟩
      by_cases h0 : s.size = 0
      · have d0 : decide (0 < s.size) = false := decide_eq_false (by omega)
        clear hblank
        go_wp2
        go_loop [0] (fun v => ∃ u : ByteArray, u.size ≤ 65536 ∧ v = .string u ∧ Hid (trimB u = trimB t) ∧ Hid (∀ h : 0 < u.size, u[0] ≠ 32 ∧ u[0] ≠ 9)) (fun v => match v with | .string u => u.size | _ => 0)
        case atStart => exact ⟨s, hs, rfl, HT, HF⟩
        case round =>
          clear hs HT HF
          obtain ⟨u, hu, rfl, HT, HF⟩ := hrel
          by_cases hblank : 0 < u.size ∧ ∀ h : 0 < u.size, (u[u.size - 1] = 32 ∨ u[u.size - 1] = 9)
          · obtain ⟨hp, hbl⟩ := hblank
            have hbl := hbl hp
            have hp' : (0 : Int) < (u.size : Int) := by omega
            have H2 := hide ((trimB_behind u hp hbl).trans (unhide HT))
            have hsz : (u.extract 0 (u.size - 1)).size = u.size - 1 := by rw [ByteArray.size_extract]; omega
            have HF2 : Hid (∀ h : 0 < (u.extract 0 (u.size - 1)).size, (u.extract 0 (u.size - 1))[0] ≠ 32 ∧ (u.extract 0 (u.size - 1))[0] ≠ 9) := by
              intro h
              rw [ByteArray.getElem_extract]
              simpa using unhide HF hp
            have b32 := byte_is u[u.size - 1] 32
            have b9 := byte_is u[u.size - 1] 9
            rw [show ((32 : UInt8).toNat : Int) = 32 from rfl] at b32
            rw [show ((9 : UInt8).toNat : Int) = 9 from rfl] at b9
            have hi1 : ((u.size : Int) - 1) = ((u.size - 1 : Nat) : Int) := by omega
            rcases hbl with h | h
            · rw [decide_eq_true h] at b32
              clear b9 h
              go_wp2
              go_round
              case rel => exact ⟨_, by omega, rfl, H2, HF2⟩
              case measure => show (u.extract 0 (u.size - 1)).size < u.size; omega
            · rw [decide_eq_true h] at b9
              rw [decide_eq_false (by rw [h]; decide)] at b32
              clear h
              go_wp2
              go_round
              case rel => exact ⟨_, by omega, rfl, H2, HF2⟩
              case measure => show (u.extract 0 (u.size - 1)).size < u.size; omega
          · by_cases h0 : u.size = 0
            · have H := hide (show q = (0, 0) by
                rw [unhide HQ, ← unhide HT, trimB_empty u h0, show u.data.toList = [] from List.eq_nil_of_length_eq_zero (by simpa using h0)]; rfl)
              have d0 : decide (0 < u.size) = false := decide_eq_false (by omega)
              clear hblank
              go_wp2
              go_ret2
              exact ⟨ret_pair (unhide H), Below.refl _ _⟩
            · have hp : 0 < u.size := by omega
              have hp' : (0 : Int) < (u.size : Int) := by omega
              have hlast : u[u.size - 1] ≠ 32 ∧ u[u.size - 1] ≠ 9 := ⟨fun e => hblank ⟨hp, fun _ => .inl e⟩, fun e => hblank ⟨hp, fun _ => .inr e⟩⟩
              have b32 := byte_is u[u.size - 1] 32
              have b9 := byte_is u[u.size - 1] 9
              rw [show ((32 : UInt8).toNat : Int) = 32 from rfl, decide_eq_false hlast.1] at b32
              rw [show ((9 : UInt8).toNat : Int) = 9 from rfl, decide_eq_false hlast.2] at b9
              have hi1 : ((u.size : Int) - 1) = ((u.size - 1 : Nat) : Int) := by omega
              have HR := hide (show q = readIn u.data.toList by rw [unhide HQ, ← unhide HT, trimB_stop u hp (unhide HF hp) hlast])
              have hfb := first_byte u hp
              have hel : (u.extract 1 u.size).size ≤ 65536 := by rw [ByteArray.size_extract]; omega
              have D1 := hide (refDigits_way (u.extract 1 u.size) 10 w hel (by omega) (by omega))
              have D2 := hide (refDigits_way u 10 w hu (by omega) (by omega))
              have hc45 := byte_is u[0] 45
              have hc43 := byte_is u[0] 43
              rw [show ((45 : UInt8).toNat : Int) = 45 from rfl] at hc45
              rw [show ((43 : UInt8).toNat : Int) = 43 from rfl] at hc43
              clear hblank hlast HT HF h0
              by_cases h1 : u[0] = 45
              · rw [decide_eq_true h1] at hc45
                have HS := hide (show q = digitsSaid 10 (u.extract 1 u.size).data.toList true by rw [unhide HR, hfb]; simp [readIn, h1])
                clear D2 hfb hc43 h1 HR
                go_wp2_with fail
                refine (unhide D1).mono ?_
                rintro e w1 ⟨hh, hb⟩
                rcases hh with ⟨p, rfl, hbad⟩ | ⟨W, rfl, hi, hlw, hok⟩
                · have H := hide ((unhide HS).trans (hbad true))
                  clear hbad
                  go_wp2
                  go_ret2
                  exact ⟨ret_pair (unhide H), hb⟩
                · have H := hide ((unhide HS).trans (hok true))
                  simp only [if_true] at H
                  have NG := hide (ineg_any w.heap.size w.heap.size (W : Int) w1 hi.block hi (by rw [Int.natAbs_natCast]; omega))
                  clear hok hi
                  go_wp2_with fail
                  refine (unhide NG).mono ?_
                  rintro e w2 ⟨rfl, hi2, hb2⟩
                  have WI := hide (refWithin_any w.heap.size (-(W : Int)) w2 hi2 (by rw [Int.natAbs_neg, Int.natAbs_natCast]; omega))
                  have hbb := hb.trans (hb2.belowz (Nat.le_refl _) hb.size)
                  rw [← unhide H] at WI
                  clear NG hi2 hb2
                  go_wp2_with fail
                  refine (unhide WI).mono ?_
                  rintro e w2 ⟨rfl, rfl⟩
                  go_wp2
                  go_ret2
                  exact ⟨rfl, hbb⟩
              · rw [decide_eq_false h1] at hc45
                by_cases h2 : u[0] = 43
                · rw [decide_eq_true h2] at hc43
                  have HS := hide (show q = digitsSaid 10 (u.extract 1 u.size).data.toList false by rw [unhide HR, hfb]; simp [readIn, h2])
                  clear D2 hfb h1 h2 HR
                  go_wp2_with fail
                  refine (unhide D1).mono ?_
                  rintro e w1 ⟨hh, hb⟩
                  rcases hh with ⟨p, rfl, hbad⟩ | ⟨W, rfl, hi, hlw, hok⟩
                  · have H := hide ((unhide HS).trans (hbad false))
                    clear hbad
                    go_wp2
                    go_ret2
                    exact ⟨ret_pair (unhide H), hb⟩
                  · have H := hide ((unhide HS).trans (hok false))
                    simp only [Bool.false_eq_true, if_false] at H
                    have WI := hide (refWithin_any w.heap.size (W : Int) w1 hi (by rw [Int.natAbs_natCast]; omega))
                    rw [← unhide H] at WI
                    clear hok hi
                    go_wp2_with fail
                    refine (unhide WI).mono ?_
                    rintro e w1 ⟨rfl, rfl⟩
                    go_wp2
                    go_ret2
                    exact ⟨rfl, hb⟩
                · rw [decide_eq_false h2] at hc43
                  have HS := hide (show q = digitsSaid 10 u.data.toList false by rw [unhide HR, hfb]; simp [readIn, h1, h2])
                  clear D1 hfb h1 h2 HR
                  go_wp2_with fail
                  refine (unhide D2).mono ?_
                  rintro e w1 ⟨hh, hb⟩
                  rcases hh with ⟨p, rfl, hbad⟩ | ⟨W, rfl, hi, hlw, hok⟩
                  · have H := hide ((unhide HS).trans (hbad false))
                    clear hbad
                    go_wp2
                    go_ret2
                    exact ⟨ret_pair (unhide H), hb⟩
                  · have H := hide ((unhide HS).trans (hok false))
                    simp only [Bool.false_eq_true, if_false] at H
                    have WI := hide (refWithin_any w.heap.size (W : Int) w1 hi (by rw [Int.natAbs_natCast]; omega))
                    rw [← unhide H] at WI
                    clear hok hi
                    go_wp2_with fail
                    refine (unhide WI).mono ?_
                    rintro e w1 ⟨rfl, rfl⟩
                    go_wp2
                    go_ret2
                    exact ⟨rfl, hb⟩
      · have hp : 0 < s.size := by omega
        have hp' : (0 : Int) < (s.size : Int) := by omega
        have hf := unhide HF hp
        have b32 := byte_is s[0] 32
        have b9 := byte_is s[0] 9
        rw [show ((32 : UInt8).toNat : Int) = 32 from rfl, decide_eq_false hf.1] at b32
        rw [show ((9 : UInt8).toNat : Int) = 9 from rfl, decide_eq_false hf.2] at b9
        clear hblank hf
        go_wp2
        go_loop [0] (fun v => ∃ u : ByteArray, u.size ≤ 65536 ∧ v = .string u ∧ Hid (trimB u = trimB t) ∧ Hid (∀ h : 0 < u.size, u[0] ≠ 32 ∧ u[0] ≠ 9)) (fun v => match v with | .string u => u.size | _ => 0)
        case atStart => exact ⟨s, hs, rfl, HT, HF⟩
        case round =>
          clear hs HT HF
          obtain ⟨u, hu, rfl, HT, HF⟩ := hrel
          by_cases hblank : 0 < u.size ∧ ∀ h : 0 < u.size, (u[u.size - 1] = 32 ∨ u[u.size - 1] = 9)
          · obtain ⟨hp, hbl⟩ := hblank
            have hbl := hbl hp
            have hp' : (0 : Int) < (u.size : Int) := by omega
            have H2 := hide ((trimB_behind u hp hbl).trans (unhide HT))
            have hsz : (u.extract 0 (u.size - 1)).size = u.size - 1 := by rw [ByteArray.size_extract]; omega
            have HF2 : Hid (∀ h : 0 < (u.extract 0 (u.size - 1)).size, (u.extract 0 (u.size - 1))[0] ≠ 32 ∧ (u.extract 0 (u.size - 1))[0] ≠ 9) := by
              intro h
              rw [ByteArray.getElem_extract]
              simpa using unhide HF hp
            have b32 := byte_is u[u.size - 1] 32
            have b9 := byte_is u[u.size - 1] 9
            rw [show ((32 : UInt8).toNat : Int) = 32 from rfl] at b32
            rw [show ((9 : UInt8).toNat : Int) = 9 from rfl] at b9
            have hi1 : ((u.size : Int) - 1) = ((u.size - 1 : Nat) : Int) := by omega
            rcases hbl with h | h
            · rw [decide_eq_true h] at b32
              clear b9 h
              go_wp2
              go_round
              case rel => exact ⟨_, by omega, rfl, H2, HF2⟩
              case measure => show (u.extract 0 (u.size - 1)).size < u.size; omega
            · rw [decide_eq_true h] at b9
              rw [decide_eq_false (by rw [h]; decide)] at b32
              clear h
              go_wp2
              go_round
              case rel => exact ⟨_, by omega, rfl, H2, HF2⟩
              case measure => show (u.extract 0 (u.size - 1)).size < u.size; omega
          · by_cases h0 : u.size = 0
            · have H := hide (show q = (0, 0) by
                rw [unhide HQ, ← unhide HT, trimB_empty u h0, show u.data.toList = [] from List.eq_nil_of_length_eq_zero (by simpa using h0)]; rfl)
              have d0 : decide (0 < u.size) = false := decide_eq_false (by omega)
              clear hblank
              go_wp2
              go_ret2
              exact ⟨ret_pair (unhide H), Below.refl _ _⟩
            · have hp : 0 < u.size := by omega
              have hp' : (0 : Int) < (u.size : Int) := by omega
              have hlast : u[u.size - 1] ≠ 32 ∧ u[u.size - 1] ≠ 9 := ⟨fun e => hblank ⟨hp, fun _ => .inl e⟩, fun e => hblank ⟨hp, fun _ => .inr e⟩⟩
              have b32 := byte_is u[u.size - 1] 32
              have b9 := byte_is u[u.size - 1] 9
              rw [show ((32 : UInt8).toNat : Int) = 32 from rfl, decide_eq_false hlast.1] at b32
              rw [show ((9 : UInt8).toNat : Int) = 9 from rfl, decide_eq_false hlast.2] at b9
              have hi1 : ((u.size : Int) - 1) = ((u.size - 1 : Nat) : Int) := by omega
              have HR := hide (show q = readIn u.data.toList by rw [unhide HQ, ← unhide HT, trimB_stop u hp (unhide HF hp) hlast])
              have hfb := first_byte u hp
              have hel : (u.extract 1 u.size).size ≤ 65536 := by rw [ByteArray.size_extract]; omega
              have D1 := hide (refDigits_way (u.extract 1 u.size) 10 w hel (by omega) (by omega))
              have D2 := hide (refDigits_way u 10 w hu (by omega) (by omega))
              have hc45 := byte_is u[0] 45
              have hc43 := byte_is u[0] 43
              rw [show ((45 : UInt8).toNat : Int) = 45 from rfl] at hc45
              rw [show ((43 : UInt8).toNat : Int) = 43 from rfl] at hc43
              clear hblank hlast HT HF h0
              by_cases h1 : u[0] = 45
              · rw [decide_eq_true h1] at hc45
                have HS := hide (show q = digitsSaid 10 (u.extract 1 u.size).data.toList true by rw [unhide HR, hfb]; simp [readIn, h1])
                clear D2 hfb hc43 h1 HR
                go_wp2_with fail
                refine (unhide D1).mono ?_
                rintro e w1 ⟨hh, hb⟩
                rcases hh with ⟨p, rfl, hbad⟩ | ⟨W, rfl, hi, hlw, hok⟩
                · have H := hide ((unhide HS).trans (hbad true))
                  clear hbad
                  go_wp2
                  go_ret2
                  exact ⟨ret_pair (unhide H), hb⟩
                · have H := hide ((unhide HS).trans (hok true))
                  simp only [if_true] at H
                  have NG := hide (ineg_any w.heap.size w.heap.size (W : Int) w1 hi.block hi (by rw [Int.natAbs_natCast]; omega))
                  clear hok hi
                  go_wp2_with fail
                  refine (unhide NG).mono ?_
                  rintro e w2 ⟨rfl, hi2, hb2⟩
                  have WI := hide (refWithin_any w.heap.size (-(W : Int)) w2 hi2 (by rw [Int.natAbs_neg, Int.natAbs_natCast]; omega))
                  have hbb := hb.trans (hb2.belowz (Nat.le_refl _) hb.size)
                  rw [← unhide H] at WI
                  clear NG hi2 hb2
                  go_wp2_with fail
                  refine (unhide WI).mono ?_
                  rintro e w2 ⟨rfl, rfl⟩
                  go_wp2
                  go_ret2
                  exact ⟨rfl, hbb⟩
              · rw [decide_eq_false h1] at hc45
                by_cases h2 : u[0] = 43
                · rw [decide_eq_true h2] at hc43
                  have HS := hide (show q = digitsSaid 10 (u.extract 1 u.size).data.toList false by rw [unhide HR, hfb]; simp [readIn, h2])
                  clear D2 hfb h1 h2 HR
                  go_wp2_with fail
                  refine (unhide D1).mono ?_
                  rintro e w1 ⟨hh, hb⟩
                  rcases hh with ⟨p, rfl, hbad⟩ | ⟨W, rfl, hi, hlw, hok⟩
                  · have H := hide ((unhide HS).trans (hbad false))
                    clear hbad
                    go_wp2
                    go_ret2
                    exact ⟨ret_pair (unhide H), hb⟩
                  · have H := hide ((unhide HS).trans (hok false))
                    simp only [Bool.false_eq_true, if_false] at H
                    have WI := hide (refWithin_any w.heap.size (W : Int) w1 hi (by rw [Int.natAbs_natCast]; omega))
                    rw [← unhide H] at WI
                    clear hok hi
                    go_wp2_with fail
                    refine (unhide WI).mono ?_
                    rintro e w1 ⟨rfl, rfl⟩
                    go_wp2
                    go_ret2
                    exact ⟨rfl, hb⟩
                · rw [decide_eq_false h2] at hc43
                  have HS := hide (show q = digitsSaid 10 u.data.toList false by rw [unhide HR, hfb]; simp [readIn, h1, h2])
                  clear D1 hfb h1 h2 HR
                  go_wp2_with fail
                  refine (unhide D2).mono ?_
                  rintro e w1 ⟨hh, hb⟩
                  rcases hh with ⟨p, rfl, hbad⟩ | ⟨W, rfl, hi, hlw, hok⟩
                  · have H := hide ((unhide HS).trans (hbad false))
                    clear hbad
                    go_wp2
                    go_ret2
                    exact ⟨ret_pair (unhide H), hb⟩
                  · have H := hide ((unhide HS).trans (hok false))
                    simp only [Bool.false_eq_true, if_false] at H
                    have WI := hide (refWithin_any w.heap.size (W : Int) w1 hi (by rw [Int.natAbs_natCast]; omega))
                    rw [← unhide H] at WI
                    clear hok hi
                    go_wp2_with fail
                    refine (unhide WI).mono ?_
                    rintro e w1 ⟨rfl, rfl⟩
                    go_wp2
                    go_ret2
                    exact ⟨rfl, hb⟩

set_option maxHeartbeats 400000 in
theorem refBase_no (n b : Int) (w : World) (h : b < 2 ∨ 36 < b) :
    Calls Tryd.prog 10 #[.int .i64 n, .int .i64 b] w fun e w' => e = .returned (.tuple #[.string ⟨#[]⟩, .int .i64 3]) ∧ w' = w := by
  by_cases h1 : b < 2
  · clear h
    go_enter Tryd.func10, Tryd.ntmps10
    go_wp2
    go_ret2
    exact ⟨rfl, rfl⟩
  · have h2 : 36 < b := by omega
    clear h
    go_enter Tryd.func10, Tryd.ntmps10
    go_wp2
    go_ret2
    exact ⟨rfl, rfl⟩

/-- How far the document's own writing has come. -/
def comeTo (base U u : Nat) (ds : List UInt8) : Prop := (ds = [] ∧ u = U) ∨ (ds ≠ [] ∧ ((u = 0 ∧ ds = inBase base U) ∨ (0 < u ∧ inBase base u ++ ds = inBase base U)))
theorem comeTo_step (base U u : Nat) (ds : List UInt8) (hb : 2 ≤ base) (hu : u < 18446744073709551616) (h : comeTo base U u ds) (hc : 0 < u ∨ ds = []) : comeTo base U (u / base) (digByte (u % base) :: ds) := by
  have key : inBase base u ++ ds = inBase base U := by
    rcases h with ⟨rfl, rfl⟩ | ⟨h1, ⟨h2, h3⟩ | ⟨h2, h3⟩⟩
    · simp
    · rcases hc with hc | hc
      · omega
      · exact absurd hc h1
    · exact h3
  right
  refine ⟨by simp, ?_⟩
  by_cases hs : u < base
  · left
    rw [inBase_small base u hs] at key
    exact ⟨Nat.div_eq_of_lt hs, by rw [Nat.mod_eq_of_lt hs]; simpa using key⟩
  · right
    rw [inBase_step base u hb hu (by omega)] at key
    exact ⟨Nat.div_pos (by omega) (by omega), by simpa using key⟩
theorem comeTo_end (base U : Nat) (ds : List UInt8) (h : comeTo base U 0 ds) (hd : ds ≠ []) : ds = inBase base U := by
  rcases h with ⟨h1, _⟩ | ⟨_, ⟨_, h3⟩ | ⟨h2, _⟩⟩
  · exact absurd h1 hd
  · exact h3
  · omega

theorem comeTo_len (base U u : Nat) (ds : List UInt8) (hb : 2 ≤ base) (hU : U < 18446744073709551616) (h : comeTo base U u ds) : ds.length ≤ 64 := by
  have hl := (inBase_len base U hb hU).1
  rcases h with ⟨rfl, _⟩ | ⟨_, ⟨_, h3⟩ | ⟨_, h3⟩⟩
  · simp
  · rw [h3]; exact hl
  · have := congrArg List.length h3
    simp at this
    omega
theorem enc_dig (d : Nat) (h : d < 36) : Utf8.encode ((digByte d).toNat : Int) = ⟨#[digByte d]⟩ := by
  have key : ∀ d : Fin 36, Utf8.encode ((digByte d.val).toNat : Int) = ⟨#[digByte d.val]⟩ := by decide
  exact key ⟨d, h⟩
theorem cat_dig (d : Nat) (ds : List UInt8) : (⟨#[digByte d]⟩ : ByteArray) ++ ⟨ds.toArray⟩ = ⟨(digByte d :: ds).toArray⟩ := by
  apply ByteArray.ext
  simp [ByteArray.data_append]
theorem cat_sign (ds : List UInt8) : (⟨#[45]⟩ : ByteArray) ++ ⟨ds.toArray⟩ = ⟨(45 :: ds).toArray⟩ := by
  apply ByteArray.ext
  simp [ByteArray.data_append]
theorem digByte_small (d : Nat) (h : d < 36) : (digByte d).toNat < 128 := by
  have key : ∀ d : Fin 36, (digByte d.val).toNat < 128 := by decide
  exact key ⟨d, h⟩

set_option maxRecDepth 100000 in
set_option maxHeartbeats 4000000 in
theorem refBase_ok (n : Int) (base : Nat) (w : World) (hn : in64 n) (h1 : 2 ≤ base) (h2 : base ≤ 36) :
    Calls Tryd.prog 10 #[.int .i64 n, .int .i64 base] w fun e w' => e = .returned (.tuple #[.string ⟨(baseText base n).toArray⟩, .int .i64 0]) ∧ Below w.heap.size w w' := by
  have d1 : decide ((base : Int) < 2) = false := decide_eq_false (by omega)
  have d2 : decide (36 < (base : Int)) = false := decide_eq_false (by omega)
  have hu : n.natAbs < 18446744073709551616 := by unfold in64 at hn; omega
  have ln : (wordsOf n.natAbs).length ≤ 2 := wordsOf_len_two hu
  have B := hide (refBig_any n w hn)
  have BB := fun w => hide (refBig_any (base : Int) w (by unfold in64; omega))
  obtain ⟨q, hq⟩ : ∃ q, q = (⟨(baseText base n).toArray⟩ : ByteArray) := ⟨_, rfl⟩
  rw [← hq]
  have HQ := hide hq
  clear hq
  go_enter Tryd.func10, Tryd.ntmps10
  go_wp2_with fail
  refine (unhide B).mono ?_
  rintro e w1 ⟨rfl, hi1, hb1⟩
  have SG := hide (sign_any w.heap.size n w1 hi1 (by omega))
  have AB := hide (iabs_any w.heap.size w.heap.size n w1 hi1.block hi1 (by omega))
  obtain ⟨sg, hsg⟩ : ∃ sg, sg = (if n = 0 then (0 : Int) else if n < 0 then -1 else 1) := ⟨_, rfl⟩
  rw [← hsg] at SG
  have dsg : decide (sg < 0) = decide (n < 0) := by
    rw [hsg]
    by_cases h0 : n = 0
    · subst h0; rfl
    · rw [if_neg h0]
      by_cases h3 : n < 0
      · rw [if_pos h3, decide_eq_true h3]; rfl
      · rw [if_neg h3, decide_eq_false h3]; rfl
  clear B hi1 hsg
  go_wp2_with fail
  refine (unhide SG).mono ?_
  rintro e w1 ⟨rfl, rfl⟩
  go_wp2_with fail
  refine (unhide AB).mono ?_
  rintro e w2 ⟨rfl, hi2, hb2⟩
  have hbb2 := hb1.trans (hb2.belowz (Nat.le_refl _) hb1.size)
  have HI2 := hide hi2
  obtain ⟨U, hU⟩ : ∃ U, U = n.natAbs := ⟨_, rfl⟩
  rw [← hU] at HI2 hu ln
  have HU := hide hU
  clear SG AB hi2 hb2 hb1 hU
  obtain ⟨neg, hneg⟩ : ∃ neg, neg = decide (n < 0) := ⟨_, rfl⟩
  rw [← hneg] at dsg ⊢
  have HNEG := hide hneg
  clear hneg
  go_wp2
  go_loopw [8] (fun v wr => ∃ (u : Nat) (ds : List UInt8) (str : ByteArray), v = .string str ∧ Hid (str = ⟨ds.toArray⟩) ∧ u < 18446744073709551616 ∧ Hid (IntAt wr w.heap.size (u : Int)) ∧ Hid (comeTo base U u ds) ∧ Below w.heap.size w wr) (fun v wr => 2 * sizeAt wr (ptr w.heap.size) + (match v with | .string s => (if s.size = 0 then 1 else 0) | _ => 0))
  case atStart => exact ⟨U, [], _, rfl, hide rfl, hu, HI2, hide (.inl ⟨rfl, rfl⟩), hbb2⟩
  case round =>
    clear HI2 hbb2
    obtain ⟨u, ds, str, rfl, HSTR, hul, I, CT, hb⟩ := hrel
    have SG := hide (sign_any w.heap.size (u : Int) wr (unhide I) (by rw [Int.natAbs_natCast]; exact Nat.le_trans (wordsOf_len_two hul) (by decide)))
    obtain ⟨sg, hsg⟩ : ∃ sg, sg = (if (u : Int) = 0 then (0 : Int) else if (u : Int) < 0 then -1 else 1) := ⟨_, rfl⟩
    rw [← hsg] at SG
    have dsz0 : str.size = ds.length := by rw [unhide HSTR]; show ds.toArray.size = _; simp
    have hdl := comeTo_len base U u ds h1 hu (unhide CT)
    have hss : str.size ≤ 64 := by omega
    have DSZ := hide dsz0
    clear dsz0 hdl
    by_cases hcond : 0 < u ∨ ds = []
    · have hst := hide (comeTo_step base U u ds h1 hul (unhide CT) hcond)
      have hd : u % base < base := Nat.mod_lt _ (by omega)
      have hq : u / base ≤ u := Nat.div_le_self _ _
      have hlt : u ≠ 0 → u / base < u := fun h => Nat.div_lt_self (by omega) (by omega)
      have F := one_fresh wr
      have BG := hide (refBig_any (base : Int) (wr.alloc newObj) (by unfold in64; omega))
      rw [F.2.2] at BG
      have hgl := (unhide I).block.lt
      have HF := hide F
      have hsgw : (0 < u ∧ sg = 1) ∨ (u = 0 ∧ ds = [] ∧ sg = 0) := by
        by_cases h0 : u = 0
        · right
          refine ⟨h0, ?_, by rw [hsg, h0]; rfl⟩
          rcases hcond with h | h
          · omega
          · exact h
        · left
          refine ⟨by omega, ?_⟩
          rw [hsg, if_neg (by omega), if_neg (by omega)]
      have HEM : Hid (str.size = 0 ∨ 0 < u) := by
        rcases hcond with h | h
        · exact .inr h
        · left; rw [unhide DSZ, h]; rfl
      have HME := hide (show sizeAt wr (ptr w.heap.size) = u by have := (unhide I).worth; rw [Int.natAbs_natCast] at this; exact this)
      clear hsg hcond F
      have hiE : sg = 1 ∨ (sg = 0 ∧ str.toList.isEmpty = true) := by
        rcases hsgw with ⟨_, h⟩ | ⟨_, h, h'⟩
        · exact .inl h
        · exact .inr ⟨h', isEmpty_true _ (by rw [unhide DSZ, h]; rfl)⟩
      clear hsgw
      have hdc : (u : Int).tmod (base : Int) = ((u % base : Nat) : Int) := by rw [Int.tmod_eq_emod_of_nonneg (by omega)]; rfl
      have hqc : (u : Int).tdiv (base : Int) = ((u / base : Nat) : Int) := by rw [Int.tdiv_eq_ediv_of_nonneg (by omega)]; rfl
      have hdn : u % base < 36 := by omega
      have hds36 : ((u % base : Nat) : Int) < 36 := by omega
      have hdig := dig_lit (u % base) hdn hdn
      have hlit := digByte_small (u % base) hdn
      rcases hiE with rfl | ⟨rfl, hE⟩
      all_goals
        go_wp2_with fail
        refine (unhide SG).mono ?_
        rintro e wr ⟨rfl, rfl⟩
        go_wp2_with fail
        refine (unhide BG).mono ?_
        rintro e w3 ⟨rfl, hi3, hb3⟩
        have hb3' : Below (wr.alloc newObj).heap.size (wr.alloc newObj) w3 := by rw [(unhide HF).2.2]; exact hb3
        have hw3 := bnext (unhide HF).2.1 hb3'
        have hI3 := (unhide I).below hw3
        have hR3 := (unhide HF).1.block.below hb3'
        have hs3 : wr.heap.size + 1 < w3.heap.size := hi3.block.lt
        have QR := hide (quoRem_any w.heap.size w.heap.size (wr.heap.size + 1) wr.heap.size (u : Int) (base : Int) w3 hI3.block hR3 (by omega) hI3 hi3 (by rw [Int.natAbs_natCast]; exact hul) (by rw [Int.natAbs_natCast]; omega) (by omega))
        rw [hdc, hqc] at QR
        have hbb3 := bnext hb hw3
        clear hi3 hb3 hb3' hI3 hR3
        go_wp2_with fail
        refine (unhide QR).mono ?_
        rintro e w4 ⟨rfl, hi4, hr4, hb4⟩
        have hbb4 := hbb3.trans (hb4.below (Nat.le_refl _) (by omega) hbb3.size)
        have IG := hide (int64_any wr.heap.size ((u % base : Nat) : Int) w4 hr4 (by unfold in64; omega))
        have HI4 := hide hi4
        have HME4 := hide (show sizeAt w4 (ptr w.heap.size) = u / base by have := hi4.worth; rw [Int.natAbs_natCast] at this; exact this)
        clear QR hi4 hr4 hb4 hbb3
        generalize u % base = d at *
        have henc := enc_dig d hdn
        have hcat := cat_dig d ds
        rw [← unhide HSTR] at hcat
        have HCAT := hide hcat
        have hcs : (⟨#[digByte d]⟩ : ByteArray).size = 1 := rfl
        clear hcat
        go_wp2_with fail
        refine (unhide IG).mono ?_
        rintro e w4 ⟨rfl, rfl⟩
        clear IG
        go_wp2
        refine ⟨⟨u / base, digByte d :: ds, _, rfl, HCAT, by omega, HI4, hst, hbb4⟩, ?_⟩
        rw [unhide HME4, unhide HME]
        have hne : ((⟨#[digByte d]⟩ : ByteArray) ++ str).size ≠ 0 := by rw [ByteArray.size_append, hcs]; omega
        simp only [if_neg hne]
        rcases unhide HEM with h | h
        · rw [if_pos h]; omega
        · have := hlt (by omega)
          omega
    · have hu0 : u = 0 := by
        by_cases h : u = 0
        · exact h
        · exact absurd (.inl (by omega)) hcond
      have hne : ds ≠ [] := fun h => hcond (.inr h)
      subst hu0
      have hsg0 : sg = 0 := by rw [hsg]; rfl
      subst hsg0
      have hE := isEmpty_false str (by rw [unhide DSZ]; intro h; exact hne (List.eq_nil_of_length_eq_zero h))
      have hL := comeTo_end base U ds (unhide CT) hne
      have HT := hide (show q = if neg then (⟨#[45]⟩ : ByteArray) ++ str else str by
        rw [unhide HQ, unhide HSTR, hL, unhide HU, unhide HNEG]
        unfold baseText
        by_cases h : n < 0
        · rw [if_pos h, decide_eq_true h, if_pos rfl]
          exact (cat_sign _).symm
        · rw [if_neg h, decide_eq_false h]; rfl)
      clear hsg hcond hne hL
      have hcs : (⟨#[45]⟩ : ByteArray).size = 1 := rfl
      cases neg
      · have HT2 := hide (show q = str from unhide HT)
        go_wp2_with fail
        refine (unhide SG).mono ?_
        rintro e wr ⟨rfl, rfl⟩
        go_wp2
        go_ret2
        exact ⟨by rw [unhide HT2]; rfl, hb⟩
      · have HT2 := hide (show q = (⟨#[45]⟩ : ByteArray) ++ str from unhide HT)
        go_wp2_with fail
        refine (unhide SG).mono ?_
        rintro e wr ⟨rfl, rfl⟩
        go_wp2
        go_ret2
        exact ⟨by rw [unhide HT2]; rfl, hb⟩
end Go.Proofs.YtfjbafdgjpdbdaaDoor
