/- What low, of, SetBit, Cmp and Sqrt do, as far as a root of a number of 63 bits needs them. -/
import Derived.Test.YtfjbafdgjpdbdaaBigGcd
import Derived.Laws.CopyOwn
import Derived.Laws.BitsAllLaws
namespace Go.Proofs.Ytfjbafdgjpdbdaa
open Go.RowKit

/-- A number's words, filled up with noughts. -/
def padWords (R n : Nat) : List Nat := wordsOf R ++ List.replicate (n - (wordsOf R).length) 0
theorem pad_len (R n : Nat) (h : (wordsOf R).length ≤ n) : (padWords R n).length = n := by simp [padWords]; omega
theorem pad_val (R n : Nat) : val (padWords R n) = R := by rw [padWords, val_append, val_zeros, val_wordsOf]; simp
theorem pad_small (R n : Nat) : small (padWords R n) := by
  intro x hx
  rcases List.mem_append.1 hx with hx | hx
  · exact small_wordsOf R x hx
  · have := List.eq_of_mem_replicate hx; omega
theorem pad_at (R n j : Nat) : (padWords R n).getD j 0 = R / 4294967296 ^ j % 4294967296 := by
  rw [← wordsOf_at, padWords, List.getD_eq_getElem?_getD, List.getD_eq_getElem?_getD]
  by_cases h : j < (wordsOf R).length
  · rw [List.getElem?_append_left h]
  · rw [List.getElem?_append_right (by omega), List.getElem?_eq_none (l := wordsOf R) (by omega), List.getElem?_replicate]
    split <;> rfl
/-- A row of words that a call has made. -/
def RowAt (w : World) (g : Nat) (ws : List Nat) : Prop := w.heap[g]? = some (.cells (ws.map wc).toArray 57 (0, 0))
theorem RowAt.cell {w : World} {g : Nat} {ws : List Nat} (h : RowAt w g ws) (j : Nat) (hj : j < ws.length) : w.cell? ⟨g, j, none⟩ = some (.int .u32 ((ws.getD j 0 : Nat) : Int)) := by
  rw [cell_row h]
  simp only [List.getElem?_toArray]
  exact cells_at ws j hj

theorem row_of_owned {w1 : World} {n g : Nat} {L : List Value} (hown : w1.ownsRow g 57 1 (.slice (some ⟨g, 0, none⟩) n n) n L) : w1.heap[g]? = some (.cells L.toArray 57 (0, 0)) := by
  obtain ⟨hl, h⟩ := hown
  rcases h with ⟨h, _⟩ | ⟨g', cap, cur, h, _, hg, _, _, hcs, ht⟩
  · cases h
  · injection h with h1 h2 h3
    injection h1 with h1
    injection h1 with h1
    subst h1 h3
    rw [Nat.mul_one] at hcs ht
    rw [List.take_of_length_le (by simp [hcs])] at ht
    rw [hg, ← ht]

set_option maxHeartbeats 1000000 in
theorem low_any (x R n : Nat) (w : World) (hx : IntAt w x (R : Int)) (hn : (wordsOf R).length ≤ n) (hn2 : n ≤ 1000) :
    Calls Try.prog 56 #[ptr x, .int .i64 n] w fun e w' => e = .returned (.slice (some ⟨w.heap.size, 0, none⟩) n n) ∧ RowAt w' w.heap.size (padWords R n) ∧ Below w.heap.size w w' := by
  obtain ⟨i0, hi, hz0, hz1, hz2⟩ := info_parts info32
  obtain ⟨v, hxr, hv⟩ := hx
  rw [Int.natAbs_natCast] at hv
  have hxl : x < w.heap.size := (Array.getElem?_eq_some_iff.1 hxr).1
  have x0 : w.cell? ⟨x, 0, none⟩ = some (.bool false) := by rw [cell_row hxr]; simp
  have x1 : w.cell? ⟨x, 1, none⟩ = some v := by rw [cell_row hxr]; rfl
  obtain ⟨a, ca, rfl, hca, Ha⟩ := hv.slice
  have HA := hide Ha
  clear hxr Ha hv
  have hsz : (Try.prog.info? 57).map (·.size) = some 1 := by rw [hi]; simp [hz1]
  have hmin := hide (show ((wordsOf R).map wc).length = Nat.min (wordsOf R).length n by rw [List.length_map]; exact (Nat.min_eq_left hn).symm)
  have hfit := hide (show 0 + ((wordsOf R).map wc).length ≤ (List.replicate n (Value.int IntKind.u32 0)).length by simp; omega)
  go_enter Try.func56, Try.ntmps56
  go_wp2_with (first
    | (at_make; refine wpList_make_full _ rfl _ _ 29 rfl w.heap.size 57 i0 (.int .u32 0) 1 Try.underlying29 hi hz0 hz1 .i64 .i64 _ _ n rfl rfl (by omega) (by omega) (by rw [hz2]; omega) (by unfold maxLen; omega) (by simp) ?_; intro w1 hown hgrow; simp only [Nat.mul_one, Value.cells] at hown; rw [toList_madeCells_one] at hown; have hb0 : Below w.heap.size w w1 := (Below.refl _ _).grown hgrow (by simp) (fun k hk => by cases hk); have hrow := row_of_owned hown; have y0 := (hb0.cell (p := ⟨x, 0, none⟩) hxl).trans x0; have y1 := (hb0.cell (p := ⟨x, 1, none⟩) hxl).trans x1; clear hgrow hown)
    | (refine wpList_copy_splice rfl _ _ 29 29 rfl 57 Try.underlying29 hsz (some ⟨w.heap.size, 0, none⟩) a n n (wordsOf R).length ca rfl rfl w.heap.size 0 (List.replicate n (Value.int IntKind.u32 0)) 57 hrow ((wordsOf R).map wc) (unhide hmin) ?_ (unhide hfit) ?_ w.heap.size w hb0 (Nat.le_refl _) ?_))
  · intro h0
    obtain ⟨b, rfl, _⟩ := unhide HA 0 h0
    refine ⟨_, rfl, fun j y hj => ?_⟩
    have hlt : j < (wordsOf R).length := (List.getElem?_eq_some_iff.1 hj).1
    obtain ⟨b', hb', hc⟩ := unhide HA j hlt
    cases hb'
    rw [add_zero_none, hb0.cell (lt_of_cell hc), hc, List.getD_eq_getElem?_getD, hj]
    rfl
  · intro v hv
    obtain ⟨y, _, rfl⟩ := List.mem_map.1 hv
    rfl
  · intro w2 hg hb2
    have z0 := (hb2.cell (p := ⟨x, 0, none⟩) hxl).trans x0
    have HR : Hid (RowAt w2 w.heap.size (padWords R n)) := by
      have := hg.out
      unfold RowAt padWords
      rw [this]
      congr 2
      simp [splice, wc]
    clear hg hrow y0 y1
    go_wp2
    go_ret
    exact ⟨rfl, unhide HR, hb2⟩

set_option maxHeartbeats 1000000 in
theorem of_any (z g : Nat) (ws : List Nat) (w : World) (hz : IntBlock w z) (hr : RowAt w g ws) (hs : small ws) (hl : 0 < ws.length) (hl2 : ws.length ≤ 1000) (ht : ws.getD (ws.length - 1) 0 < 2147483648) :
    Calls Try.prog 57 #[ptr z, .slice (some ⟨g, 0, none⟩) ws.length ws.length] w fun e w' => e = .returned (ptr z) ∧ IntAt w' z (val ws : Int) ∧ But z w w' := by
  have c := hr.cell (ws.length - 1) (by omega)
  have C := hide (trim_any ws g ws.length w hs (Nat.le_refl _) (by omega) (fun j hj => hr.cell j hj))
  have hvl := val_lt ws hs
  have hle := hide (wordsOf_length_le (val ws) _ hvl)
  obtain ⟨k, hk⟩ : ∃ k, ws.length = k + 1 := ⟨ws.length - 1, by omega⟩
  rw [hk] at c C ht hle hl2 ⊢
  rw [Nat.add_sub_cancel] at c ht
  obtain ⟨y, hy⟩ : ∃ y, y = ws.getD k 0 := ⟨_, rfl⟩
  rw [← hy] at c ht
  have d1 : ((y : Int) / 2147483648 == 1) = false := by simp; omega
  have d2 : (y : Int) / 2147483648 = 0 := by omega
  have HZ := hide hz
  clear hy hr hs hl hvl hz hk
  go_enter Try.func57, Try.ntmps57
  go_wp2_with fail
  refine (unhide C).mono ?_
  rintro e w1 ⟨⟨v, rfl, hv⟩, rfl⟩
  have G := hide (give_any z (val ws) false v w1 (unhide HZ) hv (by have := unhide hle; omega))
  go_wp2_with fail
  refine (unhide G).mono ?_
  rintro e w2 ⟨rfl, hi, hb⟩
  go_wp2
  go_ret
  exact ⟨rfl, hi, hb⟩

/-- A word whose bit is clear, with the bit cleared, and set. -/
theorem word_clear (y k : Nat) (hk : k < 32) (hy : y < 4294967296) (hm : y % 2 ^ (k + 1) = 0) : bits BinOp.andNot IntKind.u32 (y : Int) ((2 ^ k : Nat) : Int) = (y : Int) := by
  have hp : 2 ^ k < 4294967296 := by
    have := Nat.pow_lt_pow_right (a := 2) (by decide) hk
    omega
  rw [u32_andNot_nat y (2 ^ k) hy hp]
  congr 1
  apply Nat.eq_of_testBit_eq
  intro j
  rw [Nat.testBit_and, show 4294967295 - 2 ^ k = 2 ^ 32 - (2 ^ k + 1) by omega, Nat.testBit_two_pow_sub_succ (by omega)]
  by_cases hj : j < 32
  · by_cases e : j = k
    · subst e
      have : y.testBit j = false := by
        have h1 : y % 2 ^ (j + 1) / 2 ^ j % 2 = y / 2 ^ j % 2 := by
          rw [Nat.pow_succ, Nat.mod_mul_right_div_self, Nat.mod_mod]
        rw [hm] at h1
        simp at h1
        rw [Nat.testBit_eq_decide_div_mod_eq, ← h1]; rfl
      rw [this]; rfl
    · rw [Nat.testBit_two_pow_of_ne (Ne.symm e)]
      simp [hj]
  · have : y.testBit j = false := Nat.testBit_lt_two_pow (Nat.lt_of_lt_of_le hy (by have := Nat.pow_le_pow_right (n := 2) (by decide) (show 32 ≤ j by omega); omega))
    rw [this]; rfl
theorem word_set (y k : Nat) (hk : k < 32) (hy : y < 4294967296) (hm : y % 2 ^ (k + 1) = 0) : bits BinOp.or IntKind.u32 (y : Int) ((2 ^ k : Nat) : Int) = ((y + 2 ^ k : Nat) : Int) := by
  have hp : 2 ^ k < 2 ^ (k + 1) := Nat.pow_lt_pow_right (by decide) (by omega)
  have hp2 : 2 ^ k < 4294967296 := by
    have := Nat.pow_lt_pow_right (a := 2) (by decide) hk
    omega
  rw [bits_join .u32 32 (by decide) wraps_u32 (k + 1) (y : Int) ((2 ^ k : Nat) : Int) (by omega) (by exact_mod_cast hm) (by omega) (by omega) (by exact_mod_cast hp) (by omega)]
  omega

/-- The word of a number whose bits up to one are clear. -/
theorem setBit_word (R i q : Nat) (hi : i < 64) (hq : q = i / 32) (hm : R % 2 ^ (i + 1) = 0) : R / 4294967296 ^ q % 4294967296 % 2 ^ (i % 32 + 1) = 0 := by
  have hd : 2 ^ (i % 32 + 1) ∣ 4294967296 := by
    rw [show (4294967296 : Nat) = 2 ^ 32 by decide]; exact Nat.pow_dvd_pow 2 (by omega)
  rw [Nat.mod_mod_of_dvd _ hd]
  have h2 : q = 0 ∨ q = 1 := by omega
  rcases h2 with h | h
  · rw [h, Nat.pow_zero, Nat.div_one, show i % 32 = i by omega]; exact hm
  · rw [h, Nat.pow_one]
    rw [show i + 1 = 32 + (i % 32 + 1) by omega, Nat.pow_add, Nat.mod_mul] at hm
    rw [show (2 : Nat) ^ 32 = 4294967296 by decide] at hm
    omega
theorem setBit_room (y k : Nat) (hk : k < 32) (hy : y < 4294967296) (hm : y % 2 ^ (k + 1) = 0) : y + 2 ^ k < 4294967296 := by
  have e : (4294967296 : Nat) = 2 ^ (k + 1) * 2 ^ (31 - k) := by rw [← Nat.pow_add, show k + 1 + (31 - k) = 32 by omega]
  have hp : 2 ^ k < 2 ^ (k + 1) := Nat.pow_lt_pow_right (by decide) (by omega)
  have h1 : y = 2 ^ (k + 1) * (y / 2 ^ (k + 1)) := by have := Nat.div_add_mod y (2 ^ (k + 1)); omega
  have h2 : y / 2 ^ (k + 1) < 2 ^ (31 - k) := by
    apply Nat.div_lt_of_lt_mul; rw [← e]; exact hy
  have h3 := Nat.mul_le_mul_left (2 ^ (k + 1)) (show y / 2 ^ (k + 1) + 1 ≤ 2 ^ (31 - k) from h2)
  rw [← e, Nat.mul_add, Nat.mul_one] at h3
  omega
theorem setBit_pow (i q : Nat) (hq : q = i / 32) : 2 ^ (i % 32) * 4294967296 ^ q = 2 ^ i := by
  rw [show (4294967296 : Nat) = 2 ^ 32 by decide, ← Nat.pow_mul, ← Nat.pow_add, show i % 32 + 32 * q = i by omega]

theorem set_twice {w : World} {g : Nat} {ws : List Nat} (h : RowAt w g ws) (q y z : Nat) : RowAt ((w.setCell ⟨g, q, none⟩ (.int .u32 (y : Int))).setCell ⟨g, q, none⟩ (.int .u32 (z : Int))) g (ws.set q z) := by
  have h1 := heap_setCell_same w g q _ _ (.int .u32 (y : Int)) h
  have h2 := heap_setCell_same _ g q _ _ (.int .u32 (z : Int)) h1
  unfold RowAt
  rw [h2]
  congr 2
  rw [← cells_set]
  simp

set_option maxHeartbeats 2000000 in
theorem setBit_fresh (z x R i : Nat) (w : World) (hz : IntBlock w z) (hx : IntAt w x (R : Int)) (hR : R < 18446744073709551616) (hi : i < 64) (hm : R % 2 ^ (i + 1) = 0) :
    Calls Try.prog 46 #[ptr z, ptr x, .int .i64 i, .int .u64 1] w fun e w' => e = .returned (ptr z) ∧ IntAt w' z ((R + 2 ^ i : Nat) : Int) ∧ But z w w' := by
  have HX := hide hx
  obtain ⟨v, hxr, hv⟩ := hx
  rw [Int.natAbs_natCast] at hv
  have x1 : w.cell? ⟨x, 1, none⟩ = some v := by rw [cell_row hxr]; rfl
  obtain ⟨a, ca, rfl, hca, _⟩ := hv.slice
  have hl2 := wordsOf_len_two hR
  have hql : ((i : Int)).tdiv 32 = ((i / 32 : Nat) : Int) := by rw [Int.tdiv_eq_ediv_of_nonneg (by omega)]; rfl
  have hqe : (i : Int) / 32 = ((i / 32 : Nat) : Int) := rfl
  clear hxr hv
  obtain ⟨p, hp⟩ : ∃ p, p = (wordsOf R).length := ⟨_, rfl⟩
  obtain ⟨q, hq⟩ : ∃ q, q = i / 32 := ⟨_, rfl⟩
  rw [← hp] at x1 hca hl2
  rw [← hq] at hql hqe
  have HP := hide hp
  have HQ := hide hq
  have hq2 : q < 2 := by omega
  clear hp hq hqe
  obtain ⟨y, hy⟩ : ∃ y, y = R / 4294967296 ^ q % 4294967296 := ⟨_, rfl⟩
  have hylt : y < 4294967296 := by rw [hy]; exact Nat.mod_lt _ (by decide)
  have hym : y % 2 ^ (i % 32 + 1) = 0 := by rw [hy]; exact setBit_word R i q hi (unhide HQ) hm
  have hyr := setBit_room y (i % 32) (by omega) hylt hym
  have hw1 := word_clear y (i % 32) (by omega) hylt hym
  have hw2 := word_set y (i % 32) (by omega) hylt hym
  have HPW := hide (setBit_pow i q (unhide HQ))
  have hp2 : 2 ^ (i % 32) < 4294967296 := by omega
  have E0 : (2 : Int) ^ (i % 32) % 4294967296 = ((2 ^ (i % 32) : Nat) : Int) := by
    have : ((2 ^ (i % 32) : Nat) : Int) % 4294967296 = ((2 ^ (i % 32) : Nat) : Int) := by omega
    rw [← this]; simp
  have E1 : bits BinOp.andNot IntKind.u32 (y : Int) ((2 : Int) ^ (i % 32) % 4294967296) = (y : Int) := by rw [E0, hw1]
  have E2 : bits BinOp.or IntKind.u32 (y : Int) (bits BinOp.and IntKind.u64 1 1 % 4294967296 * 2 ^ (i % 32) % 4294967296) = ((y + 2 ^ (i % 32) : Nat) : Int) := by
    rw [show bits BinOp.and IntKind.u64 1 1 = 1 by decide, show (1 : Int) % 4294967296 = 1 by decide, Int.one_mul, E0, hw2]
  have H1 := hide E1
  have H2 := hide E2
  clear E0 E1 E2 hw1 hw2
  have HY := hide hy
  clear hy hym hm
  by_cases hpq : q + 1 ≤ p
  · have hlen : (padWords R (p + 1)).length = p + 1 := pad_len R _ (by rw [← unhide HP]; omega)
    have L := hide (low_any x R (p + 1) w (unhide HX) (by rw [← unhide HP]; omega) (by omega))
    have hat := pad_at R (p + 1) q
    have hat2 := pad_at R (p + 1) (p + 1 - 1)
    have hsm := hide (pad_small R (p + 1))
    have hpv := hide (pad_val R (p + 1))
    rw [word_high R (p + 1 - 1) (by rw [← unhide HP]; omega)] at hat2
    rw [show ((p + 1 : Nat) : Int) = (p : Int) + 1 from rfl] at L
    generalize padWords R (p + 1) = ws at *
    rw [← unhide HY] at hat
    have HZ := hide hz
    have HAT := hide hat
    have HAT2 := hide hat2
    have HLN := hide hlen
    clear hz HX hat hat2 hlen
    go_enter Try.func46, Try.ntmps46
    go_wp2_with fail
    refine (unhide L).mono ?_
    rintro e w1 ⟨rfl, hr, hb⟩
    have c1 : w1.cell? ⟨w.heap.size, q, none⟩ = some (.int .u32 (y : Int)) := by rw [hr.cell q (by rw [unhide HLN]; omega), unhide HAT]
    have fz := frozen_of_row w1 w.heap.size q _ _ hr
    clear L
    go_wp2_with fail
    rw [unhide H1, unhide H2]
    have hr2 : RowAt ((w1.setCell ⟨w.heap.size, q, none⟩ (.int .u32 (y : Int))).setCell ⟨w.heap.size, q, none⟩ (.int .u32 ((y + 2 ^ (i % 32) : Nat) : Int))) w.heap.size (ws.set q (y + 2 ^ (i % 32))) := set_twice hr q _ _
    have hbs : Below w.heap.size w ((w1.setCell ⟨w.heap.size, q, none⟩ (.int .u32 (y : Int))).setCell ⟨w.heap.size, q, none⟩ (.int .u32 ((y + 2 ^ (i % 32) : Nat) : Int))) := (hb.setCell (by simp) _).setCell (by simp) _
    generalize (w1.setCell ⟨w.heap.size, q, none⟩ (.int .u32 (y : Int))).setCell ⟨w.heap.size, q, none⟩ (.int .u32 ((y + 2 ^ (i % 32) : Nat) : Int)) = w2 at *
    have hl3 : (ws.set q (y + 2 ^ (i % 32))).length = p + 1 := by rw [List.length_set, unhide HLN]
    have O := of_any z w.heap.size (ws.set q (y + 2 ^ (i % 32))) w2 ((unhide HZ).below hbs) hr2 (small_set (unhide hsm) hyr) (by omega) (by omega) (by
      rw [hl3, List.getD_eq_getElem?_getD, List.getElem?_set_ne (by omega), ← List.getD_eq_getElem?_getD, unhide HAT2]; decide)
    have hv3 : val (ws.set q (y + 2 ^ (i % 32))) = R + 2 ^ i := by
      have := val_set ws q (y + 2 ^ (i % 32)) (by rw [unhide HLN]; omega)
      rw [unhide HAT, unhide hpv, Nat.add_mul, unhide HPW] at this
      omega
    rw [hv3, hl3] at O
    have HO := hide O
    clear O hv3 hl3 hr2 hr c1 fz
    refine (unhide HO).mono ?_
    rintro e w3 ⟨rfl, hi3, hb3⟩
    go_wp2
    go_ret
    exact ⟨rfl, hi3, (But.of_below hbs).trans hb3⟩
  · have hlen : (padWords R (q + 1 + 1)).length = q + 1 + 1 := pad_len R _ (by rw [← unhide HP]; omega)
    have L := hide (low_any x R (q + 1 + 1) w (unhide HX) (by rw [← unhide HP]; omega) (by omega))
    have hat := pad_at R (q + 1 + 1) q
    have hat2 := pad_at R (q + 1 + 1) (q + 1 + 1 - 1)
    have hsm := hide (pad_small R (q + 1 + 1))
    have hpv := hide (pad_val R (q + 1 + 1))
    rw [word_high R (q + 1 + 1 - 1) (by rw [← unhide HP]; omega)] at hat2
    rw [show ((q + 1 + 1 : Nat) : Int) = (q : Int) + 1 + 1 from rfl] at L
    generalize padWords R (q + 1 + 1) = ws at *
    rw [← unhide HY] at hat
    have HZ := hide hz
    have HAT := hide hat
    have HAT2 := hide hat2
    have HLN := hide hlen
    clear hz HX hat hat2 hlen
    go_enter Try.func46, Try.ntmps46
    go_wp2_with fail
    refine (unhide L).mono ?_
    rintro e w1 ⟨rfl, hr, hb⟩
    have c1 : w1.cell? ⟨w.heap.size, q, none⟩ = some (.int .u32 (y : Int)) := by rw [hr.cell q (by rw [unhide HLN]; omega), unhide HAT]
    have fz := frozen_of_row w1 w.heap.size q _ _ hr
    clear L
    go_wp2_with fail
    rw [unhide H1, unhide H2]
    have hr2 : RowAt ((w1.setCell ⟨w.heap.size, q, none⟩ (.int .u32 (y : Int))).setCell ⟨w.heap.size, q, none⟩ (.int .u32 ((y + 2 ^ (i % 32) : Nat) : Int))) w.heap.size (ws.set q (y + 2 ^ (i % 32))) := set_twice hr q _ _
    have hbs : Below w.heap.size w ((w1.setCell ⟨w.heap.size, q, none⟩ (.int .u32 (y : Int))).setCell ⟨w.heap.size, q, none⟩ (.int .u32 ((y + 2 ^ (i % 32) : Nat) : Int))) := (hb.setCell (by simp) _).setCell (by simp) _
    generalize (w1.setCell ⟨w.heap.size, q, none⟩ (.int .u32 (y : Int))).setCell ⟨w.heap.size, q, none⟩ (.int .u32 ((y + 2 ^ (i % 32) : Nat) : Int)) = w2 at *
    have hl3 : (ws.set q (y + 2 ^ (i % 32))).length = q + 1 + 1 := by rw [List.length_set, unhide HLN]
    have O := of_any z w.heap.size (ws.set q (y + 2 ^ (i % 32))) w2 ((unhide HZ).below hbs) hr2 (small_set (unhide hsm) hyr) (by omega) (by omega) (by
      rw [hl3, List.getD_eq_getElem?_getD, List.getElem?_set_ne (by omega), ← List.getD_eq_getElem?_getD, unhide HAT2]; decide)
    have hv3 : val (ws.set q (y + 2 ^ (i % 32))) = R + 2 ^ i := by
      have := val_set ws q (y + 2 ^ (i % 32)) (by rw [unhide HLN]; omega)
      rw [unhide HAT, unhide hpv, Nat.add_mul, unhide HPW] at this
      omega
    rw [hv3, hl3] at O
    have HO := hide O
    clear O hv3 hl3 hr2 hr c1 fz
    refine (unhide HO).mono ?_
    rintro e w3 ⟨rfl, hi3, hb3⟩
    go_wp2
    go_ret
    exact ⟨rfl, hi3, (But.of_below hbs).trans hb3⟩

set_option maxHeartbeats 1000000 in
theorem icmp_any (x y A B : Nat) (w : World) (hx : IntAt w x (A : Int)) (hy : IntAt w y (B : Int)) (la : (wordsOf A).length ≤ 10000000) (lb : (wordsOf B).length ≤ 10000000) :
    Calls Try.prog 47 #[ptr x, ptr y] w fun e w' => e = .returned (.int .i64 (ordOf A B)) ∧ Below w.heap.size w w' := by
  obtain ⟨u, hxr, hu⟩ := hx
  obtain ⟨v, hyr, hv⟩ := hy
  have x0 : w.cell? ⟨x, 0, none⟩ = some (.bool false) := by rw [cell_row hxr]; simp
  have x1 : w.cell? ⟨x, 1, none⟩ = some u := by rw [cell_row hxr]; rfl
  have y0 : w.cell? ⟨y, 0, none⟩ = some (.bool false) := by rw [cell_row hyr]; simp
  have y1 : w.cell? ⟨y, 1, none⟩ = some v := by rw [cell_row hyr]; rfl
  rw [Int.natAbs_natCast] at hu hv
  have C := hide (cmp_any A B u v w.drew.drew hu.drew.drew hv.drew.drew (by omega) (by omega))
  generalize ordOf A B = o at *
  clear hu hv hxr hyr
  go_enter Try.func47, Try.ntmps47
  go_wp2_with fail
  go_region
  go_wp2_with fail
  go_region_held3 (fun w' => w'.cell? ⟨x, 0, none⟩ = some (.bool false) ∧ w'.cell? ⟨x, 1, none⟩ = some u ∧ w'.cell? ⟨y, 1, none⟩ = some v) (go_keep)
    (first
      | (go_at_call 51; refine (unhide C).mono ?_; rintro e w1 ⟨rfl, hb⟩; have k0 := (hb.cell (p := ⟨x, 0, none⟩) (lt_of_cell x0)).trans x0; have k1 := (hb.cell (p := ⟨x, 1, none⟩) (lt_of_cell x1)).trans x1; have k3 := (hb.cell (p := ⟨y, 1, none⟩) (lt_of_cell y1)).trans y1))
  go_wp2
  go_ret
  exact ⟨rfl, undrew (undrew hb)⟩

theorem sq_lt {R P N : Nat} (h : N < (R + P) * (R + P)) (h2 : (R + P) * (R + P) ≤ N) : False := by omega
theorem root_step (R k N : Nat) (h : N < (R + 2 ^ (k + 1)) * (R + 2 ^ (k + 1))) : N < (R + 2 ^ k + 2 ^ k) * (R + 2 ^ k + 2 ^ k) := by
  rw [Nat.add_assoc, show 2 ^ k + 2 ^ k = 2 ^ (k + 1) by rw [Nat.pow_succ]; omega]; exact h
theorem root_small {R N : Nat} (h : R * R ≤ N) (hN : N < 9223372036854775808) : R < 4294967296 := by
  by_cases hh : R < 4294967296
  · exact hh
  · have := Nat.mul_le_mul (show 4294967296 ≤ R by omega) (show 4294967296 ≤ R by omega)
    omega

set_option maxHeartbeats 4000000 in
theorem sqrt_fresh (z x N : Nat) (w : World) (hz : IntBlock w z) (hx : IntAt w x (N : Int)) (hN : N < 9223372036854775808) :
    Calls Try.prog 33 #[ptr z, ptr x] w fun e w' => (∃ R : Nat, e = .returned (ptr z) ∧ IntAt w' z (R : Int) ∧ R * R ≤ N ∧ N < (R + 1) * (R + 1)) ∧ But z w w' := by
  have HX := hide hx
  obtain ⟨v, hxr, hv⟩ := hx
  rw [Int.natAbs_natCast] at hv
  have hzl := hz.lt
  have x0 : w.cell? ⟨x, 0, none⟩ = some (.bool false) := by rw [cell_row hxr]; simp
  have x1 : w.cell? ⟨x, 1, none⟩ = some v := by rw [cell_row hxr]; rfl
  have F := one_fresh w
  have xl : x < w.heap.size := (unhide HX).block.lt
  have y1 := (F.2.1.cell (p := ⟨x, 1, none⟩) xl).trans x1
  have C := hide (length_any N v (w.alloc newObj) (hv.below F.2.1) (Nat.le_trans (wordsOf_len_two (by omega)) (by decide)))
  have HF := hide F
  have HZ := hide hz
  clear hxr hv F hz
  go_enter Try.func33, Try.ntmps33
  go_wp2_with fail
  refine (unhide C).mono ?_
  rintro e w1 ⟨⟨L, rfl, hL, hL2⟩, rfl⟩
  have hL64 : L < 64 := (bits_64 hL).1.1 hN
  have hNL := hide hL.1
  clear hL hL2 C
  obtain ⟨i0, hi0⟩ : ∃ i0, i0 = (L + 1) / 2 := ⟨_, rfl⟩
  have hti : ((L : Int) + 1).tdiv 2 = (i0 : Int) := by rw [Int.tdiv_eq_ediv_of_nonneg (by omega)]; omega
  have hi32 : i0 ≤ 32 := by omega
  have HI := hide hi0
  clear hi0
  go_wp2
  go_loopw [5, 6] (fun vr vi wr => ∃ (br R k : Nat), vr = ptr br ∧ vi = .int .i64 ((k : Int) - 1) ∧ k ≤ 33 ∧ w.heap.size ≤ br ∧ Hid (IntAt wr br (R : Int)) ∧ Hid (R % 2 ^ k = 0) ∧ Hid (R * R ≤ N) ∧ Hid (N < (R + 2 ^ k) * (R + 2 ^ k)) ∧ Below w.heap.size w wr) (fun vr vi _ => (intOf vi + 1).toNat)
  case atStart =>
    refine ⟨w.heap.size, 0, i0 + 1, rfl, by congr 1; omega, by omega, Nat.le_refl _, hide (unhide HF).1, hide (by simp), hide (by omega), hide ?_, (unhide HF).2.1⟩
    have h1 := unhide hNL
    rw [Nat.zero_add, ← Nat.pow_add]
    exact Nat.lt_of_lt_of_le h1 (Nat.pow_le_pow_right (by decide) (by have := unhide HI; omega))
  case round =>
    obtain ⟨br, R, k, rfl, hvi, hk, hbr, I1, G1, G2, G3, hb⟩ := hrel
    by_cases h0 : k = 0
    · subst h0
      obtain rfl := hvi
      have hRs := root_small (unhide G2) hN
      have S := hide (iset_fresh z br (R : Int) wr ((unhide HZ).below hb) (by omega) (unhide I1) (by rw [Int.natAbs_natCast]; exact Nat.le_trans (wordsOf_len_two (by omega)) (by decide)))
      have HE := hide (show N < (R + 1) * (R + 1) by have := unhide G3; simpa using this)
      go_wp2_with fail
      refine (unhide S).mono ?_
      rintro e w2 ⟨rfl, hi2, hb2⟩
      go_wp2
      go_ret
      exact ⟨⟨R, rfl, hi2, unhide G2, unhide HE⟩, (But.of_below hb).trans hb2⟩
    · obtain ⟨i, rfl⟩ : ∃ i, k = i + 1 := ⟨k - 1, by omega⟩
      rw [show ((i + 1 : Nat) : Int) - 1 = (i : Int) by omega] at hvi
      obtain rfl := hvi
      have hRs := root_small (unhide G2) hN
      have hpi : 2 ^ i ≤ 4294967296 := by
        have := Nat.pow_le_pow_right (n := 2) (by decide) (show i ≤ 32 by omega)
        omega
      have F := one_fresh wr
      have B := hide (setBit_fresh wr.heap.size br R i (wr.alloc newObj) F.1.block ((unhide I1).below F.2.1) (by omega) (by omega) (unhide G1))
      have hrl := (unhide I1).block.lt
      have hw0 := hb.size
      obtain ⟨T, hT⟩ : ∃ T, T = R + 2 ^ i := ⟨_, rfl⟩
      rw [← hT] at B
      have hTl : T < 8589934592 := by omega
      have HT := hide hT
      have HF2 := hide F
      have HTM := hide (show T % 2 ^ i = 0 by
        rw [hT]
        have h1 : R % 2 ^ i = 0 := by
          have := unhide G1
          rw [Nat.pow_succ, Nat.mod_mul] at this
          omega
        rw [Nat.add_mod, h1, Nat.mod_self]; simp)
      have HRM := hide (show R % 2 ^ i = 0 by
          have := unhide G1
          rw [Nat.pow_succ, Nat.mod_mul] at this
          omega)
      clear hT F
      go_wp2_with fail
      refine (unhide B).mono ?_
      rintro e w2 ⟨rfl, hT2, hb2⟩
      have hw2 := But.below (unhide HF2).2.1 hb2 (Nat.le_refl _)
      have hIr := (unhide I1).below hw2
      have hbw2 := hb.trans (hw2.mono hw0)
      have hX2 := (unhide HX).below hbw2
      have hl2 : wr.heap.size < w2.heap.size := hT2.block.lt
      have F3 := one_fresh w2
      have M := hide (imul_fresh w2.heap.size wr.heap.size wr.heap.size (T : Int) (T : Int) (w2.alloc newObj) F3.1.block (by omega) (by omega) (hT2.below F3.2.1) (hT2.below F3.2.1) (by rw [Int.natAbs_natCast]; exact Nat.le_trans (wordsOf_len_two (by omega)) (by decide)) (by rw [Int.natAbs_natCast]; exact Nat.le_trans (wordsOf_len_two (by omega)) (by decide)))
      rw [← Int.natCast_mul] at M
      have HF3 := hide F3
      clear B HF2 hb2 F3
      go_wp2_with fail
      refine (unhide M).mono ?_
      rintro e w3 ⟨rfl, hM3, hb3⟩
      have hw3 := But.below (unhide HF3).2.1 hb3 (Nat.le_refl _)
      have hT3 := hT2.below hw3
      have hR3 := hIr.below hw3
      have hX3 := hX2.below hw3
      have hbw3 := bnext hbw2 hw3
      have hTT : T * T < 73786976294838206464 := by
        have := Nat.mul_lt_mul'' hTl hTl
        omega
      have K := hide (icmp_any w2.heap.size x (T * T) N w3 hM3 hX3 (Nat.le_trans (wordsOf_length_le _ 3 (by omega)) (by decide)) (Nat.le_trans (wordsOf_len_two (by omega)) (by decide)))
      clear M HF3 hb3 hM3 hX3 hT2 hIr hX2
      by_cases hc : T * T ≤ N
      · have ho : ordOf (T * T) N = 0 ∨ ordOf (T * T) N = -1 := by
          by_cases e : T * T = N
          · exact .inl (ordOf_eq e)
          · exact .inr (ordOf_lt (by omega))
        have HG3 := hide (show N < (T + 2 ^ i) * (T + 2 ^ i) by rw [unhide HT]; exact root_step R i N (unhide G3))
        have HC := hide hc
        generalize ordOf (T * T) N = o at *
        clear hTT hc
        go_wp2_with fail
        refine (unhide K).mono ?_
        rintro e w4 ⟨rfl, hb4⟩
        have hT4 := hide (hT3.below hb4)
        have hbw4 := bnext hbw3 hb4
        clear K hT3 hR3 hb4
        rcases ho with rfl | rfl
        all_goals
          go_wp2
          go_roundw
          case rel => exact ⟨wr.heap.size, T, i, rfl, by congr 1, by omega, by omega, hT4, HTM, HC, HG3, hbw4⟩
          case measure => simp [intOf]
      · rw [ordOf_gt (by omega)] at K
        have HG3 := hide (show N < (R + 2 ^ i) * (R + 2 ^ i) by rw [← unhide HT]; omega)
        clear hTT hc
        go_wp2_with fail
        refine (unhide K).mono ?_
        rintro e w4 ⟨rfl, hb4⟩
        have hR4 := hide (hR3.below hb4)
        have hbw4 := bnext hbw3 hb4
        clear K hT3 hR3 hb4
        go_wp2
        go_roundw
        case rel => exact ⟨br, R, i, rfl, by congr 1, by omega, hbr, hR4, HRM, G2, HG3, hbw4⟩
        case measure => simp [intOf]
end Go.Proofs.Ytfjbafdgjpdbdaa
