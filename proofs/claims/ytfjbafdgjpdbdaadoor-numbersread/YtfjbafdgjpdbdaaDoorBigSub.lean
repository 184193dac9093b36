/- What sub does: differences of numbers of any size. -/
import Derived.Test.YtfjbafdgjpdbdaaDoorBigAdd
namespace Go.Proofs.YtfjbafdgjpdbdaaDoor
open Go.RowKit

/-- One word of a difference, as the machine reckons it in 64 bits. -/
def dif1 (x c : Nat) : Nat := (x + 18446744073709551616 - c) % 18446744073709551616
def dif2 (x c y : Nat) : Nat := (dif1 x c + 18446744073709551616 - y) % 18446744073709551616
theorem dif1_cast (x c : Nat) (hx : x < 4294967296) (hc : c ≤ 1) : IntKind.u64.wrap ((x : Int) - c) = (dif1 x c : Int) := by
  rw [IntKind.wrap_u64]; unfold dif1; omega
theorem dif2_cast (x c y : Nat) (hy : y < 4294967296) : IntKind.u64.wrap ((dif1 x c : Int) - y) = (dif2 x c y : Int) := by
  rw [IntKind.wrap_u64]; unfold dif2 dif1; omega
theorem dif_facts (x c y : Nat) (hx : x < 4294967296) (hy : y < 4294967296) (hc : c ≤ 1) :
    dif2 x c y < 18446744073709551616 ∧ dif2 x c y / 9223372036854775808 ≤ 1 ∧ dif2 x c y % 4294967296 + c + y = x + dif2 x c y / 9223372036854775808 * 4294967296 := by
  unfold dif2 dif1; omega
theorem dif2_zero (x c : Nat) (hx : x < 4294967296) (hc : c ≤ 1) : dif2 x c 0 = dif1 x c := by unfold dif2 dif1; omega
theorem borrow_step (V c x y d P A B : Nat) (h : V + B = A + c * P) (hd : d % 4294967296 + c + y = x + d / 9223372036854775808 * 4294967296) :
    V + P * (d % 4294967296) + (B + y * P) = (A + x * P) + d / 9223372036854775808 * (P * 4294967296) := by
  have e := congrArg (P * ·) hd
  simp only [Nat.mul_add] at e
  rw [Nat.mul_comm c P] at h
  rw [Nat.mul_comm x P, Nat.mul_comm y P, Nat.mul_comm P 4294967296, ← Nat.mul_assoc, Nat.mul_comm _ P]
  omega

set_option maxRecDepth 100000 in
set_option maxHeartbeats 1000000 in
theorem subw_any (m n : Nat) (u v : Value) (w : World) (hu : NumAt w u m) (hv : NumAt w v n) (hmn : n ≤ m) (lm : (wordsOf m).length ≤ 100000000) :
    Calls Tryd.prog 79 #[u, v] w fun e w' => (∃ v, e = .returned v ∧ NumAt w' v (m - n)) ∧ Below w.heap.size w w' := by
  obtain ⟨i0, hi, hz0, hz1, hz2⟩ := info_parts info32
  have hlen : (wordsOf n).length ≤ (wordsOf m).length := wordsOf_length_le n _ (Nat.lt_of_le_of_lt hmn (lt_wordsOf m))
  obtain ⟨a, ca, rfl, hca, Ha⟩ := hu.slice
  obtain ⟨b, cb, rfl, hcb, Hb⟩ := hv.slice
  have HA := hide Ha
  have HB := hide Hb
  clear Ha Hb hu hv
  have HHn := hide (word_high n)
  have hm64 := hide (lt_wordsOf m)
  have HM := hide (mod_step m)
  have HN := hide (mod_step n)
  have Hat := hide (wordsOf_at m)
  have Hbt := hide (wordsOf_at n)
  have HMN := hide hmn
  obtain ⟨p, hp⟩ : ∃ p, p = (wordsOf m).length := ⟨_, rfl⟩
  obtain ⟨q, hq⟩ : ∃ q, q = (wordsOf n).length := ⟨_, rfl⟩
  rw [← hp] at hca lm HA hm64 hlen
  rw [← hq] at hcb HB HHn hlen
  rw [← hp, ← hq]
  clear hp hq hmn
  go_enter Tryd.func79, Tryd.ntmps79
  go_wp2_with (at_make; refine wpList_make_full _ rfl _ _ 46 rfl w.heap.size 93 i0 (.int .u32 0) 1 Tryd.underlying46 hi hz0 hz1 .i64 .i64 _ _ p rfl rfl (by omega) (by omega) (by rw [hz2]; omega) (by unfold maxLen; omega) (by simp) ?_; intro w1 hown hgrow)
  simp only [Nat.mul_one, Value.cells] at hown
  rw [toList_madeCells_one, ← laid_zero] at hown
  have hb0 : Below w.heap.size w w1 := (Below.refl _ _).grown hgrow (by simp) (fun k hk => by cases hk)
  clear hgrow
  go_loopw [6, 7] (fun c i wr => ∃ (pre : List Nat) (y : Nat), pre.length ≤ p ∧ i = .int .i64 pre.length ∧ c = .int .u64 y ∧ y ≤ 1 ∧ wr.ownsRow w.heap.size 93 1 (.slice (some ⟨w.heap.size, 0, none⟩) p p) p (laidWords pre p) ∧ Hid (small pre) ∧ Hid (val pre + n % 4294967296 ^ pre.length = m % 4294967296 ^ pre.length + y * 4294967296 ^ pre.length) ∧ Below w.heap.size w wr) (fun c i _ => p - (intOf i).toNat)
  case atStart => exact ⟨[], 0, Nat.zero_le _, rfl, rfl, by omega, hown, hide (fun x hx => by simp at hx), hide (by simp [val, Nat.mod_one]), hb0⟩
  case round =>
    obtain ⟨pre, c, hk, rfl, rfl, hc, ho, hs, hv, hb⟩ := hrel
    by_cases hlt : pre.length < p
    · obtain ⟨b1, rfl, c1⟩ := unhide HA pre.length hlt
      rw [unhide Hat] at c1
      rw [← hb.cell (lt_of_cell c1)] at c1
      have hx : m / 4294967296 ^ pre.length % 4294967296 < 4294967296 := Nat.mod_lt _ (by decide)
      have hy : n / 4294967296 ^ pre.length % 4294967296 < 4294967296 := Nat.mod_lt _ (by decide)
      obtain ⟨f1, f2, f3⟩ := dif_facts _ c _ hx hy hc
      have hst := borrow_step (val pre) c _ _ _ (4294967296 ^ pre.length) _ _ (unhide hv) f3
      rw [← unhide HM, ← unhide HN, ← Nat.pow_succ] at hst
      have hcell0 := (ho.cellAt pre.length (by omega)).trans (laid_at pre p (by omega))
      have hfr := ho.frozenAt pre.length
      by_cases hq : pre.length < q
      · obtain ⟨b2, rfl, c2⟩ := unhide HB pre.length hq
        rw [unhide Hbt] at c2
        rw [← hb.cell (lt_of_cell c2)] at c2
        obtain ⟨x, hxx⟩ : ∃ x, x = m / 4294967296 ^ pre.length % 4294967296 := ⟨_, rfl⟩
        obtain ⟨y, hyy⟩ : ∃ y, y = n / 4294967296 ^ pre.length % 4294967296 := ⟨_, rfl⟩
        rw [← hxx] at c1 hx hst f1 f2
        rw [← hyy] at c2 hy hst f1 f2
        rw [← hxx, ← hyy] at f3
        clear hxx hyy
        have g1 := dif1_cast x c hx hc
        have g2 := dif2_cast x c y hy
        generalize dif2 x c y = d at *
        generalize dif1 x c = d1 at *
        have hso := (ho.stored pre.length (.int .u32 ((d % 4294967296 : Nat) : Int))).1
        rw [laid_step pre p _ (by omega)] at hso
        have hbs : Below w.heap.size w (wr.setCell ⟨w.heap.size, pre.length, none⟩ (.int .u32 ((d % 4294967296 : Nat) : Int))) := hb.setCell (by simp) _
        rw [show ((d % 4294967296 : Nat) : Int) = (d : Int) % 4294967296 by omega] at hso hbs
        have HS := hide hst
        clear hst ho f3
        go_wp2
        go_roundw
        case rel => exact ⟨pre ++ [d % 4294967296], d / 9223372036854775808, by simp; omega, by simp, by congr 1, by omega, hso, small_snoc hs (by omega), hide (by rw [val_snoc, List.length_append]; exact unhide HS), hbs⟩
        case measure => simp [intOf]; omega
      · have hz := unhide HHn pre.length (by omega)
        rw [hz] at hst f1 f2 f3
        rw [dif2_zero _ _ hx hc] at hst f1 f2 f3
        obtain ⟨x, hxx⟩ : ∃ x, x = m / 4294967296 ^ pre.length % 4294967296 := ⟨_, rfl⟩
        rw [← hxx] at c1 hx hst f1 f2 f3
        clear hxx hy hz
        have g1 := dif1_cast x c hx hc
        generalize dif1 x c = d at *
        have hso := (ho.stored pre.length (.int .u32 ((d % 4294967296 : Nat) : Int))).1
        rw [laid_step pre p _ (by omega)] at hso
        have hbs : Below w.heap.size w (wr.setCell ⟨w.heap.size, pre.length, none⟩ (.int .u32 ((d % 4294967296 : Nat) : Int))) := hb.setCell (by simp) _
        rw [show ((d % 4294967296 : Nat) : Int) = (d : Int) % 4294967296 by omega] at hso hbs
        have HS := hide hst
        clear hst ho f3
        go_wp2
        go_roundw
        case rel => exact ⟨pre ++ [d % 4294967296], d / 9223372036854775808, by simp; omega, by simp, by congr 1, by omega, hso, small_snoc hs (by omega), hide (by rw [val_snoc, List.length_append]; exact unhide HS), hbs⟩
        case measure => simp [intOf]; omega
    · have hpl : pre.length = p := by omega
      have hval : val pre = m - n := by
        have h1 := unhide hv
        have h2 := val_lt pre (unhide hs)
        have h3 := unhide HMN
        have h4 := unhide hm64
        rw [hpl] at h1 h2
        rw [Nat.mod_eq_of_lt h4, Nat.mod_eq_of_lt (Nat.lt_of_le_of_lt h3 h4)] at h1
        have : c = 0 ∨ c = 1 := by omega
        rcases this with rfl | rfl
        · omega
        · omega
      rw [show p = pre.length by omega, laid_end] at ho
      have C := hide (trim_any pre w.heap.size pre.length wr hs (Nat.le_refl _) (by omega) (by
        rcases owned_words ho with ⟨h, _⟩ | ⟨b', cap', h, _, hc'⟩
        · cases h
        · injection h with h1 h2 h3
          injection h1 with h1
          injection h1 with h1
          subst h1
          exact hc'))
      rw [hval, hpl] at C
      clear ho
      go_wp2_with fail
      refine (unhide C).mono ?_
      rintro e w2 ⟨⟨v, rfl, hv2⟩, rfl⟩
      go_wp2
      go_ret
      exact ⟨⟨_, rfl, hv2⟩, hb⟩
end Go.Proofs.YtfjbafdgjpdbdaaDoor
