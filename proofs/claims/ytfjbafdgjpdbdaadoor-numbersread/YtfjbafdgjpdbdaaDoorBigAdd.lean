/- What add and sub do: sums and differences of numbers of any size. -/
import Derived.Test.YtfjbafdgjpdbdaaDoorBigTwin
namespace Go.Proofs.YtfjbafdgjpdbdaaDoor
open Go.RowKit

/-- The cells after so many words are laid. -/
def laidWords (pre : List Nat) (n : Nat) : List Value := (pre ++ List.replicate (n - pre.length) 0).map wc
theorem laid_zero (n : Nat) : laidWords [] n = List.replicate n (.int .u32 0) := by simp [laidWords, wc]
theorem laid_step (pre : List Nat) (n y : Nat) (h : pre.length < n) : (laidWords pre n).set pre.length (.int .u32 (y : Int)) = laidWords (pre ++ [y]) n := by
  unfold laidWords
  rw [show Value.int .u32 (y : Int) = wc y from rfl, ← List.map_set]
  congr 1
  rw [List.set_append_right _ _ (Nat.le_refl _), Nat.sub_self]
  obtain ⟨m, hm⟩ : ∃ m, n - pre.length = m + 1 := ⟨n - pre.length - 1, by omega⟩
  rw [hm, List.replicate_succ, List.set_cons_zero]
  simp
  omega
theorem laid_at (pre : List Nat) (n : Nat) (h : pre.length < n) : (laidWords pre n)[pre.length]? = some (.int .u32 0) := by
  unfold laidWords
  rw [List.getElem?_map, List.getElem?_append_right (Nat.le_refl _), Nat.sub_self, List.getElem?_replicate, if_pos (by omega)]
  rfl
theorem laid_end (pre : List Nat) : laidWords pre pre.length = pre.map wc := by simp [laidWords]
theorem val_snoc (pre : List Nat) (y : Nat) : val (pre ++ [y]) = val pre + 4294967296 ^ pre.length * y := by rw [val_append]; simp [val]
theorem small_snoc {pre : List Nat} {y : Nat} (h : small pre) (hy : y < 4294967296) : small (pre ++ [y]) := by
  intro x hx
  rcases List.mem_append.1 hx with hx | hx
  · exact h x hx
  · simp at hx; subst hx; exact hy
theorem word_high (n j : Nat) (h : (wordsOf n).length ≤ j) : n / 4294967296 ^ j % 4294967296 = 0 := by rw [div_high n j h]
theorem carry_step (V c x y P A B : Nat) (h : V + c * P = A + B) : V + P * ((c + x + y) % 4294967296) + (c + x + y) / 4294967296 * (P * 4294967296) = (A + x * P) + (B + y * P) := by
  have e : P * ((c + x + y) % 4294967296) + (c + x + y) / 4294967296 * (P * 4294967296) = P * (c + x + y) := by
    rw [Nat.mul_comm P 4294967296, ← Nat.mul_assoc, Nat.mul_comm ((c + x + y) / 4294967296 * 4294967296) P, ← Nat.mul_add]
    congr 1; omega
  rw [Nat.add_assoc, e, Nat.mul_add, Nat.mul_add]
  rw [Nat.mul_comm c P] at h
  rw [Nat.mul_comm x P, Nat.mul_comm y P]
  omega

set_option maxRecDepth 100000 in
set_option maxHeartbeats 1000000 in
theorem addw_long (m n : Nat) (u v : Value) (w : World) (hu : NumAt w u m) (hv : NumAt w v n) (hmn : (wordsOf n).length ≤ (wordsOf m).length) (lm : (wordsOf m).length ≤ 100000000) :
    Calls Tryd.prog 78 #[u, v] w fun e w' => (∃ v, e = .returned v ∧ NumAt w' v (m + n)) ∧ Below w.heap.size w w' := by
  obtain ⟨i0, hi, hz0, hz1, hz2⟩ := info_parts info32
  obtain ⟨a, ca, rfl, hca, Ha⟩ := hu.slice
  obtain ⟨b, cb, rfl, hcb, Hb⟩ := hv.slice
  have HA := hide Ha
  have HB := hide Hb
  clear Ha Hb hu hv
  have HHn := hide (word_high n)
  have hm64 := hide (lt_wordsOf m)
  have HM := hide (mod_step m)
  have HN := hide (mod_step n)
  have hnlt := hide (Nat.lt_of_lt_of_le (lt_wordsOf n) (Nat.pow_le_pow_right (by decide : 0 < 4294967296) (show (wordsOf n).length ≤ (wordsOf m).length by omega)))
  have Hat := hide (wordsOf_at m)
  have Hbt := hide (wordsOf_at n)
  obtain ⟨p, hp⟩ : ∃ p, p = (wordsOf m).length := ⟨_, rfl⟩
  obtain ⟨q, hq⟩ : ∃ q, q = (wordsOf n).length := ⟨_, rfl⟩
  rw [← hp] at hca lm HA hmn hm64 hnlt
  rw [← hq] at hcb HB hmn HHn
  rw [← hp, ← hq]
  clear hp hq
  go_enter Tryd.func78, Tryd.ntmps78
  go_wp2_with (at_make; refine wpList_make_full _ rfl _ _ 46 rfl w.heap.size 93 i0 (.int .u32 0) 1 Tryd.underlying46 hi hz0 hz1 .i64 .i64 _ _ (p + 1) rfl rfl (by omega) (by omega) (by rw [hz2]; omega) (by unfold maxLen; omega) (by simp) ?_; intro w1 hown hgrow)
  simp only [Nat.mul_one, Value.cells] at hown
  rw [toList_madeCells_one, ← laid_zero] at hown
  have hb0 : Below w.heap.size w w1 := (Below.refl _ _).grown hgrow (by simp) (fun k hk => by cases hk)
  clear hgrow
  go_loopw [6, 7] (fun c i wr => ∃ (pre : List Nat) (y : Nat), pre.length ≤ p ∧ i = .int .i64 pre.length ∧ c = .int .u64 y ∧ y ≤ 1 ∧ wr.ownsRow w.heap.size 93 1 (.slice (some ⟨w.heap.size, 0, none⟩) (p + 1) (p + 1)) (p + 1) (laidWords pre (p + 1)) ∧ Hid (small pre) ∧ Hid (val pre + y * 4294967296 ^ pre.length = m % 4294967296 ^ pre.length + n % 4294967296 ^ pre.length) ∧ Below w.heap.size w wr) (fun c i _ => p - (intOf i).toNat)
  case atStart => exact ⟨[], 0, Nat.zero_le _, rfl, rfl, by omega, hown, hide (fun x hx => by simp at hx), hide (by simp [val, Nat.mod_one]), hb0⟩
  case round =>
    obtain ⟨pre, c, hk, rfl, rfl, hc, ho, hs, hv, hb⟩ := hrel
    by_cases hlt : pre.length < p
    · obtain ⟨b1, rfl, c1⟩ := unhide HA pre.length hlt
      rw [unhide Hat] at c1
      rw [← hb.cell (lt_of_cell c1)] at c1
      have hx : m / 4294967296 ^ pre.length % 4294967296 < 4294967296 := Nat.mod_lt _ (by decide)
      have hy : n / 4294967296 ^ pre.length % 4294967296 < 4294967296 := Nat.mod_lt _ (by decide)
      have hst := carry_step (val pre) c (m / 4294967296 ^ pre.length % 4294967296) (n / 4294967296 ^ pre.length % 4294967296) (4294967296 ^ pre.length) _ _ (unhide hv)
      rw [← unhide HM, ← unhide HN, ← Nat.pow_succ] at hst
      have hcell0 := (ho.cellAt pre.length (by omega)).trans (laid_at pre (p + 1) (by omega))
      have hfr := ho.frozenAt pre.length
      by_cases hq : pre.length < q
      · obtain ⟨b2, rfl, c2⟩ := unhide HB pre.length hq
        rw [unhide Hbt] at c2
        rw [← hb.cell (lt_of_cell c2)] at c2
        obtain ⟨x, hxx⟩ : ∃ x, x = m / 4294967296 ^ pre.length % 4294967296 := ⟨_, rfl⟩
        obtain ⟨y, hyy⟩ : ∃ y, y = n / 4294967296 ^ pre.length % 4294967296 := ⟨_, rfl⟩
        rw [← hxx] at c1 hx hst
        rw [← hyy] at c2 hy hst
        clear hxx hyy
        have hso := (ho.stored pre.length (.int .u32 (((c + x + y) % 4294967296 : Nat) : Int))).1
        rw [laid_step pre (p + 1) _ (by omega)] at hso
        have hbs : Below w.heap.size w (wr.setCell ⟨w.heap.size, pre.length, none⟩ (.int .u32 (((c + x + y) % 4294967296 : Nat) : Int))) := hb.setCell (by simp) _
        rw [show (((c + x + y) % 4294967296 : Nat) : Int) = ((c : Int) + x + y) % 4294967296 by omega] at hso hbs
        have HS := hide hst
        clear hst ho
        go_wp2
        go_roundw
        case rel => exact ⟨pre ++ [(c + x + y) % 4294967296], (c + x + y) / 4294967296, by simp; omega, by simp, by congr 1, by omega, hso, small_snoc hs (by omega), hide (by rw [val_snoc, List.length_append]; exact unhide HS), hbs⟩
        case measure => simp [intOf]; omega
      · have hz := unhide HHn pre.length (by omega)
        rw [hz, Nat.add_zero] at hst
        obtain ⟨x, hxx⟩ : ∃ x, x = m / 4294967296 ^ pre.length % 4294967296 := ⟨_, rfl⟩
        rw [← hxx] at c1 hx hst
        clear hxx hy hz
        have hso := (ho.stored pre.length (.int .u32 (((c + x) % 4294967296 : Nat) : Int))).1
        rw [laid_step pre (p + 1) _ (by omega)] at hso
        have hbs : Below w.heap.size w (wr.setCell ⟨w.heap.size, pre.length, none⟩ (.int .u32 (((c + x) % 4294967296 : Nat) : Int))) := hb.setCell (by simp) _
        rw [show (((c + x) % 4294967296 : Nat) : Int) = ((c : Int) + x) % 4294967296 by omega] at hso hbs
        have HS := hide hst
        clear hst ho
        go_wp2
        go_roundw
        case rel => exact ⟨pre ++ [(c + x) % 4294967296], (c + x) / 4294967296, by simp; omega, by simp, by congr 1, by omega, hso, small_snoc hs (by omega), hide (by rw [val_snoc, List.length_append]; exact unhide HS), hbs⟩
        case measure => simp [intOf]; omega
    · have hpl : pre.length = p := by omega
      have hcell0 := (ho.cellAt pre.length (by omega)).trans (laid_at pre (p + 1) (by omega))
      have hfr := ho.frozenAt pre.length
      have hso := (ho.stored pre.length (.int .u32 (c : Int))).1
      rw [laid_step pre (p + 1) _ (by omega)] at hso
      have hbs : Below w.heap.size w (wr.setCell ⟨w.heap.size, pre.length, none⟩ (.int .u32 (c : Int))) := hb.setCell (by simp) _
      have hval : val (pre ++ [c]) = m + n := by
        have := unhide hv
        rw [hpl, Nat.mod_eq_of_lt (unhide hm64), Nat.mod_eq_of_lt (unhide hnlt)] at this
        rw [val_snoc, hpl, Nat.mul_comm]; exact this
      rw [show p + 1 = (pre ++ [c]).length by simp [hpl], laid_end] at hso
      have C := hide (trim_any (pre ++ [c]) w.heap.size (pre ++ [c]).length (wr.setCell ⟨w.heap.size, pre.length, none⟩ (.int .u32 (c : Int))) (small_snoc hs (by omega)) (Nat.le_refl _) (by simp; omega) (by
        rcases owned_words hso with ⟨h, _⟩ | ⟨b', cap', h, _, hc'⟩
        · cases h
        · injection h with h1 h2 h3
          injection h1 with h1
          injection h1 with h1
          subst h1
          exact hc'))
      rw [hval, show (pre ++ [c]).length = p + 1 by simp [hpl]] at C
      rw [hpl] at hcell0 hfr C hbs
      clear hso ho
      go_wp2_with fail
      refine (unhide C).mono ?_
      rintro e w2 ⟨⟨v, rfl, hv2⟩, rfl⟩
      generalize wr.setCell ⟨w.heap.size, p, none⟩ (.int .u32 (c : Int)) = w2 at *
      go_wp2
      go_ret
      exact ⟨⟨_, rfl, hv2⟩, hbs⟩

set_option maxRecDepth 100000 in
set_option maxHeartbeats 1000000 in
theorem addw_short (m n : Nat) (u v : Value) (w : World) (hu : NumAt w u m) (hv : NumAt w v n) (hmn : (wordsOf n).length < (wordsOf m).length) (lm : (wordsOf m).length ≤ 100000000) :
    Calls Tryd.prog 78 #[v, u] w fun e w' => (∃ v, e = .returned v ∧ NumAt w' v (m + n)) ∧ Below w.heap.size w w' := by
  obtain ⟨i0, hi, hz0, hz1, hz2⟩ := info_parts info32
  obtain ⟨a, ca, rfl, hca, Ha⟩ := hu.slice
  obtain ⟨b, cb, rfl, hcb, Hb⟩ := hv.slice
  have HA := hide Ha
  have HB := hide Hb
  clear Ha Hb hu hv
  have HHn := hide (word_high n)
  have hm64 := hide (lt_wordsOf m)
  have HM := hide (mod_step m)
  have HN := hide (mod_step n)
  have hnlt := hide (Nat.lt_of_lt_of_le (lt_wordsOf n) (Nat.pow_le_pow_right (by decide : 0 < 4294967296) (show (wordsOf n).length ≤ (wordsOf m).length by omega)))
  have Hat := hide (wordsOf_at m)
  have Hbt := hide (wordsOf_at n)
  obtain ⟨p, hp⟩ : ∃ p, p = (wordsOf m).length := ⟨_, rfl⟩
  obtain ⟨q, hq⟩ : ∃ q, q = (wordsOf n).length := ⟨_, rfl⟩
  rw [← hp] at hca lm HA hmn hm64 hnlt
  rw [← hq] at hcb HB hmn HHn
  rw [← hp, ← hq]
  clear hp hq
  go_enter Tryd.func78, Tryd.ntmps78
  go_wp2_with (at_make; refine wpList_make_full _ rfl _ _ 46 rfl w.heap.size 93 i0 (.int .u32 0) 1 Tryd.underlying46 hi hz0 hz1 .i64 .i64 _ _ (p + 1) rfl rfl (by omega) (by omega) (by rw [hz2]; omega) (by unfold maxLen; omega) (by simp) ?_; intro w1 hown hgrow)
  simp only [Nat.mul_one, Value.cells] at hown
  rw [toList_madeCells_one, ← laid_zero] at hown
  have hb0 : Below w.heap.size w w1 := (Below.refl _ _).grown hgrow (by simp) (fun k hk => by cases hk)
  clear hgrow
  go_loopw [6, 7] (fun c i wr => ∃ (pre : List Nat) (y : Nat), pre.length ≤ p ∧ i = .int .i64 pre.length ∧ c = .int .u64 y ∧ y ≤ 1 ∧ wr.ownsRow w.heap.size 93 1 (.slice (some ⟨w.heap.size, 0, none⟩) (p + 1) (p + 1)) (p + 1) (laidWords pre (p + 1)) ∧ Hid (small pre) ∧ Hid (val pre + y * 4294967296 ^ pre.length = m % 4294967296 ^ pre.length + n % 4294967296 ^ pre.length) ∧ Below w.heap.size w wr) (fun c i _ => p - (intOf i).toNat)
  case atStart => exact ⟨[], 0, Nat.zero_le _, rfl, rfl, by omega, hown, hide (fun x hx => by simp at hx), hide (by simp [val, Nat.mod_one]), hb0⟩
  case round =>
    obtain ⟨pre, c, hk, rfl, rfl, hc, ho, hs, hv, hb⟩ := hrel
    by_cases hlt : pre.length < p
    · obtain ⟨b1, rfl, c1⟩ := unhide HA pre.length hlt
      rw [unhide Hat] at c1
      rw [← hb.cell (lt_of_cell c1)] at c1
      have hx : m / 4294967296 ^ pre.length % 4294967296 < 4294967296 := Nat.mod_lt _ (by decide)
      have hy : n / 4294967296 ^ pre.length % 4294967296 < 4294967296 := Nat.mod_lt _ (by decide)
      have hst := carry_step (val pre) c (m / 4294967296 ^ pre.length % 4294967296) (n / 4294967296 ^ pre.length % 4294967296) (4294967296 ^ pre.length) _ _ (unhide hv)
      rw [← unhide HM, ← unhide HN, ← Nat.pow_succ] at hst
      have hcell0 := (ho.cellAt pre.length (by omega)).trans (laid_at pre (p + 1) (by omega))
      have hfr := ho.frozenAt pre.length
      by_cases hq : pre.length < q
      · obtain ⟨b2, rfl, c2⟩ := unhide HB pre.length hq
        rw [unhide Hbt] at c2
        rw [← hb.cell (lt_of_cell c2)] at c2
        obtain ⟨x, hxx⟩ : ∃ x, x = m / 4294967296 ^ pre.length % 4294967296 := ⟨_, rfl⟩
        obtain ⟨y, hyy⟩ : ∃ y, y = n / 4294967296 ^ pre.length % 4294967296 := ⟨_, rfl⟩
        rw [← hxx] at c1 hx hst
        rw [← hyy] at c2 hy hst
        clear hxx hyy
        have hso := (ho.stored pre.length (.int .u32 (((c + x + y) % 4294967296 : Nat) : Int))).1
        rw [laid_step pre (p + 1) _ (by omega)] at hso
        have hbs : Below w.heap.size w (wr.setCell ⟨w.heap.size, pre.length, none⟩ (.int .u32 (((c + x + y) % 4294967296 : Nat) : Int))) := hb.setCell (by simp) _
        rw [show (((c + x + y) % 4294967296 : Nat) : Int) = ((c : Int) + x + y) % 4294967296 by omega] at hso hbs
        have HS := hide hst
        clear hst ho
        go_wp2
        go_roundw
        case rel => exact ⟨pre ++ [(c + x + y) % 4294967296], (c + x + y) / 4294967296, by simp; omega, by simp, by congr 1, by omega, hso, small_snoc hs (by omega), hide (by rw [val_snoc, List.length_append]; exact unhide HS), hbs⟩
        case measure => simp [intOf]; omega
      · have hz := unhide HHn pre.length (by omega)
        rw [hz, Nat.add_zero] at hst
        obtain ⟨x, hxx⟩ : ∃ x, x = m / 4294967296 ^ pre.length % 4294967296 := ⟨_, rfl⟩
        rw [← hxx] at c1 hx hst
        clear hxx hy hz
        have hso := (ho.stored pre.length (.int .u32 (((c + x) % 4294967296 : Nat) : Int))).1
        rw [laid_step pre (p + 1) _ (by omega)] at hso
        have hbs : Below w.heap.size w (wr.setCell ⟨w.heap.size, pre.length, none⟩ (.int .u32 (((c + x) % 4294967296 : Nat) : Int))) := hb.setCell (by simp) _
        rw [show (((c + x) % 4294967296 : Nat) : Int) = ((c : Int) + x) % 4294967296 by omega] at hso hbs
        have HS := hide hst
        clear hst ho
        go_wp2
        go_roundw
        case rel => exact ⟨pre ++ [(c + x) % 4294967296], (c + x) / 4294967296, by simp; omega, by simp, by congr 1, by omega, hso, small_snoc hs (by omega), hide (by rw [val_snoc, List.length_append]; exact unhide HS), hbs⟩
        case measure => simp [intOf]; omega
    · have hpl : pre.length = p := by omega
      have hcell0 := (ho.cellAt pre.length (by omega)).trans (laid_at pre (p + 1) (by omega))
      have hfr := ho.frozenAt pre.length
      have hso := (ho.stored pre.length (.int .u32 (c : Int))).1
      rw [laid_step pre (p + 1) _ (by omega)] at hso
      have hbs : Below w.heap.size w (wr.setCell ⟨w.heap.size, pre.length, none⟩ (.int .u32 (c : Int))) := hb.setCell (by simp) _
      have hval : val (pre ++ [c]) = m + n := by
        have := unhide hv
        rw [hpl, Nat.mod_eq_of_lt (unhide hm64), Nat.mod_eq_of_lt (unhide hnlt)] at this
        rw [val_snoc, hpl, Nat.mul_comm]; exact this
      rw [show p + 1 = (pre ++ [c]).length by simp [hpl], laid_end] at hso
      have C := hide (trim_any (pre ++ [c]) w.heap.size (pre ++ [c]).length (wr.setCell ⟨w.heap.size, pre.length, none⟩ (.int .u32 (c : Int))) (small_snoc hs (by omega)) (Nat.le_refl _) (by simp; omega) (by
        rcases owned_words hso with ⟨h, _⟩ | ⟨b', cap', h, _, hc'⟩
        · cases h
        · injection h with h1 h2 h3
          injection h1 with h1
          injection h1 with h1
          subst h1
          exact hc'))
      rw [hval, show (pre ++ [c]).length = p + 1 by simp [hpl]] at C
      rw [hpl] at hcell0 hfr C hbs
      clear hso ho
      go_wp2_with fail
      refine (unhide C).mono ?_
      rintro e w2 ⟨⟨v, rfl, hv2⟩, rfl⟩
      generalize wr.setCell ⟨w.heap.size, p, none⟩ (.int .u32 (c : Int)) = w2 at *
      go_wp2
      go_ret
      exact ⟨⟨_, rfl, hv2⟩, hbs⟩

theorem addw_any (m n : Nat) (u v : Value) (w : World) (hu : NumAt w u m) (hv : NumAt w v n) (lm : (wordsOf m).length ≤ 100000000) (ln : (wordsOf n).length ≤ 100000000) :
    Calls Tryd.prog 78 #[u, v] w fun e w' => (∃ v, e = .returned v ∧ NumAt w' v (m + n)) ∧ Below w.heap.size w w' := by
  by_cases h : (wordsOf n).length ≤ (wordsOf m).length
  · exact addw_long m n u v w hu hv h lm
  · rw [Nat.add_comm]
    exact addw_short n m v u w hv hu (by omega) ln
end Go.Proofs.YtfjbafdgjpdbdaaDoor
