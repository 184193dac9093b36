/- What mul does: products of numbers of any size. -/
import Derived.Test.YtfjbafdgjpdbdaaDoorBigSub
namespace Go.Proofs.YtfjbafdgjpdbdaaDoor
open Go.RowKit

theorem small_set {ws : List Nat} {k y : Nat} (h : small ws) (hy : y < 4294967296) : small (ws.set k y) := by
  intro x hx
  rcases List.mem_or_eq_of_mem_set hx with hx | rfl
  · exact h x hx
  · exact hy
theorem small_getD {ws : List Nat} (h : small ws) (k : Nat) : ws.getD k 0 < 4294967296 := by
  rw [List.getD_eq_getElem?_getD]
  by_cases hk : k < ws.length
  · rw [List.getElem?_eq_getElem hk]; exact h _ (List.getElem_mem hk)
  · rw [List.getElem?_eq_none (by omega)]; simp
theorem cells_set (ws : List Nat) (k y : Nat) : (ws.map wc).set k (.int .u32 (y : Int)) = (ws.set k y).map wc := by
  rw [show Value.int .u32 (y : Int) = wc y from rfl, List.map_set]
theorem cells_at (ws : List Nat) (k : Nat) (h : k < ws.length) : (ws.map wc)[k]? = some (.int .u32 ((ws.getD k 0 : Nat) : Int)) := by
  rw [List.getElem?_map, List.getElem?_eq_getElem h, List.getD_eq_getElem?_getD, List.getElem?_eq_getElem h]; rfl
/-- One step of the inner loop: word k of the row turns to t mod 2^32, t / 2^32 is carried on. -/
theorem mul_step (rs : List Nat) (k c s A : Nat) (hk : k < rs.length) (h : val rs + c * 4294967296 ^ k = A) :
    val (rs.set k ((c + (s + rs.getD k 0)) % 4294967296)) + (c + (s + rs.getD k 0)) / 4294967296 * 4294967296 ^ (k + 1) = A + s * 4294967296 ^ k := by
  have h1 := val_set rs k ((c + (s + rs.getD k 0)) % 4294967296) hk
  generalize rs.getD k 0 = r at *
  rw [Nat.pow_succ]
  generalize 4294967296 ^ k = P at *
  have e : (c + (s + r)) / 4294967296 * (P * 4294967296) + (c + (s + r)) % 4294967296 * P = (c + (s + r)) * P := by
    rw [Nat.mul_comm P, ← Nat.mul_assoc, ← Nat.add_mul]; congr 1; omega
  rw [Nat.add_mul, Nat.add_mul] at e
  omega
theorem mul_next (x n i j : Nat) : x * (n % 4294967296 ^ j) * 4294967296 ^ i + x * (n / 4294967296 ^ j % 4294967296) * 4294967296 ^ (i + j) = x * (n % 4294967296 ^ (j + 1)) * 4294967296 ^ i := by
  rw [mod_step, Nat.pow_add, Nat.mul_add, Nat.add_mul, Nat.mul_assoc, Nat.mul_assoc, Nat.mul_assoc, Nat.mul_assoc, Nat.mul_comm (4294967296 ^ i) (4294967296 ^ j)]
theorem mul_row (m n i : Nat) : m % 4294967296 ^ i * n + m / 4294967296 ^ i % 4294967296 * n * 4294967296 ^ i = m % 4294967296 ^ (i + 1) * n := by
  rw [mod_step, Nat.add_mul, Nat.mul_assoc, Nat.mul_comm n, ← Nat.mul_assoc]
theorem word_prod {x y : Nat} (hx : x < 4294967296) (hy : y < 4294967296) : x * y ≤ 18446744065119617025 := by
  have := Nat.mul_le_mul (show x ≤ 4294967295 by omega) (show y ≤ 4294967295 by omega)
  omega

set_option maxRecDepth 100000 in
set_option maxHeartbeats 2000000 in
theorem mulw_any (m n : Nat) (u v : Value) (w : World) (hu : NumAt w u m) (hv : NumAt w v n) (lm : (wordsOf m).length ≤ 100000000) (ln : (wordsOf n).length ≤ 100000000) :
    Calls Tryd.prog 58 #[u, v] w fun e w' => (∃ v, e = .returned v ∧ NumAt w' v (m * n)) ∧ Below w.heap.size w w' := by
  obtain ⟨i0, hi, hz0, hz1, hz2⟩ := info_parts info32
  obtain ⟨a, ca, rfl, hca, Ha⟩ := hu.slice
  obtain ⟨b, cb, rfl, hcb, Hb⟩ := hv.slice
  have HA := hide Ha
  have HB := hide Hb
  clear Ha Hb hu hv
  have Hat := hide (wordsOf_at m)
  have Hbt := hide (wordsOf_at n)
  have hm64 := hide (lt_wordsOf m)
  have hn64 := hide (lt_wordsOf n)
  have Z1 := hide (wordsOf_len_zero m)
  have Z2 := hide (wordsOf_len_zero n)
  obtain ⟨p, hp⟩ : ∃ p, p = (wordsOf m).length := ⟨_, rfl⟩
  obtain ⟨q, hq⟩ : ∃ q, q = (wordsOf n).length := ⟨_, rfl⟩
  rw [← hp] at hca lm HA hm64 Z1
  rw [← hq] at hcb HB hn64 ln Z2
  rw [← hp, ← hq]
  clear hp hq
  by_cases h0 : p = 0
  · have H := hide (show m * n = 0 by rw [(unhide Z1).1 h0, Nat.zero_mul])
    go_enter Tryd.func58, Tryd.ntmps58
    go_wp2
    go_ret
    exact ⟨⟨_, rfl, by rw [unhide H]; exact NumAt.nil _⟩, Below.refl _ _⟩
  · by_cases h1 : q = 0
    · have H := hide (show m * n = 0 by rw [(unhide Z2).1 h1, Nat.mul_zero])
      go_enter Tryd.func58, Tryd.ntmps58
      go_wp2
      go_ret
      exact ⟨⟨_, rfl, by rw [unhide H]; exact NumAt.nil _⟩, Below.refl _ _⟩
    · have d1 : ((p : Int) == 0) = false := by simp; omega
      have d2 : ((q : Int) == 0) = false := by simp; omega
      go_enter Tryd.func58, Tryd.ntmps58
      go_wp2_with (at_make; refine wpList_make_full _ rfl _ _ 46 rfl w.heap.size 93 i0 (.int .u32 0) 1 Tryd.underlying46 hi hz0 hz1 .i64 .i64 _ _ (p + q) rfl rfl (by omega) (by omega) (by rw [hz2]; omega) (by unfold maxLen; omega) (by simp) ?_; intro w1 hown hgrow)
      simp only [Nat.mul_one, Value.cells] at hown
      rw [toList_madeCells_one, show List.replicate (p + q) (Value.int IntKind.u32 0) = (List.replicate (p + q) 0).map wc by simp [wc]] at hown
      have hb0 : Below w.heap.size w w1 := (Below.refl _ _).grown hgrow (by simp) (fun k hk => by cases hk)
      clear hgrow
      go_loopw [6] (fun i wr => ∃ (k : Nat) (rs : List Nat), k ≤ p ∧ i = .int .i64 k ∧ rs.length = p + q ∧ wr.ownsRow w.heap.size 93 1 (.slice (some ⟨w.heap.size, 0, none⟩) (p + q) (p + q)) (p + q) (rs.map wc) ∧ Hid (small rs) ∧ Hid (val rs = m % 4294967296 ^ k * n) ∧ Hid (∀ j, k + q ≤ j → rs.getD j 0 = 0) ∧ Below w.heap.size w wr) (fun i _ => p - (intOf i).toNat)
      case atStart => exact ⟨0, List.replicate (p + q) 0, Nat.zero_le _, rfl, by simp, hown, hide (fun x hx => by simp at hx; omega), hide (by rw [val_zeros]; simp [Nat.mod_one]), hide (fun j _ => by rw [List.getD_eq_getElem?_getD, List.getElem?_replicate]; split <;> rfl), hb0⟩
      case round =>
        obtain ⟨i, rs, hk, rfl, hrl, ho, hs, hv, hzz, hb⟩ := hrel
        by_cases hlt : i < p
        · obtain ⟨b1, rfl, c1⟩ := unhide HA i hlt
          rw [unhide Hat] at c1
          have hx : m / 4294967296 ^ i % 4294967296 < 4294967296 := Nat.mod_lt _ (by decide)
          have hrow := hide (mul_row m n i)
          obtain ⟨x, hxx⟩ : ∃ x, x = m / 4294967296 ^ i % 4294967296 := ⟨_, rfl⟩
          rw [← hxx] at c1 hx hrow
          clear hxx
          go_wp2
          go_loopw [7, 8] (fun c j wq => ∃ (l y : Nat) (rt : List Nat), l ≤ q ∧ j = .int .i64 l ∧ c = .int .u64 y ∧ y < 4294967296 ∧ rt.length = p + q ∧ wq.ownsRow w.heap.size 93 1 (.slice (some ⟨w.heap.size, 0, none⟩) (p + q) (p + q)) (p + q) (rt.map wc) ∧ Hid (small rt) ∧ Hid (val rt + y * 4294967296 ^ (i + l) = m % 4294967296 ^ i * n + x * (n % 4294967296 ^ l) * 4294967296 ^ i) ∧ Hid (∀ j, i + q ≤ j → rt.getD j 0 = 0) ∧ Below w.heap.size w wq) (fun c j _ => q - (intOf j).toNat)
          case atStart => exact ⟨0, 0, rs, Nat.zero_le _, rfl, rfl, by omega, hrl, ho, hs, hide (by rw [unhide hv]; simp [Nat.mod_one]), hzz, hb⟩
          case round =>
            clear ho hs hv hzz hb hrl
            obtain ⟨j, c, rt, hj, rfl, rfl, hc, hrl, ho, hs, hv, hzz, hb⟩ := hrel
            rw [← hb.cell (lt_of_cell c1)] at c1
            by_cases hjq : j < q
            · obtain ⟨b2, rfl, c2⟩ := unhide HB j hjq
              rw [unhide Hbt] at c2
              rw [← hb.cell (lt_of_cell c2)] at c2
              have hy : n / 4294967296 ^ j % 4294967296 < 4294967296 := Nat.mod_lt _ (by decide)
              have hnx := mul_next x n i j
              have hr := small_getD (unhide hs) (i + j)
              obtain ⟨y, hyy⟩ : ∃ y, y = n / 4294967296 ^ j % 4294967296 := ⟨_, rfl⟩
              rw [← hyy] at c2 hy hnx
              clear hyy
              have hst := mul_step rt (i + j) c (x * y) _ (by omega) (unhide hv)
              rw [Nat.add_assoc (m % 4294967296 ^ i * n), hnx] at hst
              have hpr := word_prod hx hy
              have hpc : (x : Int) * y = ((x * y : Nat) : Int) := by rw [Int.natCast_mul]
              obtain ⟨s, hss⟩ : ∃ s, s = x * y := ⟨_, rfl⟩
              rw [← hss] at hst hpr hpc
              have hcell0 := (ho.cellAt (i + j) (by omega)).trans (cells_at rt (i + j) (by omega))
              have hfr := ho.frozenAt (i + j)
              obtain ⟨r, hrr⟩ : ∃ r, r = rt.getD (i + j) 0 := ⟨_, rfl⟩
              rw [← hrr] at hst hr hcell0
              clear hrr hss hnx
              have hso := (ho.drew.stored (i + j) (.int .u32 (((c + (s + r)) % 4294967296 : Nat) : Int))).1
              rw [cells_set] at hso
              have hbs : Below w.heap.size w (wr.drew.setCell ⟨w.heap.size, i + j, none⟩ (.int .u32 (((c + (s + r)) % 4294967296 : Nat) : Int))) := hb.drew.setCell (by simp) _
              rw [show (((c + (s + r)) % 4294967296 : Nat) : Int) = ((c : Int) + (s + r)) % 4294967296 by omega] at hso hbs
              have HS := hide hst
              clear hst ho
              go_wp2
              go_region
              go_wp2
              go_roundw
              case rel => exact ⟨j + 1, (c + (s + r)) / 4294967296, rt.set (i + j) ((c + (s + r)) % 4294967296), by omega, by go_num, by congr 1, by omega, by simp [hrl], hso, small_set hs (by omega), hide (by rw [Nat.add_assoc] at HS; exact unhide HS), hide (fun l hl => by rw [List.getD_eq_getElem?_getD, List.getElem?_set_ne (by omega), ← List.getD_eq_getElem?_getD]; exact unhide hzz l hl), hbs⟩
              case measure => simp [intOf]; omega
            · obtain rfl : j = q := by omega
              have hz := unhide hzz (i + j) (Nat.le_refl _)
              have hcell0 := (ho.cellAt (i + j) (by omega)).trans (cells_at rt (i + j) (by omega))
              have hfr := ho.frozenAt (i + j)
              rw [hz] at hcell0
              have hso := (ho.stored (i + j) (.int .u32 (c : Int))).1
              rw [cells_set] at hso
              have hbs : Below w.heap.size w (wr.setCell ⟨w.heap.size, i + j, none⟩ (.int .u32 (c : Int))) := hb.setCell (by simp) _
              have HV := hide (show val (rt.set (i + j) c) = m % 4294967296 ^ (i + 1) * n by
                have e1 := val_set rt (i + j) c (by omega)
                rw [hz, Nat.zero_mul, Nat.add_zero, unhide hv, Nat.mod_eq_of_lt (unhide hn64)] at e1
                rw [e1]; exact unhide hrow)
              clear ho
              go_wp2
              go_roundw
              case rel => exact ⟨i + 1, rt.set (i + j) c, by omega, by go_num, by simp [hrl], hso, small_set hs hc, HV, hide (fun l hl => by rw [List.getD_eq_getElem?_getD, List.getElem?_set_ne (by omega), ← List.getD_eq_getElem?_getD]; exact unhide hzz l (by omega)), hbs⟩
              case measure => simp [intOf]; omega
        · obtain rfl : i = p := by omega
          have hval : val rs = m * n := by rw [unhide hv, Nat.mod_eq_of_lt (unhide hm64)]
          have C := hide (trim_any rs w.heap.size rs.length wr hs (Nat.le_refl _) (by omega) (by
            rcases owned_words ho with ⟨h, _⟩ | ⟨b', cap', h, _, hc'⟩
            · cases h
            · injection h with h1 h2 h3
              injection h1 with h1
              injection h1 with h1
              subst h1
              exact hc'))
          rw [hval, hrl] at C
          clear ho
          go_wp2_with fail
          refine (unhide C).mono ?_
          rintro e w2 ⟨⟨v, rfl, hv2⟩, rfl⟩
          go_wp2
          go_ret
          exact ⟨⟨_, rfl, hv2⟩, hb⟩
end Go.Proofs.YtfjbafdgjpdbdaaDoor
