/- What the document's own joining answers. -/
import Derived.Test.YtmplbdapehmciaaDoorJoin
import Derived.Test.YtmplbdapehmciaaDoorRefReverse
import Derived.Lib.AppendStr
import Derived.Test.YtmplbdapehmciaaDoorAppWide
namespace Go.Proofs.YtmplbdapehmciaaDoor
open Go.RowKit

/-- The first k texts, joined. -/
def jn (xs : List ByteArray) (c : UInt8) (k : Nat) : List UInt8 := Lib.join ((xs.take k).map (·.data.toList)) [c]
theorem jn_zero (xs : List ByteArray) (c : UInt8) : jn xs c 0 = [] := by simp [jn, Lib.join_nil]
theorem jn_one (xs : List ByteArray) (c : UInt8) (h : 0 < xs.length) : jn xs c 1 = (xs.getD 0 ByteArray.empty).data.toList := by
  cases xs with
  | nil => simp at h
  | cons x r => simp [jn, Lib.join_one]
theorem jn_succ (xs : List ByteArray) (c : UInt8) (k : Nat) (h0 : 0 < k) (h : k < xs.length) : jn xs c (k + 1) = jn xs c k ++ [c] ++ (xs.getD k ByteArray.empty).data.toList := by
  unfold jn
  cases xs with
  | nil => simp at h
  | cons x r =>
    obtain ⟨j, rfl⟩ : ∃ j, k = j + 1 := ⟨k - 1, by omega⟩
    rw [List.take_succ_cons, List.take_succ_cons, List.map_cons, List.map_cons, Lib.join_cons, Lib.join_cons]
    have hj : j < r.length := by simpa using h
    rw [List.map_take, List.map_take, Lib.joinTail_take_succ [c] (r.map (·.data.toList)) j r[j].data.toList (by simp [hj])]
    simp [List.getElem?_eq_getElem hj]
theorem jn_length (xs : List ByteArray) (c : UInt8) (k : Nat) : (jn xs c k).length = joinLen (xs.take k) := join_len (xs.take k) ⟨#[c]⟩ rfl
theorem joinLen_take (xs : List ByteArray) (k : Nat) : joinLen (xs.take k) ≤ joinLen xs := by
  unfold joinLen
  have h1 := lensB_le xs k
  have h2 : (xs.take k).length ≤ xs.length := List.length_take_le' _ _
  omega
theorem jn_all (xs : List ByteArray) (c : UInt8) : mkT (jn xs c xs.length) = joinT xs ⟨#[c]⟩ := by
  unfold jn joinT
  rw [List.take_length]

theorem len_own {w : World} {B : Nat} {v : Value} {n : Nat} {xs : List Value} (h : w.ownsRow B 5 1 v n xs) (W : World) : (Builtin.len_ #[35] 3 #[v]).run Tryd.prog W = .ok (.int .i64 (n : Int)) W := by
  rcases h.2 with ⟨rfl, h0⟩ | ⟨g, cap, cur, rfl, _, _, _, _, _, _⟩
  · subst h0
    simp [Builtin.len_, run_underlying Tryd.underlying35]
    rfl
  · simp [Builtin.len_, run_underlying Tryd.underlying35]
    rfl

set_option maxHeartbeats 1000000 in
theorem refJoin_fit (s : ByteArray) (v : Value) (w : World) (h1 : s.size ≠ 1) (hv : ∃ a n c, v = .slice a n c) :
    Calls Tryd.prog 8 #[v, .string s] w fun e w' => e = .returned (.tuple #[.string ⟨#[]⟩, .int .i64 8]) ∧ Below w.heap.size w w' := by
  have h2 : ((s.size : Int) != 1) = true := by rw [bne_iff_ne]; omega
  obtain ⟨a, n, c, rfl⟩ := hv
  clear h1
  go_enter Tryd.func8, Tryd.ntmps8
  go_wp2
  go_ret2
  exact ⟨rfl, Below.refl _ _⟩

set_option maxHeartbeats 1000000 in
theorem refJoin_any (xs : List ByteArray) (c : UInt8) (v : Value) (w : World) (hn : xs.length ≤ 100000000000000) (hs : ∀ j, j < xs.length → (xs.getD j ByteArray.empty).size ≤ 140737488351232) (hv : StrsAt w v xs) :
    Calls Tryd.prog 8 #[v, .string ⟨#[c]⟩] w fun e w' => e = .returned (.tuple #[.string (joinV xs ⟨#[c]⟩), .int .i64 (joinE xs ⟨#[c]⟩)]) ∧ Below w.heap.size w w' := by
  have h2 : (((⟨#[c]⟩ : ByteArray).size : Int) != 1) = false := rfl
  obtain ⟨i0, hi, hz0, hz1, hz2⟩ := info_parts info_byte
  have hJE : ∀ k, 65536 < (jn xs c k).length → joinE xs ⟨#[c]⟩ = 4 ∧ joinV xs ⟨#[c]⟩ = ⟨#[]⟩ := fun k hk => by
    have := joinLen_take xs k
    rw [jn_length] at hk
    have e : joinE xs ⟨#[c]⟩ = 4 := by
      unfold joinE
      rw [if_neg (by simp; rfl), if_pos (by omega)]
    exact ⟨e, by simp [joinV, e]⟩
  have hJO : (jn xs c xs.length).length ≤ 65536 → joinE xs ⟨#[c]⟩ = 0 ∧ joinV xs ⟨#[c]⟩ = mkT (jn xs c xs.length) := fun hk => by
    rw [jn_length, List.take_length] at hk
    have e : joinE xs ⟨#[c]⟩ = 0 := by
      unfold joinE
      rw [if_neg (by simp; rfl), if_neg (by omega)]
    exact ⟨e, by simp [joinV, e, jn_all]⟩
  have H1 := hide hJE
  have H2 := hide hJO
  have H3 := hide (jn_zero xs c)
  have H4 := hide (jn_one xs c)
  have H5 := hide (jn_succ xs c)
  have HS := hide hs
  clear hJE hJO hs
  generalize joinE xs ⟨#[c]⟩ = E at *
  generalize joinV xs ⟨#[c]⟩ = V at *
  obtain ⟨a, ca, rfl, hca, hxa⟩ := hv
  have HX := hide hxa
  clear hxa
  go_enter Tryd.func8, Tryd.ntmps8
  go_wp2
  go_loopw [6, 14] (fun o i wr => ∃ (k : Nat) (l : List UInt8), k ≤ xs.length ∧ i = .int .i64 (k : Int) ∧ l.length ≤ 65536 ∧ Hid (l = jn xs c k) ∧ wr.ownsRow w.heap.size 5 1 o l.length (l.map bc) ∧ Below w.heap.size w wr) (fun _ i _ => xs.length - (intOf i).toNat)
  case atStart => exact ⟨0, [], Nat.zero_le _, rfl, by simp, (unhide H3).symm, World.ownsRow_nil _ _ _ _, Below.refl _ _⟩
  case round =>
    obtain ⟨k, l, hk, rfl, hll, hl, ho, hb⟩ := hrel
    by_cases hlt : k < xs.length
    · rcases unhide HX with hx | ⟨b, off, rfl, hxa⟩
      · rw [hx] at hlt; simp at hlt
      · have c1 := cell_later hb (hxa k hlt)
        have z1 := unhide HS k hlt
        have hb2 := hb.size
        by_cases hk0 : k = 0
        · have hlz : l = [] := by rw [hl.out, hk0]; exact unhide H3
          subst hlz
          have hj : jn xs c (k + 1) = (xs.getD k ByteArray.empty).data.toList := by rw [hk0]; exact unhide H4 (by omega)
          have hk1 : (k : Int) ≤ 0 := by omega
          generalize xs.getD k ByteArray.empty = x at *
          have HJ := hide hj
          clear hxa hl hk0 hj
          go_wp2_with (at_builtin; refine Lib.wpList_append_own_string _ rfl _ _ 35 9 rfl w.heap.size 5 i0 Tryd.underlying35 Tryd.underlying9 hi hz0 hz1 hz2 _ _ _ rfl (by exact ho) x rfl (by unfold maxLen; simp; omega) (by simp; omega) (by omega) ?_; intro v' w1 hown' hgrow _; have hvl := len_own hown')
          · have hbig : 65536 < (x.size : Int) := by assumption
            have hjl : (jn xs c (k + 1)).length = x.size := by rw [unhide HJ]; simp
            obtain ⟨e1, e2⟩ := unhide H1 (k + 1) (by omega)
            have hb1 := hb.grown hgrow hb2 (fun g hg => (ho.lt g hg).1)
            go_ret2
            exact ⟨by rw [e1, e2]; rfl, hb1⟩
          · have hsm : (x.size : Int) ≤ 65536 := by assumption
            have hjl : (x.data.toList).length = x.size := by simp
            have hb1 := hb.grown hgrow hb2 (fun g hg => (ho.lt g hg).1)
            have ho1 : w1.ownsRow w.heap.size 5 1 v' x.data.toList.length (x.data.toList.map bc) := by
              have h := hown'
              rw [List.length_nil, Nat.zero_add, List.map_nil, List.nil_append, ← hjl] at h
              exact h
            exact ⟨⟨k + 1, x.data.toList, hlt, by go_num, by omega, (unhide HJ).symm, ho1, hb1⟩, by simp [intOf]; omega⟩
        · have hk1 : 0 < (k : Int) := by omega
          have hj := unhide H5 k (by omega) hlt
          generalize xs.getD k ByteArray.empty = x at *
          rw [← hl.out] at hj
          have HJ := hide hj
          clear hxa hl hk0 hj
          go_wp2_with (first | (at_builtin; refine wpList_append_own _ rfl _ _ 35 rfl w.heap.size 5 i0 (.int .u8 0) 1 1 Tryd.underlying35 hi hz0 hz1 hz2 rfl (by decide) _ _ _ rfl (by exact ho.alloc _) ⟨wr.heap.size, 0, none⟩ 1 1 [.int .u8 (((⟨#[c]⟩ : ByteArray)[0]'(Nat.one_pos)).toNat : Int)] rfl rfl (by exact cell_one_new wr _ _) (by intro u hu; simp at hu; subst hu; rfl) (by unfold maxLen; omega) (by omega) (by simp; omega) ?_; intro v1 w1 hown1 hgrow1 _) | (at_builtin; refine wpList_str_wide rfl _ _ 35 9 rfl w.heap.size 5 i0 Tryd.underlying35 Tryd.underlying9 hi hz0 hz1 hz2 _ _ _ rfl (by exact hown1) x rfl (by unfold maxLen; omega) (by omega) (by omega) (by have := hgrow1.size; simp at this; omega) ?_; intro v' w2 hown' hgrow; have hvl := len_own hown'))
          · have hbig : 65536 < (l.length : Int) + 1 + (x.size : Int) := by assumption
            have hjl : (jn xs c (k + 1)).length = l.length + 1 + x.size := by rw [unhide HJ]; simp; omega
            obtain ⟨e1, e2⟩ := unhide H1 (k + 1) (by omega)
            have hb1 := (hb.alloc hb2 (.cells #[.int .u8 (((⟨#[c]⟩ : ByteArray)[0]'(Nat.one_pos)).toNat : Int)] 5)).grown hgrow1 (by simp; omega) (fun g hg => (ho.lt g hg).1)
            have hb3 := hb1.grown hgrow hb1.size (fun g hg => (hown1.lt g hg).1)
            go_ret2
            exact ⟨by rw [e1, e2]; rfl, hb3⟩
          · have hsm : (l.length : Int) + 1 + (x.size : Int) ≤ 65536 := by assumption
            have hjl : (l ++ [c] ++ x.data.toList).length = l.length + 1 + x.size := by simp; omega
            have hb1 := (hb.alloc hb2 (.cells #[.int .u8 (((⟨#[c]⟩ : ByteArray)[0]'(Nat.one_pos)).toNat : Int)] 5)).grown hgrow1 (by simp; omega) (fun g hg => (ho.lt g hg).1)
            have hb3 := hb1.grown hgrow hb1.size (fun g hg => (hown1.lt g hg).1)
            have ho1 : w2.ownsRow w.heap.size 5 1 v' (l ++ [c] ++ x.data.toList).length ((l ++ [c] ++ x.data.toList).map bc) := by
              rw [hjl, List.map_append, List.map_append]
              exact hown'
            exact ⟨⟨k + 1, l ++ [c] ++ x.data.toList, hlt, by go_num, by omega, (unhide HJ).symm, ho1, hb3⟩, by simp [intOf]; omega⟩
    · obtain rfl : k = xs.length := by omega
      have hcv1 := out_string _ _ _ _ ho
      have hlx := hl.out
      obtain ⟨e1, e2⟩ := unhide H2 (by rw [← hlx]; exact hll)
      rw [← hlx] at e2
      have HE := hide e2
      have HE1 := hide e1
      clear ho e2 e1 hlx hl
      go_wp2
      go_ret2
      exact ⟨by rw [unhide HE1, unhide HE]; rfl, hb⟩
end Go.Proofs.YtmplbdapehmciaaDoor
