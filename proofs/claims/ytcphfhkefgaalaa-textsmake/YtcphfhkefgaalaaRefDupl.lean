/- What the document's own copying of a text answers. -/
import Derived.Test.YtcphfhkefgaalaaDuplAny
import Derived.Test.YtcphfhkefgaalaaMuch
import Derived.Test.YtcphfhkefgaalaaBytes
import Derived.Lib.AppendStr
namespace Go.Proofs.Ytcphfhkefgaalaa
open Go.RowKit

theorem rep_zero (t : ByteArray) : rep t 0 = ⟨#[]⟩ := rfl
theorem rep_succ (t : ByteArray) (k : Nat) : (rep t (k + 1)).data.toList = (rep t k).data.toList ++ t.data.toList := by
  have h1 : rep t 1 = t := by
    apply ByteArray.ext
    simp [rep, Lib.repeatL]
  rw [rep_add, h1, ByteArray.data_append]; simp

set_option maxHeartbeats 400000 in
theorem refDupl_wrong (t : ByteArray) (n : Int) (w : World) (hs : t.size ≤ maxLen) (h : 65536 < t.size ∨ n < 0) :
    Calls Try.prog 8 #[.string t, .int .i64 n] w fun e w' => e = .returned (.tuple #[.string (duplV t n), .int .i64 (duplE t n)]) ∧ Below w.heap.size w w' := by
  by_cases h1 : 65536 < t.size
  · have e : duplE t n = 4 := by simp [duplE, h1]
    have v : duplV t n = ⟨#[]⟩ := by simp [duplV, e]
    rw [v, e]
    have HE := hide (show anyLong [t] = true by rw [anyLong_one]; simpa using h1)
    clear e v h
    go_enter Try.func8, Try.ntmps8
    go_wp2_with (go_at_call 21; refine (much_one t _ _ hs (by simp)).mono ?_; rintro e w' ⟨rfl, rfl⟩; rw [unhide HE])
    go_ret2
    exact ⟨rfl, (Below.refl _ _).alloc (Nat.le_refl _) _⟩
  · have h2 : n < 0 := by omega
    have e : duplE t n = 3 := by simp [duplE, h1, h2]
    have v : duplV t n = ⟨#[]⟩ := by simp [duplV, e]
    rw [v, e]
    have HE := hide (show anyLong [t] = false by rw [anyLong_one]; simpa using h1)
    clear e v h
    go_enter Try.func8, Try.ntmps8
    go_wp2_with (go_at_call 21; refine (much_one t _ _ hs (by simp)).mono ?_; rintro e w' ⟨rfl, rfl⟩; rw [unhide HE])
    go_ret2
    exact ⟨rfl, (Below.refl _ _).alloc (Nat.le_refl _) _⟩

set_option maxHeartbeats 1000000 in
theorem refDupl_ok (t : ByteArray) (n : Int) (w : World) (hl : t.size ≤ 65536) (hn : 0 ≤ n) (_hn2 : n ≤ 9223372036854775807) :
    Calls Try.prog 8 #[.string t, .int .i64 n] w fun e w' => e = .returned (.tuple #[.string (duplV t n), .int .i64 (duplE t n)]) ∧ Below w.heap.size w w' := by
  have HE := hide (show anyLong [t] = false by rw [anyLong_one]; simpa using hl)
  obtain ⟨i0, hi, hz0, hz1, hz2⟩ := info_parts info_byte
  by_cases h0 : t.size = 0
  · have e : duplE t n = 0 := by
      unfold duplE
      rw [if_neg (by omega), if_neg (by omega), h0]
      simp
    have v : duplV t n = ⟨#[]⟩ := by
      unfold duplV
      rw [if_pos e, rep_empty t _ h0]
    rw [v, e]
    have hd : decide ((0 : Int) < (t.size : Int)) = false := decide_eq_false (by omega)
    clear e v
    go_enter Try.func8, Try.ntmps8
    go_wp2_with (go_at_call 21; refine (much_one t _ _ (by unfold maxLen; omega) (by simp)).mono ?_; rintro e w' ⟨rfl, rfl⟩; rw [unhide HE])
    go_loopw [6, 7] (fun o i wr => o = .slice none 0 0 ∧ i = .int .i64 0 ∧ Below w.heap.size w wr) (fun _ _ _ => 0)
    case atStart => exact ⟨rfl, rfl, (Below.refl _ _).alloc (Nat.le_refl _) _⟩
    case round =>
      obtain ⟨rfl, rfl, hb⟩ := hrel
      have hcv1 := out_string _ [] w.heap.size _ (World.ownsRow_nil wr w.heap.size 5 1)
      by_cases h3 : decide ((0 : Int) < n) = true
      · go_wp2
        go_ret2
        exact ⟨rfl, hb⟩
      · have h3' := Bool.eq_false_iff.2 h3
        clear h3
        go_wp2
        go_ret2
        exact ⟨rfl, hb⟩
  · have hp : 0 < t.size := by omega
    have hd : decide ((0 : Int) < (t.size : Int)) = true := by simp; omega
    have H1 := hide (fun k : Nat => rep_size t k)
    have H2 := hide (rep_succ t)
    have hmul : ∀ k : Nat, (k : Int) ≤ n → ((k * t.size : Nat) : Int) ≤ n * (t.size : Int) := fun k hk => by
      rw [Int.natCast_mul]
      exact Int.mul_le_mul_of_nonneg_right hk (by omega)
    have hover : ∀ k : Nat, (k : Int) ≤ n → 65536 < k * t.size → duplE t n = 4 ∧ duplV t n = ⟨#[]⟩ := fun k hk hb => by
      have := hmul k hk
      have e : duplE t n = 4 := by
        unfold duplE
        rw [if_neg (by omega), if_neg (by omega), if_pos (by omega)]
      exact ⟨e, by simp [duplV, e]⟩
    have hend : ∀ k : Nat, (k : Int) = n → k * t.size ≤ 65536 → duplE t n = 0 ∧ duplV t n = rep t k := fun k hk hb => by
      have e : duplE t n = 0 := by
        unfold duplE
        rw [if_neg (by omega), if_neg (by omega), if_neg (by rw [← hk, ← Int.natCast_mul]; omega)]
      refine ⟨e, ?_⟩
      unfold duplV
      rw [if_pos e, ← hk, Int.toNat_natCast]
    have hkb : ∀ k : Nat, k * t.size ≤ 65536 → k ≤ 65536 := fun k hk => by
      have : k * 1 ≤ k * t.size := Nat.mul_le_mul_left k hp
      omega
    have H3 := hide hover
    have H4 := hide hend
    have H5 := hide hkb
    clear hmul hover hend hkb
    generalize duplE t n = E at *
    generalize duplV t n = V at *
    go_enter Try.func8, Try.ntmps8
    go_wp2_with (go_at_call 21; refine (much_one t _ _ (by unfold maxLen; omega) (by simp)).mono ?_; rintro e w' ⟨rfl, rfl⟩; rw [unhide HE])
    go_loopw [6, 7] (fun o i wr => ∃ (k : Nat) (l : List UInt8), (k : Int) ≤ n ∧ i = .int .i64 (k : Int) ∧ Hid (k * t.size ≤ 65536) ∧ Hid (l = (rep t k).data.toList) ∧ wr.ownsRow (w.heap.size + 1) 5 1 o l.length (l.map bc) ∧ Below w.heap.size w wr ∧ w.heap.size + 1 ≤ wr.heap.size) (fun _ i _ => (n - intOf i).toNat)
    case atStart => exact ⟨0, [], by omega, rfl, by show 0 * t.size ≤ 65536; omega, rfl, World.ownsRow_nil _ _ _ _, (Below.refl _ _).alloc (Nat.le_refl _) _, by simp⟩
    case round =>
      obtain ⟨k, l, hk, rfl, hkm, hl', ho, hb, hsz⟩ := hrel
      have hk2 := unhide H5 k (unhide hkm)
      have hll : l.length = k * t.size := by rw [unhide hl', Array.length_toList]; exact unhide H1 k
      by_cases hlt : (k : Int) < n
      · have hdk : decide ((k : Int) < n) = true := by simpa using hlt
        have hl2 : l ++ t.data.toList = (rep t (k + 1)).data.toList := by rw [unhide hl', unhide H2]
        have hlen2 : l.length + t.size = (k + 1) * t.size := by rw [hll, Nat.add_mul, Nat.one_mul]
        have HL := hide hl2
        have HM := hide hlen2
        have hllb : l.length ≤ 65536 := by rw [hll]; exact unhide hkm
        clear hl2 hlen2 hll hl'
        go_wp2_with (at_builtin; refine Lib.wpList_append_own_string _ rfl _ _ 34 9 rfl (w.heap.size + 1) 5 i0 Try.underlying34 Try.underlying9 hi hz0 hz1 hz2 _ _ _ rfl (by exact ho) t rfl (by unfold maxLen; omega) (by omega) (by omega) ?_; intro v' w1 hown' hgrow _; have hvl := len_own hown')
        · have hbig : 65536 < (l.length : Int) + (t.size : Int) := by assumption
          have hmm := unhide HM
          obtain ⟨e1, e2⟩ := unhide H3 (k + 1) (by omega) (by rw [← hmm]; omega)
          have hb1 := hb.grown hgrow (by omega) (fun g hg => by have := (ho.lt g hg).1; omega)
          go_ret2
          exact ⟨by rw [e1, e2]; rfl, hb1⟩
        · have hsm : (l.length : Int) + (t.size : Int) ≤ 65536 := by assumption
          have hmm := unhide HM
          have hb1 := hb.grown hgrow (by omega) (fun g hg => by have := (ho.lt g hg).1; omega)
          have hs1 : w.heap.size + 1 ≤ w1.heap.size := by have := hgrow.size; omega
          have ho1 : w1.ownsRow (w.heap.size + 1) 5 1 v' (l ++ t.data.toList).length ((l ++ t.data.toList).map bc) := by
            have hjl : (l ++ t.data.toList).length = l.length + t.size := by simp
            rw [hjl, List.map_append]
            exact hown'
          exact ⟨⟨k + 1, l ++ t.data.toList, by omega, by go_num, by show (k + 1) * t.size ≤ 65536; rw [← hmm]; omega, unhide HL, ho1, hb1, hs1⟩, by simp [intOf]; omega⟩
      · have hdk : decide ((k : Int) < n) = false := by simpa using hlt
        have hcv1 := out_string _ _ _ _ ho
        obtain ⟨e1, e2⟩ := unhide H4 k (by omega) (unhide hkm)
        have he3 : (⟨l.toArray⟩ : ByteArray) = V := by rw [e2, unhide hl']
        have HE3 := hide he3
        have HE1 := hide e1
        clear ho e1 e2 he3 hll
        go_wp2
        go_ret2
        exact ⟨by rw [unhide HE1, ← unhide HE3]; rfl, hb⟩

theorem refDupl_any (t : ByteArray) (n : Int) (w : World) (hs : t.size ≤ maxLen) (hn2 : n ≤ 9223372036854775807) :
    Calls Try.prog 8 #[.string t, .int .i64 n] w fun e w' => e = .returned (.tuple #[.string (duplV t n), .int .i64 (duplE t n)]) ∧ Below w.heap.size w w' := by
  by_cases h : 65536 < t.size ∨ n < 0
  · exact refDupl_wrong t n w hs h
  · exact refDupl_ok t n w (by omega) (by omega) hn2
end Go.Proofs.Ytcphfhkefgaalaa
