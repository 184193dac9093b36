/- What texts.padding, texts.Lpad and texts.Rpad do, for every input. -/
import Derived.Test.YtcphfhkefgaalaaDupl
namespace Go.Proofs.Ytcphfhkefgaalaa
open Go.RowKit

/-- What is wrong with a padding. -/
def padE (t : ByteArray) (n : Int) (f : ByteArray) : Int := if 65536 < t.size then 4 else if f.size ≠ 1 then 8 else if 65536 < n then 4 else 0
/-- What is laid beside a text. -/
def padV (t : ByteArray) (n : Int) (f : ByteArray) : ByteArray := if padE t n f = 0 then rep f (n - (t.size : Int)).toNat else ⟨#[]⟩
theorem padE_zero (t : ByteArray) (n : Int) (f : ByteArray) (h : padE t n f = 0) : t.size ≤ 65536 ∧ f.size = 1 ∧ n ≤ 65536 := by
  unfold padE at h
  split at h
  · simp at h
  · split at h
    · simp at h
    · split at h
      · simp at h
      · exact ⟨by omega, by omega, by omega⟩
theorem padV_size (t : ByteArray) (n : Int) (f : ByteArray) (h : padE t n f = 0) : (padV t n f).size = (n - (t.size : Int)).toNat := by
  have := padE_zero t n f h
  unfold padV
  rw [if_pos h, rep_size, this.2.1, Nat.mul_one]

set_option maxHeartbeats 400000 in
theorem padding_any (t : ByteArray) (n : Int) (f : ByteArray) (w : World) (hs : t.size ≤ maxLen) (_hf : f.size ≤ maxLen) (b1 : -9223372036854775808 ≤ n) (b2 : n ≤ 9223372036854775807) :
    Calls Try.prog 23 #[.string t, .int .i64 n, .string f] w fun e w' => e = .returned (.tuple #[.string (padV t n f), .int .i64 (padE t n f)]) ∧ Below w.heap.size w w' := by
  by_cases h1 : 65536 < t.size
  · have e : padE t n f = 4 := by simp [padE, h1]
    have v : padV t n f = ⟨#[]⟩ := by simp [padV, e]
    rw [v, e]
    have HE := hide (show anyLong [t] = true by rw [anyLong_one]; simpa using h1)
    clear e v
    go_enter Try.func23, Try.ntmps23
    go_wp2_with (go_at_call 18; refine (tooLong_one t _ _ hs (by simp)).mono ?_; rintro e w' ⟨rfl, rfl⟩; rw [unhide HE])
    go_ret2
    exact ⟨rfl, (Below.refl _ _).alloc (Nat.le_refl _) _⟩
  · have HE := hide (show anyLong [t] = false by rw [anyLong_one]; simpa using h1)
    by_cases h2 : f.size = 1
    · by_cases h3 : 65536 < n
      · have e : padE t n f = 4 := by simp [padE, h1, h2, h3]
        have v : padV t n f = ⟨#[]⟩ := by simp [padV, e]
        rw [v, e]
        have h2' : ((f.size : Int) != 1) = false := by rw [bne_eq_false_iff_eq]; omega
        clear e v h2
        go_enter Try.func23, Try.ntmps23
        go_wp2_with (go_at_call 18; refine (tooLong_one t _ _ hs (by simp)).mono ?_; rintro e w' ⟨rfl, rfl⟩; rw [unhide HE])
        go_ret2
        exact ⟨rfl, (Below.refl _ _).alloc (Nat.le_refl _) _⟩
      · have e : padE t n f = 0 := by simp [padE, h1, h2, h3]
        have v : padV t n f = rep f (n - (t.size : Int)).toNat := by simp [padV, e]
        rw [v, e]
        have h2' : ((f.size : Int) != 1) = false := by rw [bne_eq_false_iff_eq]; omega
        by_cases h4 : n ≤ (t.size : Int)
        · have v2 : rep f (n - (t.size : Int)).toNat = ⟨#[]⟩ := by
            rw [show (n - (t.size : Int)).toNat = 0 from by omega]; rfl
          rw [v2]
          clear e v v2 h2
          go_enter Try.func23, Try.ntmps23
          go_wp2_with (go_at_call 18; refine (tooLong_one t _ _ hs (by simp)).mono ?_; rintro e w' ⟨rfl, rfl⟩; rw [unhide HE])
          go_ret2
          exact ⟨rfl, (Below.refl _ _).alloc (Nat.le_refl _) _⟩
        · obtain ⟨c, hc⟩ : ∃ c : Nat, n - (t.size : Int) = (c : Int) := ⟨(n - (t.size : Int)).toNat, by omega⟩
          rw [hc, Int.toNat_natCast]
          have hcb : c ≤ 65536 := by omega
          have HF := hide (show f.size * c ≤ 140737488355328 by rw [h2]; omega)
          clear e v h2
          go_enter Try.func23, Try.ntmps23
          go_wp2_with (first | (go_at_call 18; refine (tooLong_one t _ _ hs (by simp)).mono ?_; rintro e w' ⟨rfl, rfl⟩; rw [unhide HE]) | (go_at_call 20; refine (Try.strings_Repeat f c _ (by omega) (unhide HF)).mono ?_; rintro e w1 ⟨rfl, hb1⟩))
          go_ret2
          exact ⟨rfl, bnext ((Below.refl _ _).alloc (Nat.le_refl _) _) hb1⟩
    · have e : padE t n f = 8 := by simp [padE, h1, h2]
      have v : padV t n f = ⟨#[]⟩ := by simp [padV, e]
      rw [v, e]
      have h2' : ((f.size : Int) != 1) = true := by rw [bne_iff_ne]; omega
      clear e v h2
      go_enter Try.func23, Try.ntmps23
      go_wp2_with (go_at_call 18; refine (tooLong_one t _ _ hs (by simp)).mono ?_; rintro e w' ⟨rfl, rfl⟩; rw [unhide HE])
      go_ret2
      exact ⟨rfl, (Below.refl _ _).alloc (Nat.le_refl _) _⟩

/-- What Lpad and Rpad answer. -/
def lpadV (t : ByteArray) (n : Int) (f : ByteArray) : ByteArray := if padE t n f = 0 then padV t n f ++ t else ⟨#[]⟩
def rpadV (t : ByteArray) (n : Int) (f : ByteArray) : ByteArray := if padE t n f = 0 then t ++ padV t n f else ⟨#[]⟩

set_option maxHeartbeats 400000 in
theorem lpad_any (t : ByteArray) (n : Int) (f : ByteArray) (w : World) (hs : t.size ≤ maxLen) (hf : f.size ≤ maxLen) (b1 : -9223372036854775808 ≤ n) (b2 : n ≤ 9223372036854775807) :
    Calls Try.prog 13 #[.string t, .int .i64 n, .string f] w fun e w' => e = .returned (.tuple #[.string (lpadV t n f), .int .i64 (padE t n f)]) ∧ Below w.heap.size w w' := by
  have c := fun W => padding_any t n f W hs hf b1 b2
  by_cases h : padE t n f = 0
  · have hz := padE_zero t n f h
    have hv := padV_size t n f h
    have e : lpadV t n f = padV t n f ++ t := by simp [lpadV, h]
    rw [e, h]
    rw [h] at c
    generalize padV t n f = p at *
    have hp : p.size ≤ 65536 := by omega
    have ht : t.size ≤ 65536 := hz.1
    have HC := hide c
    clear c e hz hv h
    go_enter Try.func13, Try.ntmps13
    go_wp2_with (first | (go_at_call 23; refine (unhide HC _).mono ?_; rintro e w1 ⟨rfl, hb1⟩) | (go_at_call 19; refine (clone_any (p ++ t) _ (by rw [ByteArray.size_append]; omega)).mono ?_; rintro e w2 ⟨rfl, hb2⟩))
    go_ret2
    exact ⟨rfl, bnext hb1 hb2⟩
  · have e : lpadV t n f = ⟨#[]⟩ := by simp [lpadV, h]
    rw [e]
    have hne : (padE t n f != 0) = true := by rw [bne_iff_ne]; exact h
    generalize padV t n f = p at *
    generalize padE t n f = q at *
    have HC := hide c
    clear c e h
    go_enter Try.func13, Try.ntmps13
    go_wp2_with (go_at_call 23; refine (unhide HC _).mono ?_; rintro e w1 ⟨rfl, hb1⟩)
    go_ret2
    exact ⟨rfl, hb1⟩

set_option maxHeartbeats 400000 in
theorem rpad_any (t : ByteArray) (n : Int) (f : ByteArray) (w : World) (hs : t.size ≤ maxLen) (hf : f.size ≤ maxLen) (b1 : -9223372036854775808 ≤ n) (b2 : n ≤ 9223372036854775807) :
    Calls Try.prog 15 #[.string t, .int .i64 n, .string f] w fun e w' => e = .returned (.tuple #[.string (rpadV t n f), .int .i64 (padE t n f)]) ∧ Below w.heap.size w w' := by
  have c := fun W => padding_any t n f W hs hf b1 b2
  by_cases h : padE t n f = 0
  · have hz := padE_zero t n f h
    have hv := padV_size t n f h
    have e : rpadV t n f = t ++ padV t n f := by simp [rpadV, h]
    rw [e, h]
    rw [h] at c
    generalize padV t n f = p at *
    have hp : p.size ≤ 65536 := by omega
    have ht : t.size ≤ 65536 := hz.1
    have HC := hide c
    clear c e hz hv h
    go_enter Try.func15, Try.ntmps15
    go_wp2_with (first | (go_at_call 23; refine (unhide HC _).mono ?_; rintro e w1 ⟨rfl, hb1⟩) | (go_at_call 19; refine (clone_any (t ++ p) _ (by rw [ByteArray.size_append]; omega)).mono ?_; rintro e w2 ⟨rfl, hb2⟩))
    go_ret2
    exact ⟨rfl, bnext hb1 hb2⟩
  · have e : rpadV t n f = ⟨#[]⟩ := by simp [rpadV, h]
    rw [e]
    have hne : (padE t n f != 0) = true := by rw [bne_iff_ne]; exact h
    generalize padV t n f = p at *
    generalize padE t n f = q at *
    have HC := hide c
    clear c e h
    go_enter Try.func15, Try.ntmps15
    go_wp2_with (go_at_call 23; refine (unhide HC _).mono ?_; rintro e w1 ⟨rfl, hb1⟩)
    go_ret2
    exact ⟨rfl, hb1⟩
end Go.Proofs.Ytcphfhkefgaalaa
