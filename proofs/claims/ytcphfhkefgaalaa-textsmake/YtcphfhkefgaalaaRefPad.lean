/- What the document's own filling up of a text answers. -/
import Derived.Test.YtcphfhkefgaalaaPadding
import Derived.Test.YtcphfhkefgaalaaRefDupl
namespace Go.Proofs.Ytcphfhkefgaalaa
open Go.RowKit

set_option maxHeartbeats 400000 in
theorem refPad_wrong (t : ByteArray) (n : Int) (f : ByteArray) (b : Bool) (w : World) (hs : t.size ≤ maxLen) (_hf : f.size ≤ maxLen) (h : padE t n f ≠ 0) :
    Calls Try.prog 14 #[.string t, .int .i64 n, .string f, .bool b] w fun e w' => e = .returned (.tuple #[.string ⟨#[]⟩, .int .i64 (padE t n f)]) ∧ Below w.heap.size w w' := by
  by_cases h1 : 65536 < t.size
  · have e : padE t n f = 4 := by simp [padE, h1]
    rw [e]
    have HE := hide (show anyLong [t] = true by rw [anyLong_one]; simpa using h1)
    clear e h
    go_enter Try.func14, Try.ntmps14
    go_wp2_with (go_at_call 21; refine (much_one t _ _ hs (by simp)).mono ?_; rintro e w' ⟨rfl, rfl⟩; rw [unhide HE])
    go_ret2
    exact ⟨rfl, (Below.refl _ _).alloc (Nat.le_refl _) _⟩
  · have HE := hide (show anyLong [t] = false by rw [anyLong_one]; simpa using h1)
    by_cases h2 : f.size = 1
    · have h3 : 65536 < n := by
        by_cases h3 : 65536 < n
        · exact h3
        · exfalso; apply h; simp [padE, h1, h2, h3]
      have e : padE t n f = 4 := by simp [padE, h1, h2, h3]
      rw [e]
      have h2' : ((f.size : Int) != 1) = false := by rw [bne_eq_false_iff_eq]; omega
      clear e h h2
      go_enter Try.func14, Try.ntmps14
      go_wp2_with (go_at_call 21; refine (much_one t _ _ hs (by simp)).mono ?_; rintro e w' ⟨rfl, rfl⟩; rw [unhide HE])
      go_ret2
      exact ⟨rfl, (Below.refl _ _).alloc (Nat.le_refl _) _⟩
    · have e : padE t n f = 8 := by simp [padE, h1, h2]
      rw [e]
      have h2' : ((f.size : Int) != 1) = true := by rw [bne_iff_ne]; omega
      clear e h h2
      go_enter Try.func14, Try.ntmps14
      go_wp2_with (go_at_call 21; refine (much_one t _ _ hs (by simp)).mono ?_; rintro e w' ⟨rfl, rfl⟩; rw [unhide HE])
      go_ret2
      exact ⟨rfl, (Below.refl _ _).alloc (Nat.le_refl _) _⟩

theorem one_byte (f : ByteArray) (h : f.size = 1) : f.data.toList = [f[0]] := by
  obtain ⟨⟨l⟩⟩ := f
  match l, h with
  | [c], _ => rfl

/-- A slice's length. -/
def lenOf : Value → Nat
  | .slice _ n _ => n
  | _ => 0
theorem own_len {w : World} {B : Nat} {v : Value} {n : Nat} {xs : List Value} (h : w.ownsRow B 5 1 v n xs) : lenOf v = n := by
  rcases h.2 with ⟨rfl, h0⟩ | ⟨g, cap, cur, rfl, _, _, _, _, _, _⟩
  · exact h0.symm
  · rfl

set_option maxHeartbeats 1000000 in
theorem refPad_ok (t : ByteArray) (n : Int) (f : ByteArray) (b : Bool) (w : World) (h : padE t n f = 0) (b1 : -9223372036854775808 ≤ n) :
    Calls Try.prog 14 #[.string t, .int .i64 n, .string f, .bool b] w fun e w' => e = .returned (.tuple #[.string (if b = true then padV t n f ++ t else t ++ padV t n f), .int .i64 0]) ∧ Below w.heap.size w w' := by
  obtain ⟨hl, h1, h2⟩ := padE_zero t n f h
  have HE := hide (show anyLong [t] = false by rw [anyLong_one]; simpa using hl)
  obtain ⟨i0, hi, hz0, hz1, hz2⟩ := info_parts info_byte
  have v : padV t n f = rep f (n - (t.size : Int)).toNat := by simp [padV, h]
  rw [v]
  have h2' : ((f.size : Int) != 1) = false := by rw [bne_eq_false_iff_eq]; omega
  obtain ⟨M, hM⟩ : ∃ M : Nat, (n - (t.size : Int)).toNat = M := ⟨_, rfl⟩
  rw [hM]
  have H1 := hide (rep_succ f)
  have H2 := hide (one_byte f h1)
  have H3 := hide (fun k => rep_size f k)
  have H4 := hide h1
  have hf0 : (0 : Int) < (f.size : Int) := by omega
  clear v h
  go_enter Try.func14, Try.ntmps14
  go_wp2_with (go_at_call 21; refine (much_one t _ _ (by unfold maxLen; omega) (by simp)).mono ?_; rintro e w' ⟨rfl, rfl⟩; rw [unhide HE])
  go_loopw [10] (fun o wr => ∃ (k : Nat) (l : List UInt8), k ≤ M ∧ (l.length : Int) = (k : Int) ∧ Hid (l = (rep f k).data.toList) ∧ wr.ownsRow (w.heap.size + 1) 5 1 o l.length (l.map bc) ∧ Below w.heap.size w wr ∧ w.heap.size + 1 ≤ wr.heap.size) (fun o _ => M - lenOf o)
  case atStart => exact ⟨0, [], by omega, rfl, rfl, World.ownsRow_nil _ _ _ _, (Below.refl _ _).alloc (Nat.le_refl _) _, by simp⟩
  case round =>
    obtain ⟨k, l, hk, hll, hl', ho, hb, hsz⟩ := hrel
    have hvl0 := len_own ho
    have hlo := own_len ho
    by_cases hlt : k < M
    · have hcmp : (t.size : Int) + (l.length : Int) < n := by omega
      have hl2 : l ++ [f[0]'(by omega)] = (rep f (k + 1)).data.toList := by rw [unhide hl', unhide H1, unhide H2]
      have HL := hide hl2
      have HO := hide hlo
      clear hl2 hlo hl'
      have hlb : l.length ≤ 65536 := by omega
      go_wp2_with (at_builtin; refine wpList_append_own _ rfl _ _ 34 rfl (w.heap.size + 1) 5 i0 (.int .u8 0) 1 1 Try.underlying34 hi hz0 hz1 hz2 rfl (by decide) _ _ _ rfl (ho.alloc _) ⟨wr.heap.size, 0, none⟩ 1 1 [.int .u8 ((f[0]'(by omega)).toNat : Int)] rfl rfl (cell_one_new _ _ _) (by intro u hu; simp at hu; subst hu; rfl) (by unfold maxLen; omega) (by omega) (by simp; omega) ?_; intro v' w1 hown' hgrow _)
      have hb1 := (hb.alloc (by omega) (.cells #[.int .u8 ((f[0]'(by omega)).toNat : Int)] 5)).grown hgrow (by simp; omega) (fun g hg => by have := (ho.alloc (.cells #[.int .u8 ((f[0]'(by omega)).toNat : Int)] 5)).lt g hg; omega)
      have hs1 : w.heap.size + 1 ≤ w1.heap.size := by have := hgrow.size; simp at this; omega
      have hlo2 := own_len hown'
      have hlo3 := unhide HO
      have ho1 : w1.ownsRow (w.heap.size + 1) 5 1 v' (l ++ [f[0]'(by omega)]).length ((l ++ [f[0]'(by omega)]).map bc) := by
        have hjl : (l ++ [f[0]'(by omega)]).length = l.length + 1 := by simp
        rw [hjl, List.map_append]
        exact hown'
      clear hgrow ho hb
      go_roundw
      case rel => exact ⟨k + 1, l ++ [f[0]'(by omega)], by omega, by simp; omega, unhide HL, ho1, hb1, hs1⟩
      case measure => rw [hlo2, hlo3]; omega
    · obtain rfl : k = M := by omega
      have hcmp : n ≤ (t.size : Int) + (l.length : Int) := by omega
      have hcv1 := out_string _ _ _ _ ho
      have he3 : (⟨l.toArray⟩ : ByteArray) = rep f k := by rw [unhide hl']
      rw [he3] at hcv1
      have hrs : (rep f k).size ≤ 65536 := by rw [unhide H3, unhide H4]; omega
      obtain ⟨p, hp⟩ : ∃ p, p = rep f k := ⟨_, rfl⟩
      rw [← hp] at hcv1 hrs
      have HP := hide hp
      clear ho hl' he3 hlo H1 H3 hp
      cases b
      · go_wp2
        go_ret2
        exact ⟨by rw [← unhide HP]; rfl, hb⟩
      · go_wp2
        go_ret2
        exact ⟨by rw [← unhide HP]; rfl, hb⟩

theorem refLpad_any (t : ByteArray) (n : Int) (f : ByteArray) (w : World) (hs : t.size ≤ maxLen) (hf : f.size ≤ maxLen) (b1 : -9223372036854775808 ≤ n) :
    Calls Try.prog 14 #[.string t, .int .i64 n, .string f, .bool true] w fun e w' => e = .returned (.tuple #[.string (lpadV t n f), .int .i64 (padE t n f)]) ∧ Below w.heap.size w w' := by
  by_cases h : padE t n f = 0
  · have e : lpadV t n f = padV t n f ++ t := by simp [lpadV, h]
    rw [e, h]
    exact refPad_ok t n f true w h b1
  · have e : lpadV t n f = ⟨#[]⟩ := by simp [lpadV, h]
    rw [e]
    exact refPad_wrong t n f true w hs hf h
theorem refRpad_any (t : ByteArray) (n : Int) (f : ByteArray) (w : World) (hs : t.size ≤ maxLen) (hf : f.size ≤ maxLen) (b1 : -9223372036854775808 ≤ n) :
    Calls Try.prog 14 #[.string t, .int .i64 n, .string f, .bool false] w fun e w' => e = .returned (.tuple #[.string (rpadV t n f), .int .i64 (padE t n f)]) ∧ Below w.heap.size w w' := by
  by_cases h : padE t n f = 0
  · have e : rpadV t n f = t ++ padV t n f := by simp [rpadV, h]
    rw [e, h]
    exact refPad_ok t n f false w h b1
  · have e : rpadV t n f = ⟨#[]⟩ := by simp [rpadV, h]
    rw [e]
    exact refPad_wrong t n f false w hs hf h
end Go.Proofs.Ytcphfhkefgaalaa
