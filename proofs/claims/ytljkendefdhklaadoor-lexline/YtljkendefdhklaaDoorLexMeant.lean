/- What a token means. -/
import Derived.Test.YtljkendefdhklaaDoorLexMeantP
import Derived.Test.YtljkendefdhklaaDoorLexLib
import Derived.Test.YtljkendefdhklaaDoorLexRepLib
namespace Go.Proofs.YtljkendefdhklaaDoor
open Go.RowKit

set_option maxHeartbeats 400000 in
theorem lexClone_any (s : ByteArray) (w : World) (hs : s.size ≤ 1000000) : Calls Tryd.prog 27 #[.string s] w fun e w' => e = .returned (.string s) ∧ Below w.heap.size w w' := by
  go_enter Tryd.func27, Tryd.ntmps27
  go_wp2_with (go_at_call 31; refine (Tryd.stringslite_Clone s _ (by omega)).mono ?_; rintro e w' ⟨rfl, hb⟩)
  go_ret
  exact ⟨rfl, hb⟩

set_option maxHeartbeats 400000 in
theorem meant_plain (k : Nat) (t : ByteArray) (w : World) (ht : t.size ≤ 2000) (h3 : k ≠ 3) (h4 : k ≠ 4) :
    Calls Tryd.prog 14 #[.int .i64 (k : Int), .string t] w fun e w' => e = .returned (.string t) ∧ Below w.heap.size w w' := by
  have e3 : ((k : Int) == 3) = false := by rw [beq_eq_false_iff_ne]; omega
  have e4 : ((k : Int) == 4) = false := by rw [beq_eq_false_iff_ne]; omega
  have HC := hide (lexClone_any t w (by omega))
  clear h3 h4
  go_enter Tryd.func14, Tryd.ntmps14
  go_wp2_with (refine (unhide HC).mono ?_; rintro e w1 ⟨rfl, hb⟩)
  go_ret
  exact ⟨rfl, hb⟩

set_option maxHeartbeats 400000 in
theorem meant_pat (t : ByteArray) (w : World) (ht : t.size ≤ 2000) (h2 : 2 ≤ t.size) :
    Calls Tryd.prog 14 #[.int .i64 4, .string t] w fun e w' => e = .returned (.string (t.extract 1 (t.size - 1))) ∧ Below w.heap.size w w' := by
  have HC := hide (lexClone_any (t.extract 1 (t.size - 1)) w (by simp; omega))
  have g1 : (0 : Int) ≤ (t.size : Int) - 1 := by omega
  have g2 : (1 : Int) ≤ (t.size : Int) - 1 := by omega
  have g3 : ((t.size : Int) - 1).toNat = t.size - 1 := by omega
  go_enter Tryd.func14, Tryd.ntmps14
  go_wp2_with (refine (unhide HC).mono ?_; rintro e w1 ⟨rfl, hb⟩)
  go_ret
  exact ⟨rfl, hb⟩

set_option maxHeartbeats 400000 in
theorem meant_text (t : ByteArray) (w : World) (ht : t.size ≤ 2000) (h2 : 2 ≤ t.size) (m : Int) (hm : w.cell? ⟨0, 0, none⟩ = some (.int .i64 m)) :
    Calls Tryd.prog 14 #[.int .i64 3, .string t] w fun e w' => e = .returned (.string ⟨(und (t.extract 1 (t.size - 1)).data.toList).toArray⟩) ∧ Below w.heap.size w w' := by
  have hz : (t.extract 1 (t.size - 1)).size ≤ 2000 := by simp; omega
  have HR := hide (Tryd.strings_ReplaceAll (t.extract 1 (t.size - 1)) ⟨#[39, 39]⟩ ⟨#[39]⟩ m w (by omega) hm (by decide) (by have := Lib.countB_le ⟨#[39, 39]⟩ (by decide) (t.extract 1 (t.size - 1)).size (t.extract 1 (t.size - 1)) (Nat.le_refl _); show (t.extract 1 (t.size - 1)).size + _ * 1 ≤ _; omega))
  rw [show (⟨#[39, 39]⟩ : ByteArray).data.toList = [39, 39] from rfl, show (⟨#[39]⟩ : ByteArray).data.toList = [39] from rfl, replace_two] at HR
  have hle : (und (t.extract 1 (t.size - 1)).data.toList).length ≤ 2000 := Nat.le_trans (und_len _) (by simpa using hz)
  have HC := hide (fun W => lexClone_any ⟨(und (t.extract 1 (t.size - 1)).data.toList).toArray⟩ W (by show (und (t.extract 1 (t.size - 1)).data.toList).toArray.size ≤ _; simp only [List.size_toArray]; omega))
  generalize und (t.extract 1 (t.size - 1)).data.toList = U at *
  have g1 : (0 : Int) ≤ (t.size : Int) - 1 := by omega
  have g2 : (1 : Int) ≤ (t.size : Int) - 1 := by omega
  have g3 : ((t.size : Int) - 1).toNat = t.size - 1 := by omega
  clear hm hz
  go_enter Tryd.func14, Tryd.ntmps14
  go_wp2_with fail
  refine (unhide HR).mono ?_
  rintro e w1 ⟨rfl, hb⟩
  have HB := hide hb
  clear hb
  go_wp2_with (refine (unhide HC _).mono ?_; rintro e w2 ⟨rfl, hb⟩)
  go_ret
  exact ⟨rfl, bnext (unhide HB) hb⟩

theorem extract_size (s : ByteArray) (i j : Nat) (hj : j ≤ s.size) : (s.extract i j).size = j - i := by simp; omega
theorem ext_le (s : ByteArray) (i j : Nat) : (s.extract i j).size ≤ s.size := by simp; omega
theorem meant_any (s : ByteArray) (i : Nat) (hs : s.size ≤ 2000) (hi : i < s.size) (hk : (tk s i).1 ≠ 0) (w : World) (m : Int) (hm : w.cell? ⟨0, 0, none⟩ = some (.int .i64 m)) :
    Calls Tryd.prog 14 #[.int .i64 ((tk s i).1 : Int), .string (s.extract i (tk s i).2.1)] w fun e w' => e = .returned (.string (tk s i).2.2) ∧ Below w.heap.size w w' := by
  have hle := tk_le s i hi
  have hq := cq_le s (i + 1) (by omega)
  have hb := cb_le s (i + 1) (by omega)
  have hsz := extract_size s i (tk s i).2.1 hle.2.1
  unfold tk at hk hle hsz ⊢
  split
  · rename_i h1
    rw [if_pos h1] at hsz
    exact meant_plain 1 _ w (Nat.le_trans (ext_le s _ _) hs) (by decide) (by decide)
  · rename_i h1
    rw [if_neg h1] at hsz hk hle
    split
    · rename_i h2
      rw [if_pos h2] at hsz
      exact meant_plain 2 _ w (Nat.le_trans (ext_le s _ _) hs) (by decide) (by decide)
    · rename_i h2
      rw [if_neg h2] at hsz hk hle
      split
      · rename_i h3
        rw [if_pos h3] at hsz hk hle
        split
        · rename_i h4; rw [if_pos h4] at hk; exact absurd rfl hk
        · rename_i h4
          rw [if_neg h4] at hsz
          dsimp only at hsz ⊢
          have := meant_text (s.extract i (cq s (i + 1) + 1)) w (by omega) (by omega) m hm
          rw [extract_inner s i _ (by omega) (by omega), sec_data, Nat.add_sub_cancel, ct_und s (i + 1) (by omega) (by omega)] at this
          exact this
      · rename_i h3
        rw [if_neg h3] at hsz hk hle
        split
        · rename_i h4
          rw [if_pos h4] at hsz hk hle
          split
          · rename_i h5; rw [if_pos h5] at hk; exact absurd rfl hk
          · rename_i h5
            rw [if_neg h5] at hsz
            dsimp only at hsz ⊢
            have := meant_pat (s.extract i (cb s (i + 1) + 1)) w (by omega) (by omega)
            rw [extract_inner s i _ (by omega) (by omega), Nat.add_sub_cancel] at this
            exact this
        · rename_i h4
          rw [if_neg h4] at hsz hk hle
          split
          · rename_i h5
            rw [if_pos h5] at hsz
            exact meant_plain 5 _ w (Nat.le_trans (ext_le s _ _) hs) (by decide) (by decide)
          · rename_i h5
            rw [if_neg h5] at hsz hk hle
            split
            · rename_i h6
              rw [if_pos h6] at hsz
              exact meant_plain 5 _ w (Nat.le_trans (ext_le s _ _) hs) (by decide) (by decide)
            · rename_i h6
              rw [if_neg h6] at hk
              exact absurd rfl hk
end Go.Proofs.YtljkendefdhklaaDoor
