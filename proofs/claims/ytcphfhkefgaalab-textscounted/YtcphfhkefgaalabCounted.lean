/- What the law TextsCounted answers, for every two texts and number: true. -/
import Derived.Test.YtcphfhkefgaalabCount
namespace Go.Proofs.Ytcphfhkefgaalab
open Go.RowKit

theorem countV_eq (t p : ByteArray) (h : countE t p = 0) : countV t p = ((Lib.countB t p : Nat) : Int) := by simp [countV, h]
theorem cut_data (t : ByteArray) (c : Nat) : t.data.toList = (t.extract 0 c).data.toList ++ (t.extract c t.size).data.toList := by
  rw [ByteArray.data_extract, ByteArray.data_extract, Array.toList_extract, Array.toList_extract, List.extract_eq_take_drop, List.extract_eq_take_drop]
  rw [List.drop_zero, Nat.sub_zero, List.take_of_length_le (l := t.data.toList.drop c) (by simp)]
  simp
theorem count_cut (t p : ByteArray) (c : Nat) (hp : 1 ≤ p.size) :
    ((Lib.countB (t.extract 0 c) p : Nat) : Int) + ((Lib.countB (t.extract c t.size) p : Nat) : Int) ≤ ((Lib.countB t p : Nat) : Int) ∧
    ((Lib.countB t p : Nat) : Int) ≤ ((Lib.countB (t.extract 0 c) p : Nat) : Int) + ((Lib.countB (t.extract c t.size) p : Nat) : Int) + 1 := by
  have hne : p.data.toList ≠ [] := by
    intro e
    have hl : p.data.toList.length = p.size := by simp
    rw [e, List.length_nil] at hl
    omega
  have := cnt_cut p.data.toList hne (t.extract c t.size).data.toList _ (t.extract 0 c).data.toList (Nat.le_refl _)
  rw [← cut_data t c] at this
  unfold Lib.countB
  omega
theorem count_room (t p : ByteArray) (hp : 1 ≤ p.size) : ((Lib.countB t p : Nat) : Int) ≤ (t.size : Int) / (p.size : Int) := by
  have h := Lib.countB_mul_le p hp t.size t (Nat.le_refl _)
  apply (Int.le_ediv_iff_mul_le (by omega)).2
  have e : ((Lib.countB t p * p.size : Nat) : Int) = ((Lib.countB t p : Nat) : Int) * (p.size : Int) := Int.natCast_mul _ _
  omega

set_option maxHeartbeats 1000000 in
theorem textsCounted_walk (a0 : ByteArray) (a1 : ByteArray) (a2 : Int) (w0 : a0.size ≤ maxLen) (w1 : a1.size ≤ maxLen) (w2 : (Lit.int .i64 a2).wf = true) (w : World) (m : Int) (hm : w.cell? ⟨0, 0, none⟩ = some (.int .i64 m)) :
    Calls Try.prog 7 #[.string a0, .string a1, .int .i64 a2] w fun e w' => e = .returned (.bool true) ∧ Below w.heap.size w w' := by
  have b2 := bounds_i64 w2
  clear w2
  have c1 := fun W hW => count_any a0 a1 m W w0 w1 hW
  have HM := hide hm
  clear hm
  by_cases h : countE a0 a1 = 0
  · obtain ⟨h0, h1, hp⟩ := countE_zero a0 a1 h
    have hroom := count_room a0 a1 hp
    have hcl := Lib.countB_mul_le a1 hp a0.size a0 (Nat.le_refl _)
    have hcb : Lib.countB a0 a1 ≤ 65536 := by
      have := Nat.le_mul_of_pos_right (Lib.countB a0 a1) (show 0 < a1.size by omega)
      omega
    rw [countV_eq a0 a1 h, h] at c1
    have hp' : (1 : Int) ≤ (a1.size : Int) := by omega
    have hz0 : ¬ a1.size = 0 := by omega
    have hqb : (a0.size : Int) / (a1.size : Int) ≤ 65536 := Int.le_trans (Int.ediv_le_self _ (by omega)) (by omega)
    by_cases hcut : 0 ≤ a2 ∧ a2 ≤ (a0.size : Int)
    · obtain ⟨hc0, hc1⟩ := hcut
      obtain ⟨c, rfl⟩ := Int.eq_ofNat_of_zero_le hc0
      have hc : c ≤ a0.size := by omega
      have hcc := count_cut a0 a1 c hp
      have s1 : (a0.extract 0 c).size ≤ 65536 := by rw [ByteArray.size_extract]; omega
      have s2 : (a0.extract c a0.size).size ≤ 65536 := by rw [ByteArray.size_extract]; omega
      have e1 := countE_ok (a0.extract 0 c) a1 s1 h1 hp
      have e2 := countE_ok (a0.extract c a0.size) a1 s2 h1 hp
      have c2 := fun W hW => count_any (a0.extract 0 c) a1 m W (by unfold maxLen; omega) w1 hW
      have c3 := fun W hW => count_any (a0.extract c a0.size) a1 m W (by unfold maxLen; omega) w1 hW
      rw [countV_eq _ _ e1, e1] at c2
      rw [countV_eq _ _ e2, e2] at c3
      generalize Lib.countB a0 a1 = n at *
      generalize Lib.countB (a0.extract 0 c) a1 = x at *
      generalize Lib.countB (a0.extract c a0.size) a1 = y at *
      obtain ⟨g1, g2⟩ := hcc
      have C1 := hide c1
      have C2 := hide c2
      have C3 := hide c3
      generalize hq : (a0.size : Int) / (a1.size : Int) = q at *
      clear c1 c2 c3 e1 e2 s1 s2 h hcl
      go_enter Try.func7, Try.ntmps7
      go_wp2_with fail
      refine (alive_any _).mono ?_
      rintro e w3 ⟨rfl, hb3⟩
      go_wp2_with fail
      refine (unhide C1 _ (cell_later hb3 (unhide HM))).mono ?_
      rintro e w4 ⟨rfl, hb4⟩
      have hb4 := bnext hb3 hb4
      go_wp2_with fail
      refine (unhide C2 _ (cell_later hb4 (unhide HM))).mono ?_
      rintro e w5 ⟨rfl, hb5⟩
      have hb5 := bnext hb4 hb5
      go_wp2_with fail
      refine (unhide C3 _ (cell_later hb5 (unhide HM))).mono ?_
      rintro e w6 ⟨rfl, hb6⟩
      have hb6 := bnext hb5 hb6
      go_wp2
      all_goals go_ret
      all_goals first | exact ⟨rfl, hb6⟩ | (refine ⟨ret_bool ?_, hb6⟩; simp; omega)
    · generalize Lib.countB a0 a1 = n at *
      have C1 := hide c1
      generalize hq : (a0.size : Int) / (a1.size : Int) = q at *
      clear c1 h hcl
      have hcases : a2 < 0 ∨ (0 ≤ a2 ∧ (a0.size : Int) < a2) := by omega
      clear hcut
      rcases hcases with hx | ⟨hx, hx'⟩
      all_goals
        go_enter Try.func7, Try.ntmps7
        go_wp2_with fail
        refine (alive_any _).mono ?_
        rintro e w3 ⟨rfl, hb3⟩
        go_wp2_with fail
        refine (unhide C1 _ (cell_later hb3 (unhide HM))).mono ?_
        rintro e w4 ⟨rfl, hb4⟩
        go_wp2
        go_ret
        exact ⟨rfl, bnext hb3 hb4⟩
  · have hne : (countE a0 a1 != 0) = true := by rw [bne_iff_ne]; exact h
    generalize countV a0 a1 = x at *
    generalize countE a0 a1 = q at *
    have C1 := hide c1
    clear c1 h
    go_enter Try.func7, Try.ntmps7
    go_wp2_with fail
    refine (alive_any _).mono ?_
    rintro e w3 ⟨rfl, hb3⟩
    go_wp2_with fail
    refine (unhide C1 _ (cell_later hb3 (unhide HM))).mono ?_
    rintro e w4 ⟨rfl, hb4⟩
    go_wp2
    go_ret
    exact ⟨rfl, bnext hb3 hb4⟩
end Go.Proofs.Ytcphfhkefgaalab
