/- What the document's own splitting answers. -/
import Derived.Test.YtmplbdapehmciaaDoorSplit
import Derived.Test.YtmplbdapehmciaaDoorMuch
namespace Go.Proofs.YtmplbdapehmciaaDoor
open Go.RowKit

set_option maxHeartbeats 400000 in
theorem refSplit_much (t s : ByteArray) (w : World) (ht : t.size ≤ maxLen) (hl : 65536 < t.size) :
    Calls Tryd.prog 5 #[.string t, .string s] w fun e w' => e = .returned (.tuple #[.slice none 0 0, .int .i64 4]) ∧ Below w.heap.size w w' := by
  have HE := hide (show anyLong [t] = true by rw [anyLong_one]; simpa using hl)
  go_enter Tryd.func5, Tryd.ntmps5
  go_wp2_with (go_at_call 12; refine (much_one t _ _ ht (by simp)).mono ?_; rintro e w' ⟨rfl, rfl⟩; rw [unhide HE])
  go_ret2
  exact ⟨rfl, (Below.refl _ _).alloc (Nat.le_refl _) _⟩

set_option maxHeartbeats 400000 in
theorem refSplit_fit (t s : ByteArray) (w : World) (hl : t.size ≤ 65536) (hs : s.size ≠ 1) :
    Calls Tryd.prog 5 #[.string t, .string s] w fun e w' => e = .returned (.tuple #[.slice none 0 0, .int .i64 8]) ∧ Below w.heap.size w w' := by
  have HE := hide (show anyLong [t] = false by rw [anyLong_one]; simpa using hl)
  have h2 : ((s.size : Int) != 1) = true := by rw [bne_iff_ne]; omega
  clear hs
  go_enter Tryd.func5, Tryd.ntmps5
  go_wp2_with (go_at_call 12; refine (much_one t _ _ (by unfold maxLen; omega) (by simp)).mono ?_; rintro e w' ⟨rfl, rfl⟩; rw [unhide HE])
  go_ret2
  exact ⟨rfl, (Below.refl _ _).alloc (Nat.le_refl _) _⟩

theorem ext_list (t : ByteArray) (a b : Nat) : t.extract a b = mkT ((t.data.toList.drop a).take (b - a)) := by
  apply ByteArray.ext
  unfold mkT
  rw [ByteArray.data_extract]
  apply Array.toList_inj.1
  rw [Array.toList_extract, List.extract_eq_take_drop]
theorem rs_start (t : ByteArray) (c : UInt8) : pieces c t = [] ++ (glue ((t.data.toList.drop 0).take (0 - 0)) (pcs c (t.data.toList.drop 0))).map mkT := by
  simp only [List.drop_zero, Nat.sub_zero, List.take_zero, List.nil_append]
  rw [glue_nil _ (pcs_ne _ _)]; rfl
theorem rs_hit (t : ByteArray) (c : UInt8) (dn : List ByteArray) (f i : Nat) (hi : i < t.size) (hc : t[i] = c) (h : pieces c t = dn ++ (glue ((t.data.toList.drop f).take (i - f)) (pcs c (t.data.toList.drop i))).map mkT) :
    pieces c t = (dn ++ [t.extract f i]) ++ (glue ((t.data.toList.drop (i + 1)).take (i + 1 - (i + 1))) (pcs c (t.data.toList.drop (i + 1)))).map mkT := by
  have hd : t.data.toList.drop i = t[i] :: t.data.toList.drop (i + 1) := by rw [List.drop_eq_getElem_cons (by simpa using hi)]; rfl
  rw [h, hd, pcs_cons, if_pos hc, Nat.sub_self, List.take_zero, glue_nil _ (pcs_ne _ _), ext_list]
  simp [glue]
theorem rs_miss (t : ByteArray) (c : UInt8) (dn : List ByteArray) (f i : Nat) (hf : f ≤ i) (hi : i < t.size) (hc : t[i] ≠ c) (h : pieces c t = dn ++ (glue ((t.data.toList.drop f).take (i - f)) (pcs c (t.data.toList.drop i))).map mkT) :
    pieces c t = dn ++ (glue ((t.data.toList.drop f).take (i + 1 - f)) (pcs c (t.data.toList.drop (i + 1)))).map mkT := by
  have hd : t.data.toList.drop i = t[i] :: t.data.toList.drop (i + 1) := by rw [List.drop_eq_getElem_cons (by simpa using hi)]; rfl
  rw [h, hd, pcs_cons, if_neg hc, glue_glue]
  congr 3
  rw [show i + 1 - f = (i - f) + 1 from by omega, List.take_succ_eq_append_getElem (by simp; omega)]
  congr 2
  rw [List.getElem_drop]
  have : f + (i - f) = i := by omega
  simp only [this]
  rfl
theorem rs_end (t : ByteArray) (c : UInt8) (dn : List ByteArray) (f : Nat) (h : pieces c t = dn ++ (glue ((t.data.toList.drop f).take (t.size - f)) (pcs c (t.data.toList.drop t.size))).map mkT) :
    pieces c t = dn ++ [t.extract f t.size] := by
  rw [h, List.drop_of_length_le (l := t.data.toList) (i := t.size) (by simp), ext_list]
  simp [pcs, glue]

set_option maxHeartbeats 1000000 in
theorem refSplit_ok (t : ByteArray) (c : UInt8) (w : World) (hl : t.size ≤ 65536) :
    Calls Tryd.prog 5 #[.string t, .string ⟨#[c]⟩] w fun e w' => ∃ v, e = .returned (.tuple #[v, .int .i64 0]) ∧ StrsAt w' v (pieces c t) ∧ Below w.heap.size w w' := by
  have HE := hide (show anyLong [t] = false by rw [anyLong_one]; simpa using hl)
  have h2 : (((⟨#[c]⟩ : ByteArray).size : Int) != 1) = false := rfl
  obtain ⟨i0, hi, hz0, hz1, hz2⟩ := info_parts info_str
  have H1 := hide (rs_start t c)
  have H2 := hide (rs_hit t c)
  have H3 := hide (rs_miss t c)
  have H4 := hide (rs_end t c)
  generalize pieces c t = ps at *
  go_enter Tryd.func5, Tryd.ntmps5
  go_wp2_with (go_at_call 12; refine (much_one t _ _ (by unfold maxLen; omega) (by simp)).mono ?_; rintro e w' ⟨rfl, rfl⟩; rw [unhide HE])
  go_loopw [6, 7, 8] (fun v fr ix wr => ∃ (i f : Nat) (dn : List ByteArray), i ≤ t.size ∧ f ≤ i ∧ dn.length ≤ i ∧ fr = .int .i64 (f : Int) ∧ ix = .int .i64 (i : Int) ∧ wr.ownsRow (w.heap.size + 1) 9 1 v dn.length (dn.map Value.string) ∧ Below w.heap.size w wr ∧ w.heap.size + 1 ≤ wr.heap.size ∧ Hid (ps = dn ++ (glue ((t.data.toList.drop f).take (i - f)) (pcs c (t.data.toList.drop i))).map mkT)) (fun _ _ ix _ => t.size - (intOf ix).toNat)
  case atStart => exact ⟨0, 0, [], Nat.zero_le _, Nat.le_refl _, Nat.zero_le _, rfl, rfl, World.ownsRow_nil _ _ _ _, (Below.refl _ _).alloc (Nat.le_refl _) _, by simp, H1⟩
  case round =>
    obtain ⟨i, f, dn, hit, hfi, hdl, rfl, rfl, ho, hb, hsz, hq⟩ := hrel
    by_cases hlt : i < t.size
    · have g1 : (i : Int) < (t.size : Int) := by omega
      by_cases hc : t[i] = c
      · have HQ := hide (unhide H2 dn f i hlt hc hq.out)
        have hcb : ((t[i].toNat : Int) == (((⟨#[c]⟩ : ByteArray)[0]'(Nat.one_pos)).toNat : Int)) = true := by
          show ((t[i].toNat : Int) == (c.toNat : Int)) = true
          rw [hc]; simp
        clear hc hq
        go_wp2
        go_quiet (fail)
        go_wp2_with (at_builtin; refine wpList_append_own _ rfl _ _ 22 rfl (w.heap.size + 1) 9 i0 (.string ⟨#[]⟩) 1 16 Tryd.underlying22 hi hz0 hz1 hz2 rfl (by decide) _ _ _ rfl (by exact ho.alloc _) ⟨wr.heap.size, 0, none⟩ 1 1 [.string (t.extract f i)] rfl rfl (by exact cell_one_new wr _ _) (by intro u hu; simp at hu; subst hu; rfl) (by unfold maxLen; omega) (by omega) (by simp; omega) ?_; intro v' w1 hown' hgrow _)
        have hb1 := ((below_drewN hb nq).alloc (by simp; omega) (.cells #[.string (t.extract f i)] 9)).grown hgrow (by simp; omega) (fun g hg => by have := ho.lt g hg; omega)
        have hs1 : w.heap.size + 1 ≤ w1.heap.size := by have := hgrow.size; simp at this; omega
        have ho1 : w1.ownsRow (w.heap.size + 1) 9 1 v' (dn ++ [t.extract f i]).length ((dn ++ [t.extract f i]).map Value.string) := by simpa using hown'
        clear hgrow ho hb hown'
        exact ⟨⟨i + 1, i + 1, dn ++ [t.extract f i], hlt, Nat.le_refl _, by simp; omega, by go_num, by go_num, ho1, hb1, hs1, HQ⟩, by simp [intOf]; omega⟩
      · have HQ := hide (unhide H3 dn f i hfi hlt hc hq.out)
        have hcb : ((t[i].toNat : Int) == (((⟨#[c]⟩ : ByteArray)[0]'(Nat.one_pos)).toNat : Int)) = false := by
          show ((t[i].toNat : Int) == (c.toNat : Int)) = false
          rw [beq_eq_false_iff_ne]
          intro e
          apply hc
          apply UInt8.toNat_inj.1
          exact Int.ofNat.inj e
        clear hc hq
        go_wp2
        go_quiet (fail)
        go_wp2
        exact ⟨⟨i + 1, f, dn, hlt, by omega, by omega, rfl, by go_num, ho, below_drewN hb _, hsz, HQ⟩, by simp [intOf]; omega⟩
    · obtain rfl : i = t.size := by omega
      have HQ := hide (unhide H4 dn f hq.out)
      clear hq
      go_wp2_with (at_builtin; refine wpList_append_own _ rfl _ _ 22 rfl (w.heap.size + 1) 9 i0 (.string ⟨#[]⟩) 1 16 Tryd.underlying22 hi hz0 hz1 hz2 rfl (by decide) _ _ _ rfl (by exact ho.alloc _) ⟨wr.heap.size, 0, none⟩ 1 1 [.string (t.extract f t.size)] rfl rfl (by exact cell_one_new wr _ _) (by intro u hu; simp at hu; subst hu; rfl) (by unfold maxLen; omega) (by omega) (by simp; omega) ?_; intro v' w1 hown' hgrow _)
      have hb1 := (hb.alloc (by omega) (.cells #[.string (t.extract f t.size)] 9)).grown hgrow (by simp; omega) (fun g hg => by have := ho.lt g hg; omega)
      have ho1 : w1.ownsRow (w.heap.size + 1) 9 1 v' (dn ++ [t.extract f t.size]).length ((dn ++ [t.extract f t.size]).map Value.string) := by simpa using hown'
      go_ret2
      exact ⟨v', rfl, by rw [unhide HQ]; exact strs_own ho1, hb1⟩

end Go.Proofs.YtmplbdapehmciaaDoor
