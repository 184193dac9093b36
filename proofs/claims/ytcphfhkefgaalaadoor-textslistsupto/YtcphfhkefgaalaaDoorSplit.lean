/- What texts.Split, the document's own splitting, and Same answer. -/
import Derived.Test.YtcphfhkefgaalaaDoorMuch
import Derived.Test.YtcphfhkefgaalaaDoorClone
import Derived.Test.YtcphfhkefgaalaaDoorRefReverse
import Derived.Test.YtcphfhkefgaalaaDoorSplitPlain
import Derived.Test.YtcphfhkefgaalaaDoorSplitLib
import Derived.Deep.QuietTactic
import Derived.BigQuiet
namespace Go.Proofs.YtcphfhkefgaalaaDoor
open Go.RowKit

theorem info_str : (Tryd.prog.info? 9).map (fun i => (i.zero, i.size, i.bytes)) = some (some (.string ⟨#[]⟩), 1, 16) := by kernel_rfl

/-- What is wrong with a splitting. -/
def splitE (t s : ByteArray) : Int := if 65536 < t.size then 4 else if s.size ≠ 1 then 8 else 0

/-- A slice of texts that lies in memory: its cells. -/
def StrsAt (w : World) (v : Value) (xs : List ByteArray) : Prop :=
  ∃ a cap, v = .slice a xs.length cap ∧ xs.length ≤ cap ∧ (xs = [] ∨ ∃ b off, a = some ⟨b, off, none⟩ ∧ ∀ j, j < xs.length → w.cell? ⟨b, off + j, none⟩ = some (.string (xs.getD j ByteArray.empty)))
theorem StrsAt.later {w w' : World} {v : Value} {xs : List ByteArray} (h : StrsAt w v xs) (hb : Below w.heap.size w w') : StrsAt w' v xs := by
  obtain ⟨a, cap, rfl, hc, hx⟩ := h
  refine ⟨a, cap, rfl, hc, ?_⟩
  rcases hx with hx | ⟨b, off, rfl, hx⟩
  · exact .inl hx
  · exact .inr ⟨b, off, rfl, fun j hj => cell_later hb (hx j hj)⟩

set_option maxHeartbeats 400000 in
theorem split_much (t s : ByteArray) (w : World) (ht : t.size ≤ maxLen) (hl : 65536 < t.size) :
    Calls Tryd.prog 15 #[.string t, .string s] w fun e w' => e = .returned (.tuple #[.slice none 0 0, .int .i64 4]) ∧ Below w.heap.size w w' := by
  have HE := hide (show anyLong [t] = true by rw [anyLong_one]; simpa using hl)
  go_enter Tryd.func15, Tryd.ntmps15
  go_wp2_with (go_at_call 20; refine (tooLong_one t _ _ ht (by simp)).mono ?_; rintro e w' ⟨rfl, rfl⟩; rw [unhide HE])
  go_ret2
  exact ⟨rfl, (Below.refl _ _).alloc (Nat.le_refl _) _⟩

set_option maxHeartbeats 400000 in
theorem split_fit (t s : ByteArray) (w : World) (hl : t.size ≤ 65536) (hs : s.size ≠ 1) :
    Calls Tryd.prog 15 #[.string t, .string s] w fun e w' => e = .returned (.tuple #[.slice none 0 0, .int .i64 8]) ∧ Below w.heap.size w w' := by
  have HE := hide (show anyLong [t] = false by rw [anyLong_one]; simpa using hl)
  have h2 : ((s.size : Int) != 1) = true := by rw [bne_iff_ne]; omega
  clear hs
  go_enter Tryd.func15, Tryd.ntmps15
  go_wp2_with (go_at_call 20; refine (tooLong_one t _ _ (by unfold maxLen; omega) (by simp)).mono ?_; rintro e w' ⟨rfl, rfl⟩; rw [unhide HE])
  go_ret2
  exact ⟨rfl, (Below.refl _ _).alloc (Nat.le_refl _) _⟩

theorem pieces_length (c : UInt8) (t : ByteArray) : (pieces c t).length = Lib.countB t ⟨#[c]⟩ + 1 := by
  unfold pieces
  rw [List.length_map, pcs_length]
  show _ = Lib.count t.data.toList [c] + 1
  rw [Lib.count_one]

theorem strs_alloc (W : World) (xs : List ByteArray) : StrsAt (W.alloc (.cells (xs.map Value.string).toArray 9)) (.slice (some ⟨W.heap.size, 0, none⟩) xs.length xs.length) xs := by
  refine ⟨_, _, rfl, Nat.le_refl _, .inr ⟨_, _, rfl, fun j hj => ?_⟩⟩
  rw [World.cell?_alloc_at _ _ _ _ rfl]
  simp [hj]
theorem strs_own {w : World} {B : Nat} {v : Value} {xs : List ByteArray} (h : w.ownsRow B 9 1 v xs.length (xs.map Value.string)) : StrsAt w v xs := by
  rcases h.2 with ⟨rfl, h0⟩ | ⟨g, cap, cur, rfl, _, _, hc, _, _, _⟩
  · have : xs = [] := List.eq_nil_of_length_eq_zero h0
    subst this
    exact ⟨none, 0, rfl, Nat.le_refl _, .inl rfl⟩
  · refine ⟨_, cap, rfl, hc, .inr ⟨g, 0, rfl, fun j hj => ?_⟩⟩
    have := h.cellAt (g := g) (cap := cap) j (by omega)
    rw [Nat.zero_add, this]
    simp [hj]

set_option maxHeartbeats 400000 in
theorem split_ok (t : ByteArray) (c : UInt8) (m : Int) (w : World) (hl : t.size ≤ 65536) (hm : w.cell? ⟨0, 0, none⟩ = some (.int .i64 m)) :
    Calls Tryd.prog 15 #[.string t, .string ⟨#[c]⟩] w fun e w' => ∃ v, e = .returned (.tuple #[v, .int .i64 0]) ∧ StrsAt w' v (pieces c t) ∧ Below w.heap.size w w' := by
  have HE := hide (show anyLong [t] = false by rw [anyLong_one]; simpa using hl)
  have hsp := fun W hW => Tryd.strings_Split t ⟨#[c]⟩ m W (by omega) hW (Nat.le_refl 1)
  rw [split_eq c _ t rfl, ← pieces_length] at hsp
  have h2 : (((⟨#[c]⟩ : ByteArray).size : Int) != 1) = false := rfl
  generalize pieces c t = ps at *
  have HSP := hide hsp
  have HM := hide hm
  clear hsp hm
  go_enter Tryd.func15, Tryd.ntmps15
  go_wp2_with (first | (go_at_call 20; refine (tooLong_one t _ _ (by unfold maxLen; omega) (by simp)).mono ?_; rintro e w' ⟨rfl, rfl⟩; rw [unhide HE]) | (go_at_call 21; refine (clone_any t _ (by omega)).mono ?_; rintro e w1 ⟨rfl, hb1⟩))
  refine (unhide HSP _ (cell_later (bnext ((Below.refl _ _).alloc (Nat.le_refl _) _) hb1) (unhide HM))).mono ?_
  rintro e w2 ⟨rfl, rfl⟩
  have hs := strs_alloc w1 ps
  have hb2 := (bnext ((Below.refl _ w).alloc (Nat.le_refl _) (.cells #[.string t] 9)) hb1).alloc (by have := hb1.size; simp at this; omega) (.cells (ps.map Value.string).toArray 9)
  generalize w1.alloc (.cells (ps.map Value.string).toArray 9) = w2 at *
  generalize (Value.slice (some ⟨w1.heap.size, 0, none⟩) ps.length ps.length) = v at *
  go_wp2
  go_ret2
  exact ⟨v, rfl, hs, hb2⟩

set_option maxHeartbeats 400000 in
theorem refSplit_much (t s : ByteArray) (w : World) (ht : t.size ≤ maxLen) (hl : 65536 < t.size) :
    Calls Tryd.prog 16 #[.string t, .string s] w fun e w' => e = .returned (.tuple #[.slice none 0 0, .int .i64 4]) ∧ Below w.heap.size w w' := by
  have HE := hide (show anyLong [t] = true by rw [anyLong_one]; simpa using hl)
  go_enter Tryd.func16, Tryd.ntmps16
  go_wp2_with (go_at_call 23; refine (much_one t _ _ ht (by simp)).mono ?_; rintro e w' ⟨rfl, rfl⟩; rw [unhide HE])
  go_ret2
  exact ⟨rfl, (Below.refl _ _).alloc (Nat.le_refl _) _⟩

set_option maxHeartbeats 400000 in
theorem refSplit_fit (t s : ByteArray) (w : World) (hl : t.size ≤ 65536) (hs : s.size ≠ 1) :
    Calls Tryd.prog 16 #[.string t, .string s] w fun e w' => e = .returned (.tuple #[.slice none 0 0, .int .i64 8]) ∧ Below w.heap.size w w' := by
  have HE := hide (show anyLong [t] = false by rw [anyLong_one]; simpa using hl)
  have h2 : ((s.size : Int) != 1) = true := by rw [bne_iff_ne]; omega
  clear hs
  go_enter Tryd.func16, Tryd.ntmps16
  go_wp2_with (go_at_call 23; refine (much_one t _ _ (by unfold maxLen; omega) (by simp)).mono ?_; rintro e w' ⟨rfl, rfl⟩; rw [unhide HE])
  go_ret2
  exact ⟨rfl, (Below.refl _ _).alloc (Nat.le_refl _) _⟩

/-- A list of bytes as a text. -/
def mkT (l : List UInt8) : ByteArray := ⟨l.toArray⟩
theorem ext_list (t : ByteArray) (a b : Nat) : t.extract a b = mkT ((t.data.toList.drop a).take (b - a)) := by
  apply ByteArray.ext
  unfold mkT
  rw [ByteArray.data_extract]
  apply Array.toList_inj.1
  rw [Array.toList_extract, List.extract_eq_take_drop]
theorem rs_start (t : ByteArray) (c : UInt8) : pieces c t = [] ++ (glue ((t.data.toList.drop 0).take (0 - 0)) (pcs c (t.data.toList.drop 0))).map mkT := by
  simp only [List.drop_zero, Nat.sub_zero, List.take_zero, List.nil_append]
  rw [glue_nil _ (pcs_ne _ _)]; rfl
theorem rs_hit (t : ByteArray) (c : UInt8) (dn : List ByteArray) (f i : Nat) (hi : i < t.size) (hc : t[i] = c) (h : pieces c t = dn ++ (glue ((t.data.toList.drop f).take (i - f)) (pcs c (t.data.toList.drop i))).map mkT) :
    pieces c t = (dn ++ [t.extract f i]) ++ (glue ((t.data.toList.drop (i + 1)).take (i + 1 - (i + 1))) (pcs c (t.data.toList.drop (i + 1)))).map mkT := by
  have hd : t.data.toList.drop i = t[i] :: t.data.toList.drop (i + 1) := by rw [List.drop_eq_getElem_cons (by simpa using hi)]; rfl
  rw [h, hd, pcs_cons, if_pos hc, Nat.sub_self, List.take_zero, glue_nil _ (pcs_ne _ _), ext_list]
  simp [glue]
theorem rs_miss (t : ByteArray) (c : UInt8) (dn : List ByteArray) (f i : Nat) (hf : f ≤ i) (hi : i < t.size) (hc : t[i] ≠ c) (h : pieces c t = dn ++ (glue ((t.data.toList.drop f).take (i - f)) (pcs c (t.data.toList.drop i))).map mkT) :
    pieces c t = dn ++ (glue ((t.data.toList.drop f).take (i + 1 - f)) (pcs c (t.data.toList.drop (i + 1)))).map mkT := by
  have hd : t.data.toList.drop i = t[i] :: t.data.toList.drop (i + 1) := by rw [List.drop_eq_getElem_cons (by simpa using hi)]; rfl
  rw [h, hd, pcs_cons, if_neg hc, glue_glue]
  congr 3
  rw [show i + 1 - f = (i - f) + 1 from by omega, List.take_succ_eq_append_getElem (by simp; omega)]
  congr 2
  rw [List.getElem_drop]
  have : f + (i - f) = i := by omega
  simp only [this]
  rfl
theorem rs_end (t : ByteArray) (c : UInt8) (dn : List ByteArray) (f : Nat) (h : pieces c t = dn ++ (glue ((t.data.toList.drop f).take (t.size - f)) (pcs c (t.data.toList.drop t.size))).map mkT) :
    pieces c t = dn ++ [t.extract f t.size] := by
  rw [h, List.drop_of_length_le (l := t.data.toList) (i := t.size) (by simp), ext_list]
  simp [pcs, glue]

set_option maxHeartbeats 1000000 in
theorem refSplit_ok (t : ByteArray) (c : UInt8) (w : World) (hl : t.size ≤ 65536) :
    Calls Tryd.prog 16 #[.string t, .string ⟨#[c]⟩] w fun e w' => ∃ v, e = .returned (.tuple #[v, .int .i64 0]) ∧ StrsAt w' v (pieces c t) ∧ Below w.heap.size w w' := by
  have HE := hide (show anyLong [t] = false by rw [anyLong_one]; simpa using hl)
  have h2 : (((⟨#[c]⟩ : ByteArray).size : Int) != 1) = false := rfl
  obtain ⟨i0, hi, hz0, hz1, hz2⟩ := info_parts info_str
  have H1 := hide (rs_start t c)
  have H2 := hide (rs_hit t c)
  have H3 := hide (rs_miss t c)
  have H4 := hide (rs_end t c)
  generalize pieces c t = ps at *
  go_enter Tryd.func16, Tryd.ntmps16
  go_wp2_with (go_at_call 23; refine (much_one t _ _ (by unfold maxLen; omega) (by simp)).mono ?_; rintro e w' ⟨rfl, rfl⟩; rw [unhide HE])
  go_loopw [6, 7, 8] (fun v fr ix wr => ∃ (i f : Nat) (dn : List ByteArray), i ≤ t.size ∧ f ≤ i ∧ dn.length ≤ i ∧ fr = .int .i64 (f : Int) ∧ ix = .int .i64 (i : Int) ∧ wr.ownsRow (w.heap.size + 1) 9 1 v dn.length (dn.map Value.string) ∧ Below w.heap.size w wr ∧ w.heap.size + 1 ≤ wr.heap.size ∧ Hid (ps = dn ++ (glue ((t.data.toList.drop f).take (i - f)) (pcs c (t.data.toList.drop i))).map mkT)) (fun _ _ ix _ => t.size - (intOf ix).toNat)
  case atStart => exact ⟨0, 0, [], Nat.zero_le _, Nat.le_refl _, Nat.zero_le _, rfl, rfl, World.ownsRow_nil _ _ _ _, (Below.refl _ _).alloc (Nat.le_refl _) _, by simp, H1⟩
  case round =>
    obtain ⟨i, f, dn, hit, hfi, hdl, rfl, rfl, ho, hb, hsz, hq⟩ := hrel
    by_cases hlt : i < t.size
    · have g1 : (i : Int) < (t.size : Int) := by omega
      by_cases hc : t[i] = c
      · have HQ := hide (unhide H2 dn f i hlt hc hq.out)
        have hcb : ((t[i].toNat : Int) == (((⟨#[c]⟩ : ByteArray)[0]'(Nat.one_pos)).toNat : Int)) = true := by
          show ((t[i].toNat : Int) == (c.toNat : Int)) = true
          rw [hc]; simp
        clear hc hq
        go_wp2
        go_quiet (fail)
        go_wp2_with (at_builtin; refine wpList_append_own _ rfl _ _ 29 rfl (w.heap.size + 1) 9 i0 (.string ⟨#[]⟩) 1 16 Tryd.underlying29 hi hz0 hz1 hz2 rfl (by decide) _ _ _ rfl (by exact ho.alloc _) ⟨wr.heap.size, 0, none⟩ 1 1 [.string (t.extract f i)] rfl rfl (by exact cell_one_new wr _ _) (by intro u hu; simp at hu; subst hu; rfl) (by unfold maxLen; omega) (by omega) (by simp; omega) ?_; intro v' w1 hown' hgrow _)
        have hb1 := ((below_drewN hb nq).alloc (by simp; omega) (.cells #[.string (t.extract f i)] 9)).grown hgrow (by simp; omega) (fun g hg => by have := ho.lt g hg; omega)
        have hs1 : w.heap.size + 1 ≤ w1.heap.size := by have := hgrow.size; simp at this; omega
        have ho1 : w1.ownsRow (w.heap.size + 1) 9 1 v' (dn ++ [t.extract f i]).length ((dn ++ [t.extract f i]).map Value.string) := by simpa using hown'
        clear hgrow ho hb hown'
        exact ⟨⟨i + 1, i + 1, dn ++ [t.extract f i], hlt, Nat.le_refl _, by simp; omega, by go_num, by go_num, ho1, hb1, hs1, HQ⟩, by simp [intOf]; omega⟩
      · have HQ := hide (unhide H3 dn f i hfi hlt hc hq.out)
        have hcb : ((t[i].toNat : Int) == (((⟨#[c]⟩ : ByteArray)[0]'(Nat.one_pos)).toNat : Int)) = false := by
          show ((t[i].toNat : Int) == (c.toNat : Int)) = false
          rw [beq_eq_false_iff_ne]
          intro e
          apply hc
          apply UInt8.toNat_inj.1
          exact Int.ofNat.inj e
        clear hc hq
        go_wp2
        go_quiet (fail)
        go_wp2
        exact ⟨⟨i + 1, f, dn, hlt, by omega, by omega, rfl, by go_num, ho, below_drewN hb _, hsz, HQ⟩, by simp [intOf]; omega⟩
    · obtain rfl : i = t.size := by omega
      have HQ := hide (unhide H4 dn f hq.out)
      clear hq
      go_wp2_with (at_builtin; refine wpList_append_own _ rfl _ _ 29 rfl (w.heap.size + 1) 9 i0 (.string ⟨#[]⟩) 1 16 Tryd.underlying29 hi hz0 hz1 hz2 rfl (by decide) _ _ _ rfl (by exact ho.alloc _) ⟨wr.heap.size, 0, none⟩ 1 1 [.string (t.extract f t.size)] rfl rfl (by exact cell_one_new wr _ _) (by intro u hu; simp at hu; subst hu; rfl) (by unfold maxLen; omega) (by omega) (by simp; omega) ?_; intro v' w1 hown' hgrow _)
      have hb1 := (hb.alloc (by omega) (.cells #[.string (t.extract f t.size)] 9)).grown hgrow (by simp; omega) (fun g hg => by have := ho.lt g hg; omega)
      have ho1 : w1.ownsRow (w.heap.size + 1) 9 1 v' (dn ++ [t.extract f t.size]).length ((dn ++ [t.extract f t.size]).map Value.string) := by simpa using hown'
      go_ret2
      exact ⟨v', rfl, by rw [unhide HQ]; exact strs_own ho1, hb1⟩

theorem strs_nil (w : World) : StrsAt w (.slice none 0 0) [] := ⟨none, 0, rfl, Nat.le_refl _, .inl rfl⟩

set_option maxHeartbeats 1000000 in
theorem same_true (xs : List ByteArray) (va vb : Value) (w : World) (hn : xs.length ≤ 1000000000000000) (ha : StrsAt w va xs) (hb : StrsAt w vb xs) :
    Calls Tryd.prog 17 #[va, vb] w fun e w' => e = .returned (.bool true) ∧ Below w.heap.size w w' := by
  obtain ⟨a, ca, rfl, hca, hxa⟩ := ha
  obtain ⟨b, cb, rfl, hcb, hxb⟩ := hb
  have hne : ((xs.length : Int) != (xs.length : Int)) = false := by simp
  by_cases h0 : xs = []
  · subst h0
    clear hxa hxb hca hcb hn
    go_enter Tryd.func17, Tryd.ntmps17
    go_wp2
    refine wp_loop_rounds 1 ?_
    rw [rounds_succ]
    go_wp2
    go_ret
    exact ⟨rfl, Below.refl _ _⟩
  · rcases hxa with hx | ⟨ba, oa, rfl, hxa⟩
    · exact absurd hx h0
    · rcases hxb with hx | ⟨bb, ob, rfl, hxb⟩
      · exact absurd hx h0
      · have HA := hide hxa
        have HB := hide hxb
        clear hxa hxb h0
        generalize xs.length = n at *
        go_enter Tryd.func17, Tryd.ntmps17
        go_wp2
        go_loopw [13] (fun i wr => ∃ k : Nat, k ≤ n ∧ i = .int .i64 (k : Int) ∧ Below w.heap.size w wr) (fun i _ => n - (intOf i).toNat)
        case atStart => exact ⟨0, Nat.zero_le _, rfl, Below.refl _ _⟩
        case round =>
          obtain ⟨k, hk, rfl, hbl⟩ := hrel
          by_cases hlt : k < n
          · have c1 := cell_later hbl (unhide HA k hlt)
            have c2 := cell_later hbl (unhide HB k hlt)
            generalize xs.getD k ByteArray.empty = x at *
            have g1 : (k : Int) < (n : Int) := by omega
            go_wp2
            go_quiet (fail)
            go_wp2
            go_roundw
            case rel => exact ⟨k + 1, by omega, by go_num, below_drewN hbl _⟩
            case measure => simp [intOf]; omega
          · go_wp2
            go_ret
            exact ⟨rfl, hbl⟩
end Go.Proofs.YtcphfhkefgaalaaDoor
