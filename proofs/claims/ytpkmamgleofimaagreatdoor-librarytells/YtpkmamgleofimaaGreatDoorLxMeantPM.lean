/- Which token begins at a place. What a text in quotes means: two quotes are one. -/
import Derived.Test.YtpkmamgleofimaaGreatDoorLexLibM
import Derived.Lib.Replace
namespace Go.Proofs.YtpkmamgleofimaaGreatDoor
open Go.RowKit

def signsB : ByteArray := ⟨#[61, 63, 38, 43, 45, 42, 47, 37, 40, 41, 60, 62, 44, 58, 36]⟩
theorem sign_all : (List.range 256).all (fun b => decide (0 ≤ Lib.indexByte signsB.data.toList b.toUInt8) == signN b) = true := by kernel_rfl
theorem sign_is (b : Nat) (hb : b < 256) : decide (0 ≤ Lib.indexByte signsB.data.toList b.toUInt8) = signN b := by
  have := List.all_eq_true.1 sign_all b (List.mem_range.2 hb)
  exact beq_iff_eq.1 this
theorem ite_one {a b : Nat × Nat × ByteArray} {c : Prop} [Decidable c] : (if c then a else b).1 = if c then a.1 else b.1 := by split <;> rfl
theorem ite_two {a b : Nat × Nat × ByteArray} {c : Prop} [Decidable c] : (if c then a else b).2.1 = if c then a.2.1 else b.2.1 := by split <;> rfl
set_option maxRecDepth 10000 in
set_option maxHeartbeats 800000 in
theorem lxNext_any (s : ByteArray) (i : Nat) (hs : s.size ≤ 2000) (hi : i < s.size) (w : World) :
    Calls Tryz.prog 31 #[.string s, .int .i64 (i : Int)] w fun e w' => e = .returned (.tuple #[.int .i64 ((tk s i).1 : Int), .int .i64 ((tk s i).2.1 : Int)]) ∧ w' = w := by
  have bk := bat_at s i hi
  have hx : ((s[i]).toNat : Int) = (bat s i : Int) := by rw [bk]
  have H1 := hide (lexLetter_any (bat s i) (bat_lt _ _) w)
  have H2 := hide (lexDigit_any (bat s i) (bat_lt _ _) w)
  have H3 := hide (passOfWord_any s i hs (by omega) w)
  have H4 := hide (passDigit_any s i hs (by omega) w)
  have H5 := hide (closingQuote_any s i hs hi w)
  have H6 := hide (closingBracket_any s i hs hi w)
  have lq := cq_le s (i + 1) (by omega)
  have lb := cb_le s (i + 1) (by omega)
  have H7 := hide (closed_any s 3 (cq s (i + 1)) hs lq.2 w)
  have H8 := hide (closed_any s 4 (cb s (i + 1)) hs lb.2 w)
  have H9 := hide (hasGives_any s i w hs (by omega))
  have HI := hide (Tryz.strings_IndexByte signsB (bat s i : Int) w)
  have HS := hide (sign_is (bat s i) (bat_lt _ _))
  have hlt := bat_lt s i
  unfold tk
  generalize cq s (i + 1) = cQ at *
  generalize cb s (i + 1) = cB at *
  generalize pas s wordN i = pW at *
  generalize pas s digitN i = pD at *
  cases h1 : letterN (bat s i) with
  | true =>
    rw [if_pos rfl]
    rw [h1] at H1
    clear h1 lq lb bk
    generalize bat s i = b at *
    go_enter Tryz.func31, Tryz.ntmps31
    go_wp2_with (first | (go_at_call 54; refine (unhide H1).mono ?_; rintro e w ⟨rfl, rfl⟩) | (go_at_call 29; refine (unhide H3).mono ?_; rintro e w ⟨rfl, rfl⟩))
    go_ret2
    exact ⟨rfl, rfl⟩
  | false =>
    rw [if_neg (by decide)]
    rw [h1] at H1
    cases h2 : digitN (bat s i) with
    | true =>
      rw [if_pos rfl]
      rw [h2] at H2
      clear h1 h2 lq lb bk
      generalize bat s i = b at *
      go_enter Tryz.func31, Tryz.ntmps31
      go_wp2_with (first | (go_at_call 54; refine (unhide H1).mono ?_; rintro e w ⟨rfl, rfl⟩) | (go_at_call 56; refine (unhide H2).mono ?_; rintro e w ⟨rfl, rfl⟩) | (go_at_call 29; refine (unhide H4).mono ?_; rintro e w ⟨rfl, rfl⟩))
      go_ret2
      exact ⟨rfl, rfl⟩
    | false =>
      rw [if_neg (by decide)]
      rw [h2] at H2
      by_cases h3 : bat s i = 39
      · rw [if_pos h3]
        rw [ite_one, ite_two]
        dsimp only
        rw [h3] at hx H1 H2
        clear h1 h2 h3 lq lb bk HI HS H9 H8 H6
        generalize (if cQ = s.size then 0 else 3 : Nat) = A at *
        generalize (if cQ = s.size then s.size else cQ + 1 : Nat) = B at *
        go_enter Tryz.func31, Tryz.ntmps31
        go_wp2_with (first | (go_at_call 54; refine (unhide H1).mono ?_; rintro e w ⟨rfl, rfl⟩) | (go_at_call 56; refine (unhide H2).mono ?_; rintro e w ⟨rfl, rfl⟩) | (go_at_call 58; refine (unhide H5).mono ?_; rintro e w ⟨rfl, rfl⟩) | (go_at_call 57; refine (unhide H7).mono ?_; rintro e w ⟨rfl, rfl⟩))
        go_ret2
        exact ⟨rfl, rfl⟩
      · rw [if_neg h3]
        have e3 : ((bat s i : Int) == 39) = false := bn
        by_cases h4 : bat s i = 91
        · rw [if_pos h4]
          rw [ite_one, ite_two]
          dsimp only
          rw [h4] at hx H1 H2 e3
          clear h1 h2 h3 h4 lq lb bk HI HS H9 H7 H5
          generalize (if cB = s.size then 0 else 4 : Nat) = A at *
          generalize (if cB = s.size then s.size else cB + 1 : Nat) = B at *
          go_enter Tryz.func31, Tryz.ntmps31
          go_wp2_with (first | (go_at_call 54; refine (unhide H1).mono ?_; rintro e w ⟨rfl, rfl⟩) | (go_at_call 56; refine (unhide H2).mono ?_; rintro e w ⟨rfl, rfl⟩) | (go_at_call 59; refine (unhide H6).mono ?_; rintro e w ⟨rfl, rfl⟩) | (go_at_call 57; refine (unhide H8).mono ?_; rintro e w ⟨rfl, rfl⟩))
          go_ret2
          exact ⟨rfl, rfl⟩
        · rw [if_neg h4]
          have e4 : ((bat s i : Int) == 91) = false := bn
          by_cases h5 : bat s i = 58 ∧ bat s (i + 1) = 61
          · rw [if_pos h5]
            rw [decide_eq_true h5] at H9
            clear h1 h2 h3 h4 h5 lq lb bk HI HS H8 H6 H7 H5
            generalize bat s i = b at *
            go_enter Tryz.func31, Tryz.ntmps31
            go_wp2_with (first | (go_at_call 54; refine (unhide H1).mono ?_; rintro e w ⟨rfl, rfl⟩) | (go_at_call 56; refine (unhide H2).mono ?_; rintro e w ⟨rfl, rfl⟩) | (go_at_call 17; refine (unhide H9).mono ?_; rintro e w ⟨rfl, rfl⟩))
            go_ret2
            exact ⟨rfl, rfl⟩
          · rw [if_neg h5]
            rw [decide_eq_false h5] at H9
            have HI2 : Hid (Calls Tryz.prog 60 #[.string ⟨#[61, 63, 38, 43, 45, 42, 47, 37, 40, 41, 60, 62, 44, 58, 36]⟩, .int .u8 (bat s i : Int)] w fun e w' => e = .returned (.int .i64 (Lib.indexByte signsB.data.toList (bat s i).toUInt8)) ∧ w' = w) := hide (unhide HI)
            generalize Lib.indexByte signsB.data.toList (bat s i).toUInt8 = ix at *
            cases h6 : signN (bat s i) with
            | true =>
              rw [if_pos rfl]
              have hix : 0 ≤ ix := of_decide_eq_true (by rw [unhide HS]; exact h6)
              clear h1 h2 h3 h4 h5 h6 lq lb bk HI HS H8 H6 H7 H5
              generalize bat s i = b at *
              go_enter Tryz.func31, Tryz.ntmps31
              go_wp2_with (first | (go_at_call 54; refine (unhide H1).mono ?_; rintro e w ⟨rfl, rfl⟩) | (go_at_call 56; refine (unhide H2).mono ?_; rintro e w ⟨rfl, rfl⟩) | (go_at_call 17; refine (unhide H9).mono ?_; rintro e w ⟨rfl, rfl⟩) | (go_at_call 60; refine (unhide HI2).mono ?_; rintro e w ⟨rfl, rfl⟩))
              go_ret2
              exact ⟨rfl, rfl⟩
            | false =>
              rw [if_neg (by decide)]
              have hix : ¬ 0 ≤ ix := of_decide_eq_false (by rw [unhide HS]; exact h6)
              clear h1 h2 h3 h4 h5 h6 lq lb bk HI HS H8 H6 H7 H5
              generalize bat s i = b at *
              go_enter Tryz.func31, Tryz.ntmps31
              go_wp2_with (first | (go_at_call 54; refine (unhide H1).mono ?_; rintro e w ⟨rfl, rfl⟩) | (go_at_call 56; refine (unhide H2).mono ?_; rintro e w ⟨rfl, rfl⟩) | (go_at_call 17; refine (unhide H9).mono ?_; rintro e w ⟨rfl, rfl⟩) | (go_at_call 60; refine (unhide HI2).mono ?_; rintro e w ⟨rfl, rfl⟩))
              go_ret2
              exact ⟨rfl, rfl⟩
end Go.Proofs.YtpkmamgleofimaaGreatDoor

namespace Go.Proofs.YtpkmamgleofimaaGreatDoor
open Go.RowKit

def und : List UInt8 → List UInt8
  | [] => []
  | [c] => [c]
  | a :: b :: r => if a = 39 ∧ b = 39 then 39 :: und r else a :: und (b :: r)
theorem und_cons (a : UInt8) (l : List UInt8) (h : ([39, 39] : List UInt8).isPrefixOf (a :: l) = false) : und (a :: l) = a :: und l := by
  cases l with
  | nil => rfl
  | cons b r =>
    rw [und, if_neg]
    rintro ⟨rfl, rfl⟩
    simp [List.isPrefixOf] at h
theorem und_two (r : List UInt8) : und (39 :: 39 :: r) = 39 :: und r := by rw [und, if_pos ⟨rfl, rfl⟩]
theorem und_len : ∀ l : List UInt8, (und l).length ≤ l.length
  | [] => Nat.le_refl _
  | [_] => Nat.le_refl _
  | a :: b :: r => by
    rw [und]
    split
    · have := und_len r; simp; omega
    · have := und_len (b :: r); simp at this ⊢; omega
theorem index_cons (b : UInt8) (l sub : List UInt8) (hp : sub.isPrefixOf (b :: l) = false) : Lib.index (b :: l) sub = if Lib.index l sub = -1 then -1 else Lib.index l sub + 1 := by
  rw [Lib.index, hp]
  by_cases h : Lib.index l sub = -1
  · rw [h]; rfl
  · have : (Lib.index l sub == -1) = false := bn h
    rw [this, if_neg h]; rfl
theorem rep_two : ∀ (n : Nat) (l : List UInt8), l.length ≤ n → Lib.replaceK [39, 39] [39] (Lib.count l [39, 39]) l = und l
  | _, [], _ => by
    rw [Lib.count_miss rfl]; rfl
  | 0, a :: l, h => by simp at h
  | n + 1, a :: l, h => by
    cases hp : ([39, 39] : List UInt8).isPrefixOf (a :: l) with
    | true =>
      obtain ⟨r, hr⟩ : ∃ r, a :: l = 39 :: 39 :: r := by
        obtain ⟨r, hr⟩ := List.isPrefixOf_iff_prefix.1 hp
        exact ⟨r, hr.symm⟩
      rw [hr]
      have h0 : Lib.index (39 :: 39 :: r) [39, 39] = ((0 : Nat) : Int) := by simp [Lib.index]
      rw [Lib.count_hit (by decide) h0, Nat.add_comm, Lib.replaceK_hit _ _ _ _ 0 h0, und_two]
      show [] ++ [39] ++ Lib.replaceK [39, 39] [39] (Lib.count r [39, 39]) r = _
      rw [rep_two n r (by have := congrArg List.length hr; simp at this h; omega)]; rfl
    | false =>
      have ih := rep_two n l (by simp at h; omega)
      rw [und_cons a l hp]
      have hx := index_cons a l [39, 39] hp
      by_cases hm : Lib.index l [39, 39] = -1
      · rw [if_pos hm] at hx
        rw [Lib.count_miss hx]
        rw [Lib.count_miss hm] at ih
        show a :: l = _
        rw [← ih]; rfl
      · rw [if_neg hm] at hx
        obtain ⟨i, hi⟩ : ∃ i : Nat, Lib.index l [39, 39] = i := ⟨(Lib.index l [39, 39]).toNat, by have := Lib.index_ge l [39, 39]; omega⟩
        rw [hi] at hx
        have hx' : Lib.index (a :: l) [39, 39] = ((i + 1 : Nat) : Int) := hx
        rw [Lib.count_hit (by decide) hi, Nat.add_comm, Lib.replaceK_hit _ _ _ _ i hi] at ih
        rw [Lib.count_hit (by decide) hx', Nat.add_comm, Lib.replaceK_hit _ _ _ _ (i + 1) hx', ← ih]
        have : (a :: l).drop (i + 1 + ([39, 39] : List UInt8).length) = l.drop (i + ([39, 39] : List UInt8).length) := by
          show (a :: l).drop (i + 1 + 2) = l.drop (i + 2)
          rw [show i + 1 + 2 = (i + 2) + 1 by omega, List.drop_succ_cons]
        rw [this, List.take_succ_cons]; rfl
theorem replace_two (l : List UInt8) : Lib.replaceAll l [39, 39] [39] = und l := by
  unfold Lib.replaceAll Lib.replace Lib.replaceNum
  rw [if_neg (by decide), if_pos (.inl (by decide))]
  exact rep_two l.length l (Nat.le_refl _)
def sec (s : ByteArray) (i j : Nat) : List UInt8 := (s.data.toList.drop i).take (j - i)
theorem sec_step (s : ByteArray) (i j : Nat) (h : i < j) (hj : j ≤ s.size) : sec s i j = s.data.toList.getD i 0 :: sec s (i + 1) j := by
  unfold sec
  have hl : i < s.data.toList.length := by have : s.data.toList.length = s.size := by simp
                                           omega
  rw [List.drop_eq_getElem_cons hl, show j - i = (j - (i + 1)) + 1 by omega, List.take_succ_cons, List.getD, List.getElem?_eq_getElem hl]; rfl
theorem sec_none (s : ByteArray) (i : Nat) : sec s i i = [] := by unfold sec; rw [Nat.sub_self]; rfl
theorem byte_of {s : ByteArray} {i n : Nat} (h : bat s i = n) (hn : n < 256) : s.data.toList.getD i 0 = UInt8.ofNat n := (u8_nat hn).2 h
theorem ct_und (s : ByteArray) (i : Nat) (hi : i ≤ s.size) (h : cq s i < s.size) : und (sec s i (cq s i)) = ct s i :=
  cq_ind (P := fun i => i ≤ s.size → cq s i < s.size → und (sec s i (cq s i)) = ct s i) (fun i hi _ h => by rw [cq_end hi] at h; omega)
    (fun i hi hb ih _ h => by
      rw [cq_plain hi hb] at h ⊢
      have hle := cq_le s (i + 1) (by omega)
      rw [sec_step s i _ (by omega) (by omega), ct_plain hi hb, und_cons, ih (by omega) h]
      cases hp : ([39, 39] : List UInt8).isPrefixOf (s.data.toList.getD i 0 :: sec s (i + 1) (cq s (i + 1))) with
      | false => rfl
      | true =>
        exfalso
        obtain ⟨r, hr⟩ := List.isPrefixOf_iff_prefix.1 hp
        have : s.data.toList.getD i 0 = 39 := (by injection hr with h1 _; exact h1.symm)
        exact hb (by rw [← getD_bat, this]; rfl))
    (fun i hb hc ih _ h => by
      rw [cq_two hb hc] at h ⊢
      have h1 := bat_in (s := s) (i := i + 1) (by omega)
      have hle := cq_le s (i + 2) (by omega)
      rw [sec_step s i _ (by omega) (by omega), sec_step s (i + 1) _ (by omega) (by omega), byte_of hb (by decide), byte_of hc (by decide)]
      rw [show (UInt8.ofNat 39) = 39 from rfl, und_two, ct_two hb hc, ih (by omega) h])
    (fun i hb hc _ h => by rw [cq_here hb hc, sec_none, ct_here hb hc]; rfl) s.size i (by omega) hi h
theorem sec_data (s : ByteArray) (i j : Nat) : (s.extract i j).data.toList = sec s i j := by
  rw [← ByteArray.toList_eq]; exact extract_list s i j
theorem extract_inner (s : ByteArray) (i e : Nat) (h : i + 1 ≤ e) (he : e ≤ s.size) : (s.extract i e).extract 1 ((s.extract i e).size - 1) = s.extract (i + 1) (e - 1) := by
  rw [ByteArray.extract_extract]
  have : (s.extract i e).size = e - i := by simp; omega
  rw [this]
  congr 1
  omega
end Go.Proofs.YtpkmamgleofimaaGreatDoor
