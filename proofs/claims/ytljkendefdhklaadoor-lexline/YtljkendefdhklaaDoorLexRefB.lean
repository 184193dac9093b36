/- What the document's Line answers, for every text. -/
import Derived.Test.YtljkendefdhklaaDoorLexRefA
import Derived.Lib.SlBytesConst
namespace Go.Proofs.YtljkendefdhklaaDoor
open Go.RowKit

theorem tk_word {s : ByteArray} {i : Nat} (h : letterN (bat s i) = true) : tk s i = (1, pas s wordN i, s.extract i (pas s wordN i)) := by unfold tk; rw [if_pos h]
theorem tk_num {s : ByteArray} {i : Nat} (h : letterN (bat s i) = false) (h2 : digitN (bat s i) = true) : tk s i = (2, pas s digitN i, s.extract i (pas s digitN i)) := by unfold tk; rw [if_neg (by rw [h]; decide), if_pos h2]
theorem tk_text {s : ByteArray} {i : Nat} (h : bat s i = 39) : tk s i = if cq s (i + 1) = s.size then (0, s.size, ByteArray.empty) else (3, cq s (i + 1) + 1, ⟨(ct s (i + 1)).toArray⟩) := by
  unfold tk; rw [if_neg (by rw [h]; decide), if_neg (by rw [h]; decide), if_pos h]
theorem tk_pat {s : ByteArray} {i : Nat} (h : bat s i = 91) : tk s i = if cb s (i + 1) = s.size then (0, s.size, ByteArray.empty) else (4, cb s (i + 1) + 1, s.extract (i + 1) (cb s (i + 1))) := by
  unfold tk; rw [if_neg (by rw [h]; decide), if_neg (by rw [h]; decide), if_neg (by omega), if_pos h]
theorem tk_gives {s : ByteArray} {i : Nat} (h : bat s i = 58) (h2 : bat s (i + 1) = 61) : tk s i = (5, i + 2, s.extract i (i + 2)) := by
  unfold tk; rw [if_neg (by rw [h]; decide), if_neg (by rw [h]; decide), if_neg (by omega), if_neg (by omega), if_pos ⟨h, h2⟩]
theorem tk_sign {s : ByteArray} {i : Nat} (h1 : letterN (bat s i) = false) (h2 : digitN (bat s i) = false) (h3 : bat s i ≠ 39) (h4 : bat s i ≠ 91) (h5 : ¬ (bat s i = 58 ∧ bat s (i + 1) = 61)) : tk s i = if signN (bat s i) = true then (5, i + 1, s.extract i (i + 1)) else (0, i, ByteArray.empty) := by
  unfold tk; rw [if_neg (by rw [h1]; decide), if_neg (by rw [h2]; decide), if_neg h3, if_neg h4, if_neg h5]
def sgN : List Nat := [61, 63, 38, 43, 45, 42, 47, 37, 40, 41, 60, 62, 44, 58, 36]
def sgV : Array Value := #[.int .u8 61, .int .u8 63, .int .u8 38, .int .u8 43, .int .u8 45, .int .u8 42, .int .u8 47, .int .u8 37, .int .u8 40, .int .u8 41, .int .u8 60, .int .u8 62, .int .u8 44, .int .u8 58, .int .u8 36]
theorem sg_at (j : Nat) (h : j < 15) : sgV[j]? = some (.int .u8 ((sgN.getD j 0 : Nat) : Int)) := by
  match j, h with
  | 0, _ | 1, _ | 2, _ | 3, _ | 4, _ | 5, _ | 6, _ | 7, _ | 8, _ | 9, _ | 10, _ | 11, _ | 12, _ | 13, _ | 14, _ => rfl
def sgUp (b : Nat) : Nat → Bool
  | 0 => false
  | j + 1 => sgUp b j || decide (sgN.getD j 0 = b)
theorem sg_take (b : Nat) : ∀ j, j ≤ 15 → sgUp b j = (sgN.take j).contains b
  | 0, _ => rfl
  | j + 1, h => by
    have hj : j < sgN.length := by show j < 15; omega
    rw [sgUp, sg_take b j (by omega), List.take_succ_eq_append_getElem hj, List.contains_eq_any_beq, List.contains_eq_any_beq, List.any_append]
    congr 1
    rw [List.getD, List.getElem?_eq_getElem hj, Bool.eq_iff_iff, List.any_cons, List.any_nil, Bool.or_false, beq_iff_eq, decide_eq_true_eq]
    exact eq_comm
theorem sg_all (b : Nat) : sgUp b 15 = signN b := by rw [sg_take b 15 (by decide)]; rfl
theorem sg_step (b j : Nat) : sgUp b (j + 1) = (sgUp b j || decide (sgN.getD j 0 = b)) := rfl

set_option maxRecDepth 100000 in
set_option maxHeartbeats 400000 in
theorem refLine_much (s : ByteArray) (w : World) (hm : s.size ≤ maxLen) (hs : 2000 < s.size) :
    Calls Tryd.prog 7 #[.string s] w fun e w' => LinePost s w e w' := by
  unfold maxLen at hm
  have HP := hide (show lineP s = ([], 4, 0) by unfold lineP; rw [if_pos hs])
  have h1 : (2000 : Int) < (s.size : Int) := by omega
  unfold LinePost
  go_enter Tryd.func7, Tryd.ntmps7
  go_wp2
  exact bodyPost_ret (results_fault rfl _ _ w.heap.size _ _ rfl rfl (at_new rfl) rfl) rfl ⟨.slice none 0 0, by rw [unhide HP]; rfl, by rw [unhide HP]; exact World.ownsRow_nil _ _ _ 3, (Below.refl _ _).alloc (Nat.le_refl _) _⟩

set_option maxRecDepth 100000 in
set_option maxHeartbeats 40000000 in
theorem refLine_ok (s : ByteArray) (w : World) (hs : s.size ≤ 2000) :
    Calls Tryd.prog 7 #[.string s] w fun e w' => LinePost s w e w' := by
  have HP := hide (show lineP s = ln s 0 [] by unfold lineP; rw [if_neg (by omega)])
  have h1 : ¬ (2000 : Int) < (s.size : Int) := by omega
  have HI := hide info_tok
  unfold LinePost
  go_enter Tryd.func7, Tryd.ntmps7
  go_wp2_with fail
  obtain ⟨W0, hW0⟩ : ∃ W0, W0 = w.alloc (.cells #[.int .i64 0, .int .i64 0] 25) := ⟨_, rfl⟩
  have hz0 : W0.heap[w.heap.size]? = some (.cells #[.int .i64 0, .int .i64 0] 25 (0, 0)) := by rw [hW0]; exact at_new rfl
  have hb0 : Below w.heap.size w W0 := by rw [hW0]; exact (Below.refl _ _).alloc (Nat.le_refl _) _
  have hs0 : W0.heap.size = w.heap.size + 1 := by rw [hW0]; simp
  have H0 := hide (And.intro hz0 (And.intro hb0 hs0))
  rw [← hW0]
  clear hW0 hz0 hb0 hs0
  go_loopw [4, 5] (fun v x wr => ∃ (k : Nat) (l : List Tk), k ≤ s.size ∧ l.length ≤ k ∧ x = .int .i64 (k : Int) ∧ Hid (Row wr (w.heap.size + 1) 32 3 tkV v l) ∧ Hid (Below (w.heap.size + 1) W0 wr) ∧ Hid (ln s 0 [] = ln s k l)) (fun _ x _ => s.size - (intOf x).toNat)
  case atStart => exact ⟨0, [], Nat.zero_le _, Nat.zero_le _, rfl, World.ownsRow_nil _ _ _ 3, Below.refl _ _, rfl⟩
  case round =>
    obtain ⟨k, l, hk, hl, rfl, HR, HB, HL⟩ := hrel
    rcases Nat.lt_or_ge k s.size with hlt | hge
    · have g1 : (k : Int) < (s.size : Int) := by omega
      have bk := bat_at s k hlt
      have hx : ((s[k]).toNat : Int) = (bat s k : Int) := by rw [bk]
      have HS := hide (show w.heap.size + 1 ≤ wr.heap.size from Nat.le_trans (Nat.le_of_eq (unhide H0).2.2.symm) (unhide HB).size)
      by_cases hbl : bat s k = 32
      · have e32 : ((bat s k : Int) == 32) = true := by rw [hbl]; rfl
        have HL2 := hide ((unhide HL).trans (ln_blank hlt hbl))
        clear hbl bk
        generalize bat s k = b at *
        go_wp2_with fail
        exact ⟨⟨k + 1, l, by omega, by omega, rfl, HR, HB, HL2⟩, by simp [intOf]; omega⟩
      · have e32 : ((bat s k : Int) == 32) = false := by rw [beq_eq_false_iff_ne]; omega
        have HW := hide (refWord_any (bat s k) (bat_lt _ _) wr)
        have HD := hide (refDigit_any (bat s k) (bat_lt _ _) wr)
        have hTok := @ln_tok s k l hlt hbl
        have hBad := @ln_bad s k l hlt hbl
        have hlt2 := bat_lt s k
        cases hle : letterN (bat s k) with
        | true =>
          as_aux_lemma =>
            rw [hle] at HW
            have HST := hide (pas_step (p := wordN) hlt (by unfold wordN; rw [hle]; rfl))
            have hTok2 := hTok (by rw [tk_word hle]; exact Nat.one_ne_zero)
            rw [tk_word hle] at hTok2
            dsimp only at hTok2
            have HTok := hide hTok2
            clear hTok hBad hTok2 HD hle hbl bk
            generalize bat s k = b at *
            go_wp2_with (go_at_call 15; refine (unhide HW).mono ?_; rintro e wr ⟨rfl, rfl⟩)
            clear HW
            go_loop [7] (fun x => ∃ j : Nat, k < j ∧ j ≤ s.size ∧ x = .int .i64 (j : Int) ∧ Hid (pas s wordN k = pas s wordN j)) (fun x => s.size - (intOf x).toNat)
            case atStart => exact ⟨k + 1, by omega, by omega, rfl, HST⟩
            case round =>
              obtain ⟨j, hj1, hj2, rfl, HJ⟩ := hrel
              rcases Nat.lt_or_ge j s.size with hjt | hjt
              · have q1 : (j : Int) < (s.size : Int) := by omega
                have hy : ((s[j]).toNat : Int) = (bat s j : Int) := by rw [bat_at s j hjt]
                have HW := hide (refWord_any (bat s j) (bat_lt _ _) wr)
                have HD := hide (refDigit_any (bat s j) (bat_lt _ _) wr)
                have HSt := hide (fun h => @pas_step s wordN j hjt h)
                have HSp := hide (fun h => @pas_stop s wordN j h)
                have HWd := hide (show wordN (bat s j) = (letterN (bat s j) || digitN (bat s j)) from rfl)
                cases hA : letterN (bat s j) with
                | true =>
                  have HJ2 := hide ((unhide HJ).trans (unhide HSt (by rw [unhide HWd, hA]; rfl)))
                  rw [hA] at HW
                  clear HSt HSp HWd HD hA
                  generalize bat s j = c at *
                  go_wp2_with (go_at_call 15; refine (unhide HW).mono ?_; rintro e wr ⟨rfl, rfl⟩)
                  exact ⟨⟨j + 1, by omega, by omega, rfl, HJ2⟩, by simp [intOf]; omega⟩
                | false =>
                  rw [hA] at HW
                  cases hE : digitN (bat s j) with
                  | true =>
                    have HJ2 := hide ((unhide HJ).trans (unhide HSt (by rw [unhide HWd, hA, hE]; rfl)))
                    rw [hE] at HD
                    clear HSt HSp HWd hA hE
                    generalize bat s j = c at *
                    go_wp2_with (first | (go_at_call 15; refine (unhide HW).mono ?_; rintro e wr ⟨rfl, rfl⟩) | (go_at_call 16; refine (unhide HD).mono ?_; rintro e wr ⟨rfl, rfl⟩))
                    exact ⟨⟨j + 1, by omega, by omega, rfl, HJ2⟩, by simp [intOf]; omega⟩
                  | false =>
                    have HTj := hide (show ln s k l = ln s j (l ++ [⟨1, s.extract k j, k⟩]) by have h := unhide HTok; rw [unhide HJ, unhide HSp (fun _ => by rw [unhide HWd, hA, hE]; rfl)] at h; exact h)
                    rw [hE] at HD
                    clear HSt HSp HWd hA hE
                    generalize bat s j = c at *
                    go_wp2_with (first | (go_at_call 15; refine (unhide HW).mono ?_; rintro e wr ⟨rfl, rfl⟩) | (go_at_call 16; refine (unhide HD).mono ?_; rintro e wr ⟨rfl, rfl⟩) | (at_builtin; refine wpList_row Tryd.underlying22 (unhide HI) rfl (by decide) (by decide) tkV_len tkV_one rfl _ _ rfl (row_alloc (unhide HR) _) (by rw [World.size_alloc]; exact Nat.le_succ_of_le (unhide HS)) ⟨1, s.extract k j, k⟩ wr.heap.size 1 rfl rfl (by exact tok_cell) (by omega) ?_; intro v' w2 hrow hgrow _))
                    exact ⟨⟨j, l ++ [⟨1, s.extract k j, k⟩], by omega, by simp; omega, by first | rfl | exact congrArg (Value.int .i64) (by omega), hide hrow, below_grown (bel_alloc (unhide HB) (unhide HS)) (row_alloc (unhide HR) _) (Nat.le_of_eq (unhide H0).2.2.symm) hgrow, (unhide HL).trans (unhide HTj)⟩, by simp [intOf]; omega⟩
              · obtain rfl : j = s.size := by omega
                have HTj := hide (show ln s k l = ln s s.size (l ++ [⟨1, s.extract k s.size, k⟩]) by have h := unhide HTok; rw [unhide HJ, pas_stop (fun h => by omega)] at h; exact h)
                go_wp2_with (at_builtin; refine wpList_row Tryd.underlying22 (unhide HI) rfl (by decide) (by decide) tkV_len tkV_one rfl _ _ rfl (row_alloc (unhide HR) _) (by rw [World.size_alloc]; exact Nat.le_succ_of_le (unhide HS)) ⟨1, s.extract k s.size, k⟩ wr.heap.size 1 rfl rfl (by exact tok_cell) (by omega) ?_; intro v' w2 hrow hgrow _)
                exact ⟨⟨s.size, l ++ [⟨1, s.extract k s.size, k⟩], by omega, by simp; omega, by first | rfl | exact congrArg (Value.int .i64) (by omega), hide hrow, below_grown (bel_alloc (unhide HB) (unhide HS)) (row_alloc (unhide HR) _) (Nat.le_of_eq (unhide H0).2.2.symm) hgrow, (unhide HL).trans (unhide HTj)⟩, by simp [intOf]; omega⟩
        | false =>
          rw [hle] at HW
          cases hdi : digitN (bat s k) with
          | true =>
            as_aux_lemma =>
              rw [hdi] at HD
              have HST := hide (pas_step (p := digitN) hlt hdi)
              have hTok2 := hTok (by rw [tk_num hle hdi]; exact Nat.succ_ne_zero _)
              rw [tk_num hle hdi] at hTok2
              dsimp only at hTok2
              have HTok := hide hTok2
              clear hTok hBad hTok2 hle hdi hbl bk
              generalize bat s k = b at *
              go_wp2_with (first | (go_at_call 15; refine (unhide HW).mono ?_; rintro e wr ⟨rfl, rfl⟩) | (go_at_call 16; refine (unhide HD).mono ?_; rintro e wr ⟨rfl, rfl⟩))
              clear HW HD
              go_loop [7] (fun x => ∃ j : Nat, k < j ∧ j ≤ s.size ∧ x = .int .i64 (j : Int) ∧ Hid (pas s digitN k = pas s digitN j)) (fun x => s.size - (intOf x).toNat)
              case atStart => exact ⟨k + 1, by omega, by omega, rfl, HST⟩
              case round =>
                obtain ⟨j, hj1, hj2, rfl, HJ⟩ := hrel
                rcases Nat.lt_or_ge j s.size with hjt | hjt
                · have q1 : (j : Int) < (s.size : Int) := by omega
                  have hy : ((s[j]).toNat : Int) = (bat s j : Int) := by rw [bat_at s j hjt]
                  have HD := hide (refDigit_any (bat s j) (bat_lt _ _) wr)
                  have HSt := hide (fun h => @pas_step s digitN j hjt h)
                  have HSp := hide (fun h => @pas_stop s digitN j h)
                  cases hE : digitN (bat s j) with
                  | true =>
                    have HJ2 := hide ((unhide HJ).trans (unhide HSt hE))
                    rw [hE] at HD
                    clear HSt HSp hE
                    generalize bat s j = c at *
                    go_wp2_with (go_at_call 16; refine (unhide HD).mono ?_; rintro e wr ⟨rfl, rfl⟩)
                    exact ⟨⟨j + 1, by omega, by omega, rfl, HJ2⟩, by simp [intOf]; omega⟩
                  | false =>
                    have HTj := hide (show ln s k l = ln s j (l ++ [⟨2, s.extract k j, k⟩]) by have h := unhide HTok; rw [unhide HJ, unhide HSp (fun _ => hE)] at h; exact h)
                    rw [hE] at HD
                    clear HSt HSp hE
                    generalize bat s j = c at *
                    go_wp2_with (first | (go_at_call 16; refine (unhide HD).mono ?_; rintro e wr ⟨rfl, rfl⟩) | (at_builtin; refine wpList_row Tryd.underlying22 (unhide HI) rfl (by decide) (by decide) tkV_len tkV_one rfl _ _ rfl (row_alloc (unhide HR) _) (by rw [World.size_alloc]; exact Nat.le_succ_of_le (unhide HS)) ⟨2, s.extract k j, k⟩ wr.heap.size 1 rfl rfl (by exact tok_cell) (by omega) ?_; intro v' w2 hrow hgrow _))
                    exact ⟨⟨j, l ++ [⟨2, s.extract k j, k⟩], by omega, by simp; omega, by first | rfl | exact congrArg (Value.int .i64) (by omega), hide hrow, below_grown (bel_alloc (unhide HB) (unhide HS)) (row_alloc (unhide HR) _) (Nat.le_of_eq (unhide H0).2.2.symm) hgrow, (unhide HL).trans (unhide HTj)⟩, by simp [intOf]; omega⟩
                · obtain rfl : j = s.size := by omega
                  have HTj := hide (show ln s k l = ln s s.size (l ++ [⟨2, s.extract k s.size, k⟩]) by have h := unhide HTok; rw [unhide HJ, pas_stop (fun h => by omega)] at h; exact h)
                  go_wp2_with (at_builtin; refine wpList_row Tryd.underlying22 (unhide HI) rfl (by decide) (by decide) tkV_len tkV_one rfl _ _ rfl (row_alloc (unhide HR) _) (by rw [World.size_alloc]; exact Nat.le_succ_of_le (unhide HS)) ⟨2, s.extract k s.size, k⟩ wr.heap.size 1 rfl rfl (by exact tok_cell) (by omega) ?_; intro v' w2 hrow hgrow _)
                  exact ⟨⟨s.size, l ++ [⟨2, s.extract k s.size, k⟩], by omega, by simp; omega, by first | rfl | exact congrArg (Value.int .i64) (by omega), hide hrow, below_grown (bel_alloc (unhide HB) (unhide HS)) (row_alloc (unhide HR) _) (Nat.le_of_eq (unhide H0).2.2.symm) hgrow, (unhide HL).trans (unhide HTj)⟩, by simp [intOf]; omega⟩
          | false =>
            rw [hdi] at HD
            by_cases h39 : bat s k = 39
            · as_aux_lemma =>
                have HTk := hide (tk_text h39)
                rw [h39] at HW HD hx e32
                have hle2 := cq_le s (k + 1) (by omega)
                by_cases hcq : cq s (k + 1) = s.size
                · have hT := refText_any s k hs hlt wr
                  unfold TextPost at hT
                  rw [if_pos hcq] at hT
                  have hB := unhide HTk
                  rw [if_pos hcq] at hB
                  have hbad := hBad (by rw [hB])
                  rw [hB] at hbad
                  have HBd := hide hbad
                  have HT := hide hT
                  clear hT hB hbad hTok hBad HTk hle hdi h39 hbl bk hlt2
                  go_wp2_with (first | (go_at_call 15; refine (unhide HW).mono ?_; rintro e wr ⟨rfl, rfl⟩) | (go_at_call 16; refine (unhide HD).mono ?_; rintro e wr ⟨rfl, rfl⟩) | fail)
                  refine (unhide HT).mono ?_
                  rintro e w1 ⟨rfl, hb1⟩
                  have HB1 := hide (bel_trans (unhide HB) (hb1.mono (unhide HS)))
                  clear hb1
                  have hz := (unhide HB1).block w.heap.size (by omega) |>.trans (unhide H0).1
                  have c0 := (cell_of_row _ _ 0 _ _ _ hz).trans rfl
                  have c1 := (cell_of_row _ _ 1 _ _ _ hz).trans rfl
                  have z0 := frozen_of_row _ _ 0 _ _ hz
                  have z1 := frozen_of_row _ _ 1 _ _ hz
                  have HF := hide (fault_end (e := 2) (a := s.size) (bel_two (unhide H0).2.1 (unhide HB1) (Nat.le_of_eq (unhide H0).2.2.symm)) hz rfl row_nil)
                  clear hz
                  go_wp2_with fail
                  exact bodyPost_ret (results_fault rfl _ _ w.heap.size _ _ rfl rfl (unhide HF).2.2 rfl) rfl ⟨.slice none 0 0, by rw [unhide HP, unhide HL, unhide HBd]; rfl, by rw [unhide HP, unhide HL, unhide HBd]; exact (unhide HF).1, (unhide HF).2.1⟩
                · have hT := refText_any s k hs hlt wr
                  unfold TextPost at hT
                  rw [if_neg hcq] at hT
                  have hB := unhide HTk
                  rw [if_neg hcq] at hB
                  have htk := hTok (by rw [hB]; exact Nat.succ_ne_zero _)
                  rw [hB] at htk
                  dsimp only at htk
                  have HTj := hide htk
                  have HT := hide hT
                  clear hT hB htk hTok hBad HTk hle hdi h39 hbl bk hlt2
                  generalize cq s (k + 1) = c at *
                  generalize (⟨(ct s (k + 1)).toArray⟩ : ByteArray) = tx at *
                  go_wp2_with (first | (go_at_call 15; refine (unhide HW).mono ?_; rintro e wr ⟨rfl, rfl⟩) | (go_at_call 16; refine (unhide HD).mono ?_; rintro e wr ⟨rfl, rfl⟩) | fail)
                  refine (unhide HT).mono ?_
                  rintro e w1 ⟨rfl, hb1⟩
                  have HB1 := hide (bel_trans (unhide HB) (hb1.mono (unhide HS)))
                  have HR1 := hide ((unhide HR).later hb1)
                  have HS1 := hide (Nat.le_trans (unhide HS) hb1.size)
                  clear hb1
                  go_wp2_with (at_builtin; refine wpList_row Tryd.underlying22 (unhide HI) rfl (by decide) (by decide) tkV_len tkV_one rfl _ _ rfl (row_alloc (unhide HR1) _) (by rw [World.size_alloc]; exact Nat.le_succ_of_le (unhide HS1)) ⟨3, tx, k⟩ w1.heap.size 1 rfl rfl (by exact tok_cell) (by omega) ?_; intro v' w2 hrow hgrow _)
                  exact ⟨⟨c + 1, l ++ [⟨3, tx, k⟩], by omega, by simp; omega, by first | rfl | exact congrArg (Value.int .i64) (by omega), hide hrow, below_grown (bel_alloc (unhide HB1) (unhide HS1)) (row_alloc (unhide HR1) _) (Nat.le_of_eq (unhide H0).2.2.symm) hgrow, (unhide HL).trans (unhide HTj)⟩, by simp [intOf]; omega⟩
            · by_cases h91 : bat s k = 91
              · as_aux_lemma =>
                  have HTk := hide (tk_pat h91)
                  rw [h91] at HW HD hx e32
                  have hle2 := cb_le s (k + 1) (by omega)
                  have HBd := hide (show cb s (k + 1) = s.size → ln s k l = ([], 2, s.size) from fun h => by have hB := unhide HTk; rw [if_pos h] at hB; have hb := hBad (by rw [hB]); rw [hB] at hb; exact hb)
                  have HTok := hide (show cb s (k + 1) ≠ s.size → ln s k l = ln s (cb s (k + 1) + 1) (l ++ [⟨4, s.extract (k + 1) (cb s (k + 1)), k⟩]) from fun h => by have hB := unhide HTk; rw [if_neg h] at hB; have hb := hTok (by rw [hB]; exact Nat.succ_ne_zero _); rw [hB] at hb; exact hb)
                  clear hTok hBad HTk hle hdi h39 h91 hbl bk hlt2
                  go_wp2_with (first | (go_at_call 15; refine (unhide HW).mono ?_; rintro e wr ⟨rfl, rfl⟩) | (go_at_call 16; refine (unhide HD).mono ?_; rintro e wr ⟨rfl, rfl⟩) | fail)
                  clear HW HD
                  rename World => wo
                  go_loopw [11] (fun x wr => ∃ j : Nat, k < j ∧ j ≤ s.size ∧ x = .int .i64 (j : Int) ∧ Hid (Below wo.heap.size wo wr) ∧ Hid (cb s (k + 1) = cb s j)) (fun x _ => s.size - (intOf x).toNat)
                  case atStart => exact ⟨k + 1, by omega, by omega, rfl, Below.refl _ _, rfl⟩
                  case round =>
                    obtain ⟨j, hj1, hj2, rfl, HO, HJ⟩ := hrel
                    have HB1 := hide (bel_trans (unhide HB) ((unhide HO).mono (unhide HS)))
                    have HR1 := hide ((unhide HR).later (unhide HO))
                    have HS1 := hide (Nat.le_trans (unhide HS) (unhide HO).size)
                    rcases Nat.lt_or_ge j s.size with hjt | hjt
                    · have q1 : (j : Int) < (s.size : Int) := by omega
                      have hy : ((s[j]).toNat : Int) = (bat s j : Int) := by rw [bat_at s j hjt]
                      by_cases h93 : bat s j = 93
                      · have HTj := hide (show ln s k l = ln s (j + 1) (l ++ [⟨4, s.extract (k + 1) j, k⟩]) by have h := (unhide HJ).trans (cb_here h93); have h2 := unhide HTok (by rw [h]; omega); rw [h] at h2; exact h2)
                        have e93 : ((bat s j : Int) != 93) = false := by rw [h93]; rfl
                        clear h93
                        generalize bat s j = c at *
                        go_wp2_with (at_builtin; refine wpList_row Tryd.underlying22 (unhide HI) rfl (by decide) (by decide) tkV_len tkV_one rfl _ _ rfl (row_alloc (unhide HR1) _) (by rw [World.size_alloc]; exact Nat.le_succ_of_le (unhide HS1)) ⟨4, s.extract (k + 1) j, k⟩ wr.heap.size 1 rfl rfl (by exact tok_cell) (by omega) ?_; intro v' w2 hrow hgrow _)
                        exact ⟨⟨j + 1, l ++ [⟨4, s.extract (k + 1) j, k⟩], by omega, by simp; omega, by first | rfl | exact congrArg (Value.int .i64) (by omega), hide hrow, below_grown (bel_alloc (unhide HB1) (unhide HS1)) (row_alloc (unhide HR1) _) (Nat.le_of_eq (unhide H0).2.2.symm) hgrow, (unhide HL).trans (unhide HTj)⟩, by simp [intOf]; omega⟩
                      · have e93 : ((bat s j : Int) != 93) = true := by rw [bne_iff_ne]; omega
                        by_cases h39 : bat s j = 39
                        · have e39 : ((bat s j : Int) == 39) = true := by rw [h39]; rfl
                          have hle3 := cq_le s (j + 1) (by omega)
                          have hT := refText_any s j hs hjt wr
                          unfold TextPost at hT
                          by_cases hcq : cq s (j + 1) = s.size
                          · rw [if_pos hcq] at hT
                            have HT := hide hT
                            have HBd2 := hide (unhide HBd ((unhide HJ).trans ((cb_quote h39).trans (cb_end (by omega)))))
                            clear hT hcq h39 h93 hle3
                            generalize bat s j = c at *
                            go_wp2_with fail
                            refine (unhide HT).mono ?_
                            rintro e w1 ⟨rfl, hb1⟩
                            have HB2 := hide (bel_trans (unhide HB1) (hb1.mono (unhide HS1)))
                            clear hb1
                            have hz := (unhide HB2).block w.heap.size (by omega) |>.trans (unhide H0).1
                            have c0 := (cell_of_row _ _ 0 _ _ _ hz).trans rfl
                            have c1 := (cell_of_row _ _ 1 _ _ _ hz).trans rfl
                            have z0 := frozen_of_row _ _ 0 _ _ hz
                            have z1 := frozen_of_row _ _ 1 _ _ hz
                            have HF := hide (fault_end (e := 2) (a := s.size) (bel_two (unhide H0).2.1 (unhide HB2) (Nat.le_of_eq (unhide H0).2.2.symm)) hz rfl row_nil)
                            clear hz
                            go_wp2_with fail
                            exact bodyPost_ret (results_fault rfl _ _ w.heap.size _ _ rfl rfl (unhide HF).2.2 rfl) rfl ⟨.slice none 0 0, by rw [unhide HP, unhide HL, unhide HBd2]; rfl, by rw [unhide HP, unhide HL, unhide HBd2]; exact (unhide HF).1, (unhide HF).2.1⟩
                          · rw [if_neg hcq] at hT
                            have HT := hide hT
                            have HJ2 := hide ((unhide HJ).trans (cb_quote h39))
                            clear hT h39 h93
                            generalize cq s (j + 1) = d at *
                            generalize bat s j = c at *
                            go_wp2_with fail
                            refine (unhide HT).mono ?_
                            rintro e w1 ⟨rfl, hb1⟩
                            have HO2 := hide (bnext (unhide HO) hb1)
                            clear hb1
                            go_wp2_with fail
                            exact ⟨⟨d + 1, by omega, by omega, by first | rfl | exact congrArg (Value.int .i64) (by omega), HO2, HJ2⟩, by simp [intOf]; omega⟩
                        · have e39 : ((bat s j : Int) == 39) = false := by rw [beq_eq_false_iff_ne]; omega
                          have HJ2 := hide ((unhide HJ).trans (cb_plain hjt h39 h93))
                          clear h39 h93
                          generalize bat s j = c at *
                          go_wp2_with fail
                          exact ⟨⟨j + 1, by omega, by omega, rfl, HO, HJ2⟩, by simp [intOf]; omega⟩
                    · obtain rfl : j = s.size := by omega
                      have HBd2 := hide (unhide HBd ((unhide HJ).trans (cb_end (Nat.le_refl _))))
                      have hz := (unhide HB1).block w.heap.size (by omega) |>.trans (unhide H0).1
                      have c0 := (cell_of_row _ _ 0 _ _ _ hz).trans rfl
                      have c1 := (cell_of_row _ _ 1 _ _ _ hz).trans rfl
                      have z0 := frozen_of_row _ _ 0 _ _ hz
                      have z1 := frozen_of_row _ _ 1 _ _ hz
                      have HF := hide (fault_end (e := 2) (a := s.size) (bel_two (unhide H0).2.1 (unhide HB1) (Nat.le_of_eq (unhide H0).2.2.symm)) hz rfl row_nil)
                      clear hz
                      go_wp2_with fail
                      exact bodyPost_ret (results_fault rfl _ _ w.heap.size _ _ rfl rfl (unhide HF).2.2 rfl) rfl ⟨.slice none 0 0, by rw [unhide HP, unhide HL, unhide HBd2]; rfl, by rw [unhide HP, unhide HL, unhide HBd2]; exact (unhide HF).1, (unhide HF).2.1⟩
              · have e39 : ((bat s k : Int) == 39) = false := by rw [beq_eq_false_iff_ne]; omega
                have e91 : ((bat s k : Int) == 91) = false := by rw [beq_eq_false_iff_ne]; omega
                have kc := fun (W : World) (C : Array Value) => Lib.run_convert_bytes_const (P := Tryd.prog) W 42 5 C 15 15 Tryd.underlying42 Tryd.underlying5
                by_cases hgv : bat s k = 58 ∧ bat s (k + 1) = 61
                · obtain ⟨h58, h61⟩ := hgv
                  have hin := bat_in (s := s) (i := k + 1) (by omega)
                  have q2 : (k : Int) + 1 < (s.size : Int) := by omega
                  have hz2 : ((s[k + 1]).toNat : Int) = 61 := by rw [bat_at s (k + 1) hin, h61]; rfl
                  have htk := hTok (by rw [tk_gives h58 h61]; exact Nat.succ_ne_zero _)
                  rw [tk_gives h58 h61] at htk
                  dsimp only at htk
                  have HTok := hide (show signN 58 = true → _ from fun _ => htk)
                  have HSg := hide (show signN 58 = true from rfl)
                  rw [h58] at HW HD hx e32 e39 e91
                  clear htk hTok hBad hle hdi h39 h91 hbl bk hlt2 h58 h61
                  go_wp2_with (first | (go_at_call 15; refine (unhide HW).mono ?_; rintro e wr ⟨rfl, rfl⟩) | (go_at_call 16; refine (unhide HD).mono ?_; rintro e wr ⟨rfl, rfl⟩) | fail)
                  clear HW HD kc
                  have HG := hide (at_new (w := wr) (o := .cells sgV 5 (15, 16)) rfl)
                  have HAl := hide ((Below.refl wr.heap.size wr).alloc (Nat.le_refl _) (.cells sgV 5 (15, 16)))
                  change Code.wp _ _ _ _ (wr.alloc (.cells sgV 5 (15, 16)))
                  generalize wr.alloc (.cells sgV 5 (15, 16)) = w1 at *
                  have HB1 := hide (bel_trans (unhide HB) ((unhide HAl).mono (unhide HS)))
                  have HR1 := hide ((unhide HR).later (unhide HAl))
                  have HS1 := hide (Nat.le_trans (unhide HS) (unhide HAl).size)
                  go_loop [15, 180] (fun q x => ∃ (j : Nat) (y : Bool), j ≤ 15 ∧ x = .int .i64 (j : Int) ∧ q = .bool y ∧ Hid (y = sgUp 58 j)) (fun _ x => 15 - (intOf x).toNat)
                  case atStart => exact ⟨0, false, by omega, rfl, rfl, rfl⟩
                  case round =>
                    obtain ⟨j, y, hj, rfl, rfl, HY⟩ := hrel
                    rcases Nat.lt_or_ge j 15 with hjt | hjt
                    · have q1 : (j : Int) < 15 := by omega
                      have cj := (cell_of_row _ _ j _ _ _ (unhide HG)).trans (sg_at j hjt)
                      have HSs := hide (sg_step 58 j)
                      generalize sgN.getD j 0 = y2 at *
                      cases y with
                      | true =>
                        have HZ := hide (show true = sgUp 58 (j + 1) by rw [unhide HSs, ← unhide HY]; rfl)
                        clear HSs HY
                        go_wp2_with fail
                        exact ⟨⟨j + 1, true, by omega, rfl, rfl, HZ⟩, by simp [intOf]; omega⟩
                      | false =>
                        have HZ := hide (show decide (y2 = 58) = sgUp 58 (j + 1) by rw [unhide HSs, ← unhide HY]; rfl)
                        have hqq : ((y2 : Int) == 58) = decide (y2 = 58) := by rw [Bool.eq_iff_iff, beq_iff_eq, decide_eq_true_eq]; omega
                        clear HSs HY
                        generalize decide (y2 = 58) = z at *
                        go_wp2_with fail
                        exact ⟨⟨j + 1, z, by omega, rfl, rfl, HZ⟩, by simp [intOf]; omega⟩
                    · obtain rfl : j = 15 := by omega
                      have HY2 := hide ((unhide HY).trans (sg_all 58))
                      clear HY
                      cases y with
                      | true =>
                        have HTj := hide (unhide HTok (unhide HY2).symm)
                        clear HY2
                        go_wp2_with (at_builtin; refine wpList_row Tryd.underlying22 (unhide HI) rfl (by decide) (by decide) tkV_len tkV_one rfl _ _ rfl (row_alloc (unhide HR1) _) (by rw [World.size_alloc]; exact Nat.le_succ_of_le (unhide HS1)) ⟨5, s.extract k (k + 2), k⟩ w1.heap.size 1 rfl rfl (by exact tok_cell) (by omega) ?_; intro v' w2 hrow hgrow _)
                        exact ⟨⟨k + 2, l ++ [⟨5, s.extract k (k + 2), k⟩], by omega, by simp; omega, by first | rfl | exact congrArg (Value.int .i64) (by omega), hide hrow, below_grown (bel_alloc (unhide HB1) (unhide HS1)) (row_alloc (unhide HR1) _) (Nat.le_of_eq (unhide H0).2.2.symm) hgrow, (unhide HL).trans (unhide HTj)⟩, by simp [intOf]; omega⟩
                      | false =>
                        have h := unhide HY2
                        rw [unhide HSg] at h
                        cases h
                · have HTok := hide (show signN (bat s k) = true → ln s k l = ln s (k + 1) (l ++ [⟨5, s.extract k (k + 1), k⟩]) from fun h => by have hB := tk_sign hle hdi h39 h91 hgv; rw [if_pos h] at hB; have hb := hTok (by rw [hB]; exact Nat.succ_ne_zero _); rw [hB] at hb; exact hb)
                  have HBad := hide (show signN (bat s k) = false → ln s k l = ([], 2, k) from fun h => by have hB := tk_sign hle hdi h39 h91 hgv; rw [if_neg (by rw [h]; decide)] at hB; have hb := hBad (by rw [hB]); rw [hB] at hb; exact hb)
                  by_cases h58 : bat s k = 58
                  · rcases Nat.lt_or_ge (k + 1) s.size with hin | hin
                    · have q2 : (k : Int) + 1 < (s.size : Int) := by omega
                      have e61 : (((s[k + 1]).toNat : Int) == 61) = false := by rw [bat_at s (k + 1) hin, beq_eq_false_iff_ne]; intro h; exact hgv ⟨h58, by omega⟩
                      rw [h58] at HW HD hx e32 e39 e91 HTok HBad
                      clear hTok hBad hle hdi h39 h91 hbl bk hlt2 h58 hgv
                      go_wp2_with (first | (go_at_call 15; refine (unhide HW).mono ?_; rintro e wr ⟨rfl, rfl⟩) | (go_at_call 16; refine (unhide HD).mono ?_; rintro e wr ⟨rfl, rfl⟩) | fail)
                      clear HW HD kc
                      have HG := hide (at_new (w := wr) (o := .cells sgV 5 (15, 16)) rfl)
                      have HAl := hide ((Below.refl wr.heap.size wr).alloc (Nat.le_refl _) (.cells sgV 5 (15, 16)))
                      change Code.wp _ _ _ _ (wr.alloc (.cells sgV 5 (15, 16)))
                      generalize wr.alloc (.cells sgV 5 (15, 16)) = w1 at *
                      have HB1 := hide (bel_trans (unhide HB) ((unhide HAl).mono (unhide HS)))
                      have HR1 := hide ((unhide HR).later (unhide HAl))
                      have HS1 := hide (Nat.le_trans (unhide HS) (unhide HAl).size)
                      go_loop [15, 180] (fun q x => ∃ (j : Nat) (y : Bool), j ≤ 15 ∧ x = .int .i64 (j : Int) ∧ q = .bool y ∧ Hid (y = sgUp 58 j)) (fun _ x => 15 - (intOf x).toNat)
                      case atStart => exact ⟨0, false, by omega, rfl, rfl, rfl⟩
                      case round =>
                        obtain ⟨j, y, hj, rfl, rfl, HY⟩ := hrel
                        rcases Nat.lt_or_ge j 15 with hjt | hjt
                        · have q1 : (j : Int) < 15 := by omega
                          have cj := (cell_of_row _ _ j _ _ _ (unhide HG)).trans (sg_at j hjt)
                          have HSs := hide (sg_step 58 j)
                          generalize sgN.getD j 0 = y2 at *
                          cases y with
                          | true =>
                            have HZ := hide (show true = sgUp 58 (j + 1) by rw [unhide HSs, ← unhide HY]; rfl)
                            clear HSs HY
                            go_wp2_with fail
                            exact ⟨⟨j + 1, true, by omega, rfl, rfl, HZ⟩, by simp [intOf]; omega⟩
                          | false =>
                            have HZ := hide (show decide (y2 = 58) = sgUp 58 (j + 1) by rw [unhide HSs, ← unhide HY]; rfl)
                            have hqq : ((y2 : Int) == 58) = decide (y2 = 58) := by rw [Bool.eq_iff_iff, beq_iff_eq, decide_eq_true_eq]; omega
                            clear HSs HY
                            generalize decide (y2 = 58) = z at *
                            go_wp2_with fail
                            exact ⟨⟨j + 1, z, by omega, rfl, rfl, HZ⟩, by simp [intOf]; omega⟩
                        · obtain rfl : j = 15 := by omega
                          have HY2 := hide ((unhide HY).trans (sg_all 58))
                          clear HY
                          cases y with
                          | true =>
                            have HTj := hide (unhide HTok (unhide HY2).symm)
                            clear HY2
                            go_wp2_with (at_builtin; refine wpList_row Tryd.underlying22 (unhide HI) rfl (by decide) (by decide) tkV_len tkV_one rfl _ _ rfl (row_alloc (unhide HR1) _) (by rw [World.size_alloc]; exact Nat.le_succ_of_le (unhide HS1)) ⟨5, s.extract k (k + 1), k⟩ w1.heap.size 1 rfl rfl (by exact tok_cell) (by omega) ?_; intro v' w2 hrow hgrow _)
                            exact ⟨⟨k + 1, l ++ [⟨5, s.extract k (k + 1), k⟩], by omega, by simp; omega, by first | rfl | exact congrArg (Value.int .i64) (by omega), hide hrow, below_grown (bel_alloc (unhide HB1) (unhide HS1)) (row_alloc (unhide HR1) _) (Nat.le_of_eq (unhide H0).2.2.symm) hgrow, (unhide HL).trans (unhide HTj)⟩, by simp [intOf]; omega⟩
                          | false =>
                            have HBd := hide (unhide HBad (unhide HY2).symm)
                            clear HY2
                            have hz := (unhide HB1).block w.heap.size (by omega) |>.trans (unhide H0).1
                            have c0 := (cell_of_row _ _ 0 _ _ _ hz).trans rfl
                            have c1 := (cell_of_row _ _ 1 _ _ _ hz).trans rfl
                            have z0 := frozen_of_row _ _ 0 _ _ hz
                            have z1 := frozen_of_row _ _ 1 _ _ hz
                            have HF := hide (fault_end (e := 2) (a := k) (bel_two (unhide H0).2.1 (unhide HB1) (Nat.le_of_eq (unhide H0).2.2.symm)) hz rfl row_nil)
                            clear hz
                            go_wp2_with fail
                            exact bodyPost_ret (results_fault rfl _ _ w.heap.size _ _ rfl rfl (unhide HF).2.2 rfl) rfl ⟨.slice none 0 0, by rw [unhide HP, unhide HL, unhide HBd]; rfl, by rw [unhide HP, unhide HL, unhide HBd]; exact (unhide HF).1, (unhide HF).2.1⟩
                    · have q2 : ¬ (k : Int) + 1 < (s.size : Int) := by omega
                      rw [h58] at HW HD hx e32 e39 e91 HTok HBad
                      clear hTok hBad hle hdi h39 h91 hbl bk hlt2 h58 hgv
                      go_wp2_with (first | (go_at_call 15; refine (unhide HW).mono ?_; rintro e wr ⟨rfl, rfl⟩) | (go_at_call 16; refine (unhide HD).mono ?_; rintro e wr ⟨rfl, rfl⟩) | fail)
                      clear HW HD kc
                      have HG := hide (at_new (w := wr) (o := .cells sgV 5 (15, 16)) rfl)
                      have HAl := hide ((Below.refl wr.heap.size wr).alloc (Nat.le_refl _) (.cells sgV 5 (15, 16)))
                      change Code.wp _ _ _ _ (wr.alloc (.cells sgV 5 (15, 16)))
                      generalize wr.alloc (.cells sgV 5 (15, 16)) = w1 at *
                      have HB1 := hide (bel_trans (unhide HB) ((unhide HAl).mono (unhide HS)))
                      have HR1 := hide ((unhide HR).later (unhide HAl))
                      have HS1 := hide (Nat.le_trans (unhide HS) (unhide HAl).size)
                      go_loop [15, 180] (fun q x => ∃ (j : Nat) (y : Bool), j ≤ 15 ∧ x = .int .i64 (j : Int) ∧ q = .bool y ∧ Hid (y = sgUp 58 j)) (fun _ x => 15 - (intOf x).toNat)
                      case atStart => exact ⟨0, false, by omega, rfl, rfl, rfl⟩
                      case round =>
                        obtain ⟨j, y, hj, rfl, rfl, HY⟩ := hrel
                        rcases Nat.lt_or_ge j 15 with hjt | hjt
                        · have q1 : (j : Int) < 15 := by omega
                          have cj := (cell_of_row _ _ j _ _ _ (unhide HG)).trans (sg_at j hjt)
                          have HSs := hide (sg_step 58 j)
                          generalize sgN.getD j 0 = y2 at *
                          cases y with
                          | true =>
                            have HZ := hide (show true = sgUp 58 (j + 1) by rw [unhide HSs, ← unhide HY]; rfl)
                            clear HSs HY
                            go_wp2_with fail
                            exact ⟨⟨j + 1, true, by omega, rfl, rfl, HZ⟩, by simp [intOf]; omega⟩
                          | false =>
                            have HZ := hide (show decide (y2 = 58) = sgUp 58 (j + 1) by rw [unhide HSs, ← unhide HY]; rfl)
                            have hqq : ((y2 : Int) == 58) = decide (y2 = 58) := by rw [Bool.eq_iff_iff, beq_iff_eq, decide_eq_true_eq]; omega
                            clear HSs HY
                            generalize decide (y2 = 58) = z at *
                            go_wp2_with fail
                            exact ⟨⟨j + 1, z, by omega, rfl, rfl, HZ⟩, by simp [intOf]; omega⟩
                        · obtain rfl : j = 15 := by omega
                          have HY2 := hide ((unhide HY).trans (sg_all 58))
                          clear HY
                          cases y with
                          | true =>
                            have HTj := hide (unhide HTok (unhide HY2).symm)
                            clear HY2
                            go_wp2_with (at_builtin; refine wpList_row Tryd.underlying22 (unhide HI) rfl (by decide) (by decide) tkV_len tkV_one rfl _ _ rfl (row_alloc (unhide HR1) _) (by rw [World.size_alloc]; exact Nat.le_succ_of_le (unhide HS1)) ⟨5, s.extract k (k + 1), k⟩ w1.heap.size 1 rfl rfl (by exact tok_cell) (by omega) ?_; intro v' w2 hrow hgrow _)
                            exact ⟨⟨k + 1, l ++ [⟨5, s.extract k (k + 1), k⟩], by omega, by simp; omega, by first | rfl | exact congrArg (Value.int .i64) (by omega), hide hrow, below_grown (bel_alloc (unhide HB1) (unhide HS1)) (row_alloc (unhide HR1) _) (Nat.le_of_eq (unhide H0).2.2.symm) hgrow, (unhide HL).trans (unhide HTj)⟩, by simp [intOf]; omega⟩
                          | false =>
                            have HBd := hide (unhide HBad (unhide HY2).symm)
                            clear HY2
                            have hz := (unhide HB1).block w.heap.size (by omega) |>.trans (unhide H0).1
                            have c0 := (cell_of_row _ _ 0 _ _ _ hz).trans rfl
                            have c1 := (cell_of_row _ _ 1 _ _ _ hz).trans rfl
                            have z0 := frozen_of_row _ _ 0 _ _ hz
                            have z1 := frozen_of_row _ _ 1 _ _ hz
                            have HF := hide (fault_end (e := 2) (a := k) (bel_two (unhide H0).2.1 (unhide HB1) (Nat.le_of_eq (unhide H0).2.2.symm)) hz rfl row_nil)
                            clear hz
                            go_wp2_with fail
                            exact bodyPost_ret (results_fault rfl _ _ w.heap.size _ _ rfl rfl (unhide HF).2.2 rfl) rfl ⟨.slice none 0 0, by rw [unhide HP, unhide HL, unhide HBd]; rfl, by rw [unhide HP, unhide HL, unhide HBd]; exact (unhide HF).1, (unhide HF).2.1⟩
                  · have e58 : ((bat s k : Int) == 58) = false := by rw [beq_eq_false_iff_ne]; omega
                    clear hTok hBad hle hdi h39 h91 hbl bk h58 hgv
                    generalize bat s k = b at *
                    go_wp2_with (first | (go_at_call 15; refine (unhide HW).mono ?_; rintro e wr ⟨rfl, rfl⟩) | (go_at_call 16; refine (unhide HD).mono ?_; rintro e wr ⟨rfl, rfl⟩) | fail)
                    clear HW HD kc
                    have HG := hide (at_new (w := wr) (o := .cells sgV 5 (15, 16)) rfl)
                    have HAl := hide ((Below.refl wr.heap.size wr).alloc (Nat.le_refl _) (.cells sgV 5 (15, 16)))
                    change Code.wp _ _ _ _ (wr.alloc (.cells sgV 5 (15, 16)))
                    generalize wr.alloc (.cells sgV 5 (15, 16)) = w1 at *
                    have HB1 := hide (bel_trans (unhide HB) ((unhide HAl).mono (unhide HS)))
                    have HR1 := hide ((unhide HR).later (unhide HAl))
                    have HS1 := hide (Nat.le_trans (unhide HS) (unhide HAl).size)
                    go_loop [15, 180] (fun q x => ∃ (j : Nat) (y : Bool), j ≤ 15 ∧ x = .int .i64 (j : Int) ∧ q = .bool y ∧ Hid (y = sgUp b j)) (fun _ x => 15 - (intOf x).toNat)
                    case atStart => exact ⟨0, false, by omega, rfl, rfl, rfl⟩
                    case round =>
                      obtain ⟨j, y, hj, rfl, rfl, HY⟩ := hrel
                      rcases Nat.lt_or_ge j 15 with hjt | hjt
                      · have q1 : (j : Int) < 15 := by omega
                        have cj := (cell_of_row _ _ j _ _ _ (unhide HG)).trans (sg_at j hjt)
                        have HSs := hide (sg_step b j)
                        generalize sgN.getD j 0 = y2 at *
                        cases y with
                        | true =>
                          have HZ := hide (show true = sgUp b (j + 1) by rw [unhide HSs, ← unhide HY]; rfl)
                          clear HSs HY
                          go_wp2_with fail
                          exact ⟨⟨j + 1, true, by omega, rfl, rfl, HZ⟩, by simp [intOf]; omega⟩
                        | false =>
                          have HZ := hide (show decide (y2 = b) = sgUp b (j + 1) by rw [unhide HSs, ← unhide HY]; rfl)
                          have hqq : ((y2 : Int) == (b : Int)) = decide (y2 = b) := by rw [Bool.eq_iff_iff, beq_iff_eq, decide_eq_true_eq]; omega
                          clear HSs HY
                          generalize decide (y2 = b) = z at *
                          go_wp2_with fail
                          exact ⟨⟨j + 1, z, by omega, rfl, rfl, HZ⟩, by simp [intOf]; omega⟩
                      · obtain rfl : j = 15 := by omega
                        have HY2 := hide ((unhide HY).trans (sg_all b))
                        clear HY
                        cases y with
                        | true =>
                          have HTj := hide (unhide HTok (unhide HY2).symm)
                          clear HY2
                          go_wp2_with (at_builtin; refine wpList_row Tryd.underlying22 (unhide HI) rfl (by decide) (by decide) tkV_len tkV_one rfl _ _ rfl (row_alloc (unhide HR1) _) (by rw [World.size_alloc]; exact Nat.le_succ_of_le (unhide HS1)) ⟨5, s.extract k (k + 1), k⟩ w1.heap.size 1 rfl rfl (by exact tok_cell) (by omega) ?_; intro v' w2 hrow hgrow _)
                          exact ⟨⟨k + 1, l ++ [⟨5, s.extract k (k + 1), k⟩], by omega, by simp; omega, by first | rfl | exact congrArg (Value.int .i64) (by omega), hide hrow, below_grown (bel_alloc (unhide HB1) (unhide HS1)) (row_alloc (unhide HR1) _) (Nat.le_of_eq (unhide H0).2.2.symm) hgrow, (unhide HL).trans (unhide HTj)⟩, by simp [intOf]; omega⟩
                        | false =>
                          have HBd := hide (unhide HBad (unhide HY2).symm)
                          clear HY2
                          have hz := (unhide HB1).block w.heap.size (by omega) |>.trans (unhide H0).1
                          have c0 := (cell_of_row _ _ 0 _ _ _ hz).trans rfl
                          have c1 := (cell_of_row _ _ 1 _ _ _ hz).trans rfl
                          have z0 := frozen_of_row _ _ 0 _ _ hz
                          have z1 := frozen_of_row _ _ 1 _ _ hz
                          have HF := hide (fault_end (e := 2) (a := k) (bel_two (unhide H0).2.1 (unhide HB1) (Nat.le_of_eq (unhide H0).2.2.symm)) hz rfl row_nil)
                          clear hz
                          go_wp2_with fail
                          exact bodyPost_ret (results_fault rfl _ _ w.heap.size _ _ rfl rfl (unhide HF).2.2 rfl) rfl ⟨.slice none 0 0, by rw [unhide HP, unhide HL, unhide HBd]; rfl, by rw [unhide HP, unhide HL, unhide HBd]; exact (unhide HF).1, (unhide HF).2.1⟩
    · obtain rfl : k = s.size := by omega
      have HE := hide (@ln_end s l)
      have hz := (unhide HB).block w.heap.size (by omega) |>.trans (unhide H0).1
      have c0 := (cell_of_row _ _ 0 _ _ _ hz).trans rfl
      have c1 := (cell_of_row _ _ 1 _ _ _ hz).trans rfl
      have z0 := frozen_of_row _ _ 0 _ _ hz
      have z1 := frozen_of_row _ _ 1 _ _ hz
      have HF := hide (fault_end (e := 0) (a := 0) (bel_two (unhide H0).2.1 (unhide HB) (Nat.le_of_eq (unhide H0).2.2.symm)) hz rfl (unhide HR))
      clear hz
      go_wp2_with fail
      exact bodyPost_ret (results_fault rfl _ _ w.heap.size _ _ rfl rfl (unhide HF).2.2 rfl) rfl ⟨_, by rw [unhide HP, unhide HL, unhide HE], by rw [unhide HP, unhide HL, unhide HE]; exact (unhide HF).1, (unhide HF).2.1⟩

theorem refLine_any (s : ByteArray) (w : World) (hs : s.size ≤ maxLen) :
    Calls Tryd.prog 7 #[.string s] w fun e w' => LinePost s w e w' := by
  rcases Nat.lt_or_ge 2000 s.size with h | h
  · exact refLine_much s w hs h
  · exact refLine_ok s w h
end Go.Proofs.YtljkendefdhklaaDoor
