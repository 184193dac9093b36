/- What texts.joinsTooLong and texts.Join answer. -/
import Derived.Test.YtmplbdapehmciaaDoorSplit
import Derived.Test.YtmplbdapehmciaaDoorJoinLib
namespace Go.Proofs.YtmplbdapehmciaaDoor
open Go.RowKit

/-- How long all texts are together. -/
def lensB (xs : List ByteArray) : Nat := (xs.map (·.size)).sum
theorem lensB_take (xs : List ByteArray) (k : Nat) (h : k < xs.length) : lensB (xs.take (k + 1)) = lensB (xs.take k) + (xs.getD k ByteArray.empty).size := by
  unfold lensB
  rw [List.take_succ_eq_append_getElem h, List.map_append, List.sum_append, List.getD_eq_getElem?_getD, List.getElem?_eq_getElem h]
  simp
theorem lensB_le (xs : List ByteArray) (k : Nat) : lensB (xs.take k) ≤ lensB xs := by
  unfold lensB
  conv => rhs; rw [← List.take_append_drop k xs]
  rw [List.map_append, List.sum_append]
  omega
/-- How long they are with a sign between two. -/
def joinLen (xs : List ByteArray) : Nat := xs.length - 1 + lensB xs

set_option maxHeartbeats 1000000 in
theorem joinsTooLong_any (xs : List ByteArray) (v : Value) (w : World) (hn : xs.length ≤ 100000000000000) (hs : ∀ j, j < xs.length → (xs.getD j ByteArray.empty).size ≤ 200000000000000) (hv : StrsAt w v xs) :
    Calls Tryd.prog 13 #[v] w fun e w' => e = .returned (.bool (decide (65536 < joinLen xs))) ∧ w' = w := by
  obtain ⟨a, ca, rfl, hca, hxa⟩ := hv
  by_cases h0 : xs = []
  · subst h0
    clear hxa hca hn hs
    have e : decide (65536 < joinLen []) = false := by decide
    rw [e]
    clear e
    go_enter Tryd.func13, Tryd.ntmps13
    go_wp2
    refine wp_loop_rounds 1 ?_
    rw [rounds_succ]
    go_wp2
    go_ret
    exact ⟨rfl, rfl⟩
  · rcases hxa with hx | ⟨b, o, rfl, hxa⟩
    · exact absurd hx h0
    · have hpos : 0 < xs.length := List.length_pos_iff.2 h0
      have HA := hide hxa
      have HL := hide (lensB_take xs)
      have HM := hide (lensB_le xs)
      have HS := hide hs
      have hfull : lensB (xs.take xs.length) = lensB xs := by rw [List.take_length]
      have HF := hide hfull
      have HJ := hide (show joinLen xs = xs.length - 1 + lensB xs from rfl)
      have hL0 : lensB (xs.take 0) = 0 := by simp [lensB]
      have H0 := hide hL0
      clear hxa h0 hs hfull hL0
      generalize joinLen xs = J at *
      go_enter Tryd.func13, Tryd.ntmps13
      go_wp2
      go_loop [3, 11] (fun s i => ∃ (k S : Nat), k ≤ xs.length ∧ i = .int .i64 (k : Int) ∧ s = .int .i64 ((xs.length : Int) - 1 + (S : Int)) ∧ (k = 0 ∨ (xs.length : Int) - 1 + (S : Int) ≤ 65536) ∧ (k = 0 → S = 0) ∧ Hid (S = lensB (xs.take k))) (fun _ i => xs.length - (intOf i).toNat)
      case atStart => exact ⟨0, 0, Nat.zero_le _, rfl, by go_num, .inl rfl, fun _ => rfl, (unhide H0).symm⟩
      case round =>
        obtain ⟨k, S, hk, rfl, rfl, hor, hz, hS⟩ := hrel
        have hb : (S : Int) ≤ 65536 := by
          rcases hor with h | h
          · rw [hz h]; omega
          · omega
        by_cases hlt : k < xs.length
        · clear hor hz
          have c1 := unhide HA k hlt
          have z1 := unhide HS k hlt
          have l1 := unhide HL k hlt
          generalize xs.getD k ByteArray.empty = x at *
          by_cases hbig : 65536 < (xs.length : Int) - 1 + (S : Int) + (x.size : Int)
          · have e : decide (65536 < J) = true := by
              have := unhide HM (k + 1)
              have := unhide HJ
              have := hS.out
              simp
              omega
            have HE := hide e
            clear e l1
            go_wp2
            go_ret
            exact ⟨by rw [unhide HE]; rfl, rfl⟩
          · have HQ := hide (show S + x.size = lensB (xs.take (k + 1)) by rw [l1, hS.out])
            clear l1
            go_wp2
            go_round
            case rel => exact ⟨k + 1, S + x.size, by omega, by go_num, by go_num, .inr (by omega), fun h => by omega, HQ⟩
            case measure => simp [intOf]; omega
        · obtain rfl : k = xs.length := by omega
          have e : decide (65536 < J) = false := by
            have h1 := unhide HJ
            have h2 := hS.out
            have h3 := unhide HF
            rcases hor with h | h
            · omega
            · simp
              omega
          have HE := hide e
          clear e hor hz
          go_wp2
          go_ret
          exact ⟨by rw [unhide HE]; rfl, rfl⟩

/-- What Join answers, and what is wrong. -/
def joinT (xs : List ByteArray) (s : ByteArray) : ByteArray := mkT (Lib.join (xs.map (·.data.toList)) s.data.toList)
def joinE (xs : List ByteArray) (s : ByteArray) : Int := if s.size ≠ 1 then 8 else if 65536 < joinLen xs then 4 else 0
def joinV (xs : List ByteArray) (s : ByteArray) : ByteArray := if joinE xs s = 0 then joinT xs s else ⟨#[]⟩
theorem lens_map (xs : List ByteArray) : Lib.lens (xs.map (·.data.toList)) = lensB xs := by
  unfold Lib.lens lensB
  rw [List.map_map]
  congr 1
theorem join_len (xs : List ByteArray) (s : ByteArray) (hs : s.size = 1) : (Lib.join (xs.map (·.data.toList)) s.data.toList).length = joinLen xs := by
  cases xs with
  | nil => rfl
  | cons x r =>
    have hm := lens_map (x :: r)
    rw [List.map_cons] at hm
    rw [List.map_cons, Lib.join_length, hm, List.length_map]
    have : s.data.toList.length = 1 := by simpa using hs
    rw [this]
    unfold joinLen
    simp
theorem joinT_size (xs : List ByteArray) (s : ByteArray) (hs : s.size = 1) : (joinT xs s).size = joinLen xs := by
  show (Lib.join (xs.map (·.data.toList)) s.data.toList).toArray.size = _
  rw [List.size_toArray, join_len xs s hs]
theorem joinE_zero (xs : List ByteArray) (s : ByteArray) (h : joinE xs s = 0) : s.size = 1 ∧ joinLen xs ≤ 65536 := by
  unfold joinE at h
  split at h
  · simp at h
  · split at h
    · simp at h
    · omega

set_option maxHeartbeats 1000000 in
theorem join_any (xs : List ByteArray) (s : ByteArray) (v : Value) (w : World) (hn : xs.length ≤ 100000000000000) (hs : ∀ j, j < xs.length → (xs.getD j ByteArray.empty).size ≤ 200000000000000) (hv : StrsAt w v xs) :
    Calls Tryd.prog 7 #[v, .string s] w fun e w' => e = .returned (.tuple #[.string (joinV xs s), .int .i64 (joinE xs s)]) ∧ Below w.heap.size w w' := by
  have cl := fun W (h : StrsAt W v xs) => joinsTooLong_any xs v W hn hs h
  by_cases h1 : s.size = 1
  · have h2 : ((s.size : Int) != 1) = false := by rw [bne_eq_false_iff_eq]; omega
    by_cases hbig : 65536 < joinLen xs
    · have e : joinE xs s = 4 := by simp [joinE, h1, hbig]
      have ev : joinV xs s = ⟨#[]⟩ := by simp [joinV, e]
      have hd : decide (65536 < joinLen xs) = true := by simpa using hbig
      rw [e, ev]
      rw [hd] at cl
      have CL := hide cl
      have HV := hide hv
      clear cl hv e ev hd h1 hbig hs
      go_enter Tryd.func7, Tryd.ntmps7
      go_wp2_with (go_at_call 13; refine (unhide CL _ (unhide HV)).mono ?_; rintro e w' ⟨rfl, rfl⟩)
      go_ret2
      exact ⟨rfl, Below.refl _ _⟩
    · have e : joinE xs s = 0 := by simp [joinE, h1, hbig]
      have ev : joinV xs s = joinT xs s := by simp [joinV, e]
      have hd : decide (65536 < joinLen xs) = false := by simpa using hbig
      have hlen := join_len xs s h1
      have hsz := joinT_size xs s h1
      rw [e, ev]
      rw [hd] at cl
      have CL := hide cl
      have HV := hide hv
      have hjs : Calls Tryd.prog 14 #[v, .string s] w fun e w' => e = .returned (.string (joinT xs s)) ∧ Below w.heap.size w w' := by
        obtain ⟨a, ca, rfl, hca, hxa⟩ := hv
        by_cases h0 : xs = []
        · subst h0
          refine (Tryd.strings_Join_none a ca s w).mono ?_
          rintro e w' ⟨rfl, rfl⟩
          exact ⟨rfl, Below.refl _ _⟩
        · rcases hxa with hx | ⟨b, o, rfl, hxa⟩
          · exact absurd hx h0
          · have hpos : 0 < xs.length := List.length_pos_iff.2 h0
            refine Tryd.strings_Join b o ca xs s w (fun j x hj => ?_) (World.block_lt_of_cell? _ _ (hxa 0 hpos)) (by omega) hca (by omega)
            have hjl : j < xs.length := (List.getElem?_eq_some_iff.1 hj).1
            rw [hxa j hjl, List.getD_eq_getElem?_getD, hj]
            rfl
      have hcl : ∀ W, Calls Tryd.prog 11 #[.string (joinT xs s)] W fun e w' => e = .returned (.string (joinT xs s)) ∧ Below W.heap.size W w' := fun W => clone_any _ W (by omega)
      generalize joinT xs s = j at *
      have HJ := hide hjs
      have HC := hide hcl
      clear cl hv e ev hd h1 hbig hs hlen hsz hjs hcl
      go_enter Tryd.func7, Tryd.ntmps7
      go_wp2_with (first | (go_at_call 13; refine (unhide CL _ (unhide HV)).mono ?_; rintro e w' ⟨rfl, rfl⟩) | (go_at_call 14; refine (unhide HJ).mono ?_; rintro e w1 ⟨rfl, hb1⟩) | (go_at_call 11; refine (unhide HC _).mono ?_; rintro e w2 ⟨rfl, hb2⟩))
      go_ret2
      exact ⟨rfl, bnext hb1 hb2⟩
  · have h2 : ((s.size : Int) != 1) = true := by rw [bne_iff_ne]; omega
    have e : joinE xs s = 8 := by simp [joinE, h1]
    have ev : joinV xs s = ⟨#[]⟩ := by simp [joinV, e]
    rw [e, ev]
    obtain ⟨a, ca, rfl, hca, hxa⟩ := hv
    clear cl e ev h1 hs hxa
    go_enter Tryd.func7, Tryd.ntmps7
    go_wp2
    go_ret2
    exact ⟨rfl, Below.refl _ _⟩
end Go.Proofs.YtmplbdapehmciaaDoor
