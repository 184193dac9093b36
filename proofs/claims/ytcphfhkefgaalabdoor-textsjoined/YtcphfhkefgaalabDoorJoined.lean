/- What the law TextsJoined answers, for every text, list of texts and sign: true. -/
import Derived.Test.YtcphfhkefgaalabDoorAlive
import Derived.Test.YtcphfhkefgaalabDoorJoin
import Derived.Test.YtcphfhkefgaalabDoorCount
import Derived.Laws.IdiomStrings
import Derived.Deep.LoopGhost
namespace Go.Proofs.YtcphfhkefgaalabDoor
open Go.RowKit

theorem joined_back (c : UInt8) (t : ByteArray) : joinT (pieces c t) ⟨#[c]⟩ = t := by
  unfold joinT pieces
  rw [List.map_map]
  have e : (List.map ((fun x : ByteArray => x.data.toList) ∘ fun l => (⟨l.toArray⟩ : ByteArray)) (pcs c t.data.toList)) = pcs c t.data.toList := by
    conv => rhs; rw [← List.map_id (pcs c t.data.toList)]
    apply List.map_congr_left
    intro x _
    rfl
  rw [e]
  show mkT (Lib.join (pcs c t.data.toList) [c]) = t
  rw [join_pcs]
  rfl
theorem split_back (c : UInt8) (xs : List ByteArray) (h0 : xs ≠ []) (h : ∀ x ∈ xs, ∀ b ∈ x.data.toList, b ≠ c) : pieces c (joinT xs ⟨#[c]⟩) = xs := by
  unfold joinT pieces
  show (pcs c (mkT (Lib.join (xs.map (·.data.toList)) [c])).data.toList).map _ = xs
  have e : (mkT (Lib.join (xs.map (·.data.toList)) [c])).data.toList = Lib.join (xs.map (·.data.toList)) [c] := by simp [mkT]
  rw [e, pcs_join c _ (by simpa using h0) (by
    intro l hl
    obtain ⟨x, hx, rfl⟩ := List.mem_map.1 hl
    exact h x hx), List.map_map]
  conv => rhs; rw [← List.map_id xs]
  apply List.map_congr_left
  intro x _
  rfl

theorem one_sign (x : ByteArray) (c : UInt8) (j : Nat) (h : j < x.size) : ((x.extract j (j + 1)).toList == [c]) = decide (x[j] = c) := by
  rw [ByteArray.toList_eq, ByteArray.data_extract, Array.toList_extract, List.extract_eq_take_drop, show j + 1 - j = 1 from by omega, List.drop_eq_getElem_cons (by simpa using h)]
  rw [Bool.eq_iff_iff, beq_iff_eq, decide_eq_true_eq]
  show [x.data.toList[j]] = [c] ↔ _
  rw [List.cons.injEq]
  simp
  rfl

/-- The second half of the law, from the joining of the list on. -/
theorem joined_facts (xs : List ByteArray) (s : ByteArray) (h : joinE xs s = 0) : ∃ c, s = ⟨#[c]⟩ ∧ joinV xs s = joinT xs ⟨#[c]⟩ ∧ (joinT xs ⟨#[c]⟩).size ≤ 65536 := by
  obtain ⟨h1, h2⟩ := joinE_zero xs s h
  obtain ⟨c, rfl⟩ := Lib.one_byte s h1
  exact ⟨c, rfl, by simp [joinV, h], by rw [joinT_size xs ⟨#[c]⟩ rfl]; exact h2⟩

theorem piece_size (xs : List ByteArray) (j : Nat) (h : j < xs.length) : (xs.getD j ByteArray.empty).size ≤ joinLen xs := by
  have h1 := lensB_take xs j h
  have h2 := lensB_le xs (j + 1)
  unfold joinLen
  omega

set_option maxHeartbeats 2000000 in
theorem textsJoined_walk (a0 : ByteArray) (v : Value) (xs : List ByteArray) (a2 : ByteArray) (w0 : a0.size ≤ maxLen) (w2 : a2.size ≤ maxLen) (w : World) (hn : xs.length ≤ 100000000000000) (hs : ∀ j, j < xs.length → (xs.getD j ByteArray.empty).size ≤ 200000000000000) (hv : StrsAt w v xs) (m : Int) (hm : w.cell? ⟨0, 0, none⟩ = some (.int .i64 m)) :
    Calls Tryd.prog 3 #[.string a0, v, .string a2] w fun e w' => e = .returned (.bool true) ∧ Below w.heap.size w w' := by
  have C2 := fun W h => join_any xs a2 v W hn hs h
  have HM := hide hm
  have HV := hide hv
  have HS := hide hs
  have hcvt := fun (W : World) (s : ByteArray) => run_bytes_of_string (P := Tryd.prog) W 9 31 5 s Tryd.underlying9 Tryd.underlying31 Tryd.underlying5
  have HCV := hide hcvt
  clear hm hs hcvt
  obtain ⟨av, cv, rfl, hcv0, hxv⟩ := hv
  by_cases hA : a0.size ≤ 65536 ∧ a2.size = 1
  · obtain ⟨h0, h1⟩ := hA
    obtain ⟨c, rfl⟩ := Lib.one_byte a2 h1
    have C1 := hide (fun W hW => split_ok a0 c m W h0 hW)
    have C3 := fun W hW => count_any a0 ⟨#[c]⟩ m W w0 w2 hW
    have hjl : joinLen (pieces c a0) = a0.size := by rw [← joinT_size (pieces c a0) ⟨#[c]⟩ rfl, joined_back]
    have e3 : countE a0 ⟨#[c]⟩ = 0 := countE_ok a0 ⟨#[c]⟩ h0 (by show 1 ≤ 65536; omega) (Nat.le_refl 1)
    have e4 : countV a0 ⟨#[c]⟩ = ((Lib.countB a0 ⟨#[c]⟩ : Nat) : Int) := by simp [countV, e3]
    have e5 := pieces_length c a0
    rw [e3, e4] at C3
    have hjE : joinE (pieces c a0) ⟨#[c]⟩ = 0 := by
      unfold joinE
      rw [if_neg (by simp; rfl), if_neg (by omega)]
    have hjV : joinV (pieces c a0) ⟨#[c]⟩ = a0 := by simp [joinV, hjE, joined_back]
    have hlp : (pieces c a0).length ≤ 65537 := by
      have : (pieces c a0).length - 1 ≤ joinLen (pieces c a0) := by unfold joinLen; omega
      omega
    have CJ := fun W u h => join_any (pieces c a0) ⟨#[c]⟩ u W (by omega) (fun j hj => by have := piece_size (pieces c a0) j hj; omega) h
    rw [hjV, hjE] at CJ
    have CJ := hide CJ
    have C3 := hide C3
    generalize pieces c a0 = ps at *
    generalize Lib.countB a0 ⟨#[c]⟩ = cn at *
    have hlen : ((ps.length : Int) != (cn : Int) + 1) = false := by rw [bne_eq_false_iff_eq]; omega
    have hcn : cn ≤ 65536 := by omega
    clear hjl e3 e4 e5 hjE hjV h1
    go_enter Tryd.func3, Tryd.ntmps3
    go_wp2_with fail
    refine (alive_any _).mono ?_
    rintro e W1 ⟨rfl, hb1⟩
    go_wp2_with fail
    refine (unhide C1 _ (cell_later hb1 (unhide HM))).mono ?_
    rintro e W2 ⟨vp, rfl, hst, hb2⟩
    obtain ⟨pa, pc, hvf, hpc, hcells⟩ := hst
    have HST := hide (show StrsAt W2 (.slice pa ps.length pc) ps from ⟨pa, pc, rfl, hpc, hcells⟩)
    subst hvf
    have hb2 := bnext hb1 hb2
    clear hb1 hcells hpc
    go_wp2_with fail
    refine (unhide CJ _ _ (unhide HST)).mono ?_
    rintro e W3 ⟨rfl, hb3⟩
    have hb3 := bnext hb2 hb3
    clear hb2
    go_wp2_with fail
    refine (unhide C3 _ (cell_later hb3 (unhide HM))).mono ?_
    rintro e W4 ⟨rfl, hbw⟩
    have hbw := bnext hb3 hbw
    clear hb3
    by_cases hE : joinE xs ⟨#[c]⟩ = 0
    · obtain ⟨c2, hc2, hV, hsz⟩ := joined_facts xs ⟨#[c]⟩ hE
      obtain rfl : c = c2 := by
        have := congrArg ByteArray.data hc2
        simpa using this
      clear hc2
      rw [hE, hV] at C2
      have C2 := hide C2
      by_cases hx0 : xs = []
      · have hl0 : ((xs.length : Int) == 0) = true := by rw [hx0]; rfl
        generalize joinT xs ⟨#[c]⟩ = J at *
        clear hV hsz hE hx0 hxv
        go_wp2_with fail
        refine (unhide C2 _ ((unhide HV).later hbw)).mono ?_
        rintro e Wj ⟨rfl, hbj⟩
        go_wp2
        go_ret
        exact ⟨rfl, bnext hbw hbj⟩
      · have hl0 : ((xs.length : Int) == 0) = false := by
          rw [beq_eq_false_iff_ne]
          have := List.length_pos_iff.2 hx0
          omega
        rcases hxv with hx | ⟨bx, ox, rfl, hxc⟩
        · exact absurd hx hx0
        · have HXC := hide hxc
          have hback := split_back c xs hx0
          have CS := hide (fun W hW => split_ok (joinT xs ⟨#[c]⟩) c m W hsz hW)
          generalize joinT xs ⟨#[c]⟩ = J at *
          have HBK := hide hback
          clear hV hsz hE hx0 hxc hback
          go_wp2_with fail
          refine (unhide C2 _ ((unhide HV).later hbw)).mono ?_
          rintro e Wj ⟨rfl, hbj⟩
          have hbw := bnext hbw hbj
          clear hbj
          go_wp2
          go_loopw [72] (fun i wr => ∃ k : Nat, k ≤ xs.length ∧ i = .int .i64 (k : Int) ∧ Below w.heap.size w wr ∧ Hid (∀ j, j < k → ∀ b ∈ (xs.getD j ByteArray.empty).data.toList, b ≠ c)) (fun i _ => xs.length - (intOf i).toNat)
          case atStart => exact ⟨0, Nat.zero_le _, rfl, hbw, fun j hj => absurd hj (Nat.not_lt_zero _)⟩
          case round =>
            obtain ⟨k, hk, rfl, hbr, hfree⟩ := hrel
            clear hbw
            by_cases hlt : k < xs.length
            · have cx := cell_later hbr (unhide HXC k hlt)
              have zx := unhide HS k hlt
              obtain ⟨x, hx⟩ : ∃ x, x = xs.getD k ByteArray.empty := ⟨_, rfl⟩
              rw [← hx] at cx zx
              have HX := hide hx
              have hcvx := fun W => unhide HCV W x
              clear hx
              go_wp2
              go_loopw [79] (fun i wq => ∃ j : Nat, j ≤ x.size ∧ i = .int .i64 (j : Int) ∧ Below w.heap.size w wq ∧ Hid (∀ b ∈ x.data.toList.take j, b ≠ c)) (fun i _ => x.size - (intOf i).toNat)
              case atStart => exact ⟨0, Nat.zero_le _, rfl, (hbr.alloc (by have := hbr.size; omega) _).drew, fun b hb => by simp at hb⟩
              case round =>
                obtain ⟨j, hj, rfl, hbq, hfr2⟩ := hrel
                clear hcvx
                by_cases hjl : j < x.size
                · have hone := one_sign x c j hjl
                  by_cases hcc : x[j] = c
                  · have hb1 : ((x.extract j (j + 1)).toList == [c]) = true := by rw [hone]; simpa using hcc
                    clear hone hcc
                    go_wp2
                    go_ret
                    exact ⟨rfl, hbq⟩
                  · have hb1 : ((x.extract j (j + 1)).toList == [c]) = false := by rw [hone]; simpa using hcc
                    have HQ : Hid (∀ b ∈ x.data.toList.take (j + 1), b ≠ c) := by
                      intro b hb
                      rw [take_snoc x j hjl, List.mem_append] at hb
                      rcases hb with hb | hb
                      · exact hfr2.out b hb
                      · simp at hb; rw [hb]; exact hcc
                    clear hone hcc
                    go_wp2
                    exact ⟨⟨j + 1, hjl, by go_num, hbq, HQ⟩, by simp [intOf]; omega⟩
                · have HQ : Hid (∀ i, i < k + 1 → ∀ b ∈ (xs.getD i ByteArray.empty).data.toList, b ≠ c) := by
                    intro i hi
                    by_cases e : i = k
                    · subst e
                      rw [← unhide HX]
                      intro b hb
                      apply hfr2.out b
                      rw [List.take_of_length_le (by simp; omega)]
                      exact hb
                    · exact hfree.out i (by omega)
                  go_wp2
                  exact ⟨⟨k + 1, hlt, by go_num, hbq, HQ⟩, by simp [intOf]; omega⟩
            · have hall : ∀ x ∈ xs, ∀ b ∈ x.data.toList, b ≠ c := by
                intro x hx
                obtain ⟨i, hi, rfl⟩ := List.getElem_of_mem hx
                have := hfree.out i (by omega)
                rw [List.getD_eq_getElem?_getD, List.getElem?_eq_getElem hi] at this
                exact this
              have hpx := unhide HBK hall
              clear hall hfree
              go_wp2_with fail
              refine (unhide CS _ (cell_later hbr (unhide HM))).mono ?_
              rintro e Ws ⟨vs, rfl, hvs, hbs⟩
              rw [hpx] at hvs
              have HVS := hide hvs
              have hbs := bnext hbr hbs
              clear hpx hvs hbr
              go_wp2_with fail
              refine (same_true xs vs _ _ (by omega) (unhide HVS) ((unhide HV).later hbs)).mono ?_
              rintro e Wz ⟨rfl, hbz⟩
              go_wp2
              go_ret
              exact ⟨rfl, bnext hbs hbz⟩
    · have hEb : (joinE xs ⟨#[c]⟩ != 0) = true := by rw [bne_iff_ne]; exact hE
      have C2 := hide C2
      generalize joinV xs ⟨#[c]⟩ = JV at *
      generalize joinE xs ⟨#[c]⟩ = JE at *
      clear hE hxv
      go_wp2_with fail
      refine (unhide C2 _ ((unhide HV).later hbw)).mono ?_
      rintro e Wj ⟨rfl, hbj⟩
      go_wp2
      go_ret
      exact ⟨rfl, bnext hbw hbj⟩
  · have hsp : ∃ E : Int, (E == 0) = false ∧ ∀ W, Calls Tryd.prog 5 #[.string a0, .string a2] W fun e w' => e = .returned (.tuple #[.slice none 0 0, .int .i64 E]) ∧ Below W.heap.size W w' := by
      by_cases h0 : a0.size ≤ 65536
      · exact ⟨8, rfl, fun W => split_fit a0 a2 W h0 (fun h => hA ⟨h0, h⟩)⟩
      · exact ⟨4, rfl, fun W => split_much a0 a2 W w0 (by omega)⟩
    obtain ⟨E, hEE, c1⟩ := hsp
    have C1 := hide c1
    clear c1 hA
    go_enter Tryd.func3, Tryd.ntmps3
    go_wp2_with fail
    refine (alive_any _).mono ?_
    rintro e W1 ⟨rfl, hb1⟩
    go_wp2_with fail
    refine (unhide C1 _).mono ?_
    rintro e W2 ⟨rfl, hbw⟩
    have hbw := bnext hb1 hbw
    clear hb1
    by_cases hE : joinE xs a2 = 0
    · obtain ⟨c2, hc2, hV, hsz⟩ := joined_facts xs a2 hE
      subst hc2
      rw [hE, hV] at C2
      have C2 := hide C2
      by_cases hx0 : xs = []
      · have hl0 : ((xs.length : Int) == 0) = true := by rw [hx0]; rfl
        generalize joinT xs ⟨#[c2]⟩ = J at *
        clear hV hsz hE hx0 hxv
        go_wp2_with fail
        refine (unhide C2 _ ((unhide HV).later hbw)).mono ?_
        rintro e Wj ⟨rfl, hbj⟩
        go_wp2
        go_ret
        exact ⟨rfl, bnext hbw hbj⟩
      · have hl0 : ((xs.length : Int) == 0) = false := by
          rw [beq_eq_false_iff_ne]
          have := List.length_pos_iff.2 hx0
          omega
        rcases hxv with hx | ⟨bx, ox, rfl, hxc⟩
        · exact absurd hx hx0
        · have HXC := hide hxc
          have hback := split_back c2 xs hx0
          have CS := hide (fun W hW => split_ok (joinT xs ⟨#[c2]⟩) c2 m W hsz hW)
          generalize joinT xs ⟨#[c2]⟩ = J at *
          have HBK := hide hback
          clear hV hsz hE hx0 hxc hback
          go_wp2_with fail
          refine (unhide C2 _ ((unhide HV).later hbw)).mono ?_
          rintro e Wj ⟨rfl, hbj⟩
          have hbw := bnext hbw hbj
          clear hbj
          go_wp2
          go_loopw [72] (fun i wr => ∃ k : Nat, k ≤ xs.length ∧ i = .int .i64 (k : Int) ∧ Below w.heap.size w wr ∧ Hid (∀ j, j < k → ∀ b ∈ (xs.getD j ByteArray.empty).data.toList, b ≠ c2)) (fun i _ => xs.length - (intOf i).toNat)
          case atStart => exact ⟨0, Nat.zero_le _, rfl, hbw, fun j hj => absurd hj (Nat.not_lt_zero _)⟩
          case round =>
            obtain ⟨k, hk, rfl, hbr, hfree⟩ := hrel
            clear hbw
            by_cases hlt : k < xs.length
            · have cx := cell_later hbr (unhide HXC k hlt)
              have zx := unhide HS k hlt
              obtain ⟨x, hx⟩ : ∃ x, x = xs.getD k ByteArray.empty := ⟨_, rfl⟩
              rw [← hx] at cx zx
              have HX := hide hx
              have hcvx := fun W => unhide HCV W x
              clear hx
              go_wp2
              go_loopw [79] (fun i wq => ∃ j : Nat, j ≤ x.size ∧ i = .int .i64 (j : Int) ∧ Below w.heap.size w wq ∧ Hid (∀ b ∈ x.data.toList.take j, b ≠ c2)) (fun i _ => x.size - (intOf i).toNat)
              case atStart => exact ⟨0, Nat.zero_le _, rfl, (hbr.alloc (by have := hbr.size; omega) _).drew, fun b hb => by simp at hb⟩
              case round =>
                obtain ⟨j, hj, rfl, hbq, hfr2⟩ := hrel
                clear hcvx
                by_cases hjl : j < x.size
                · have hone := one_sign x c2 j hjl
                  by_cases hcc : x[j] = c2
                  · have hb1 : ((x.extract j (j + 1)).toList == [c2]) = true := by rw [hone]; simpa using hcc
                    clear hone hcc
                    go_wp2
                    go_ret
                    exact ⟨rfl, hbq⟩
                  · have hb1 : ((x.extract j (j + 1)).toList == [c2]) = false := by rw [hone]; simpa using hcc
                    have HQ : Hid (∀ b ∈ x.data.toList.take (j + 1), b ≠ c2) := by
                      intro b hb
                      rw [take_snoc x j hjl, List.mem_append] at hb
                      rcases hb with hb | hb
                      · exact hfr2.out b hb
                      · simp at hb; rw [hb]; exact hcc
                    clear hone hcc
                    go_wp2
                    exact ⟨⟨j + 1, hjl, by go_num, hbq, HQ⟩, by simp [intOf]; omega⟩
                · have HQ : Hid (∀ i, i < k + 1 → ∀ b ∈ (xs.getD i ByteArray.empty).data.toList, b ≠ c2) := by
                    intro i hi
                    by_cases e : i = k
                    · subst e
                      rw [← unhide HX]
                      intro b hb
                      apply hfr2.out b
                      rw [List.take_of_length_le (by simp; omega)]
                      exact hb
                    · exact hfree.out i (by omega)
                  go_wp2
                  exact ⟨⟨k + 1, hlt, by go_num, hbq, HQ⟩, by simp [intOf]; omega⟩
            · have hall : ∀ x ∈ xs, ∀ b ∈ x.data.toList, b ≠ c2 := by
                intro x hx
                obtain ⟨i, hi, rfl⟩ := List.getElem_of_mem hx
                have := hfree.out i (by omega)
                rw [List.getD_eq_getElem?_getD, List.getElem?_eq_getElem hi] at this
                exact this
              have hpx := unhide HBK hall
              clear hall hfree
              go_wp2_with fail
              refine (unhide CS _ (cell_later hbr (unhide HM))).mono ?_
              rintro e Ws ⟨vs, rfl, hvs, hbs⟩
              rw [hpx] at hvs
              have HVS := hide hvs
              have hbs := bnext hbr hbs
              clear hpx hvs hbr
              go_wp2_with fail
              refine (same_true xs vs _ _ (by omega) (unhide HVS) ((unhide HV).later hbs)).mono ?_
              rintro e Wz ⟨rfl, hbz⟩
              go_wp2
              go_ret
              exact ⟨rfl, bnext hbs hbz⟩
    · have hEb : (joinE xs a2 != 0) = true := by rw [bne_iff_ne]; exact hE
      have C2 := hide C2
      generalize joinV xs a2 = JV at *
      generalize joinE xs a2 = JE at *
      clear hE hxv
      go_wp2_with fail
      refine (unhide C2 _ ((unhide HV).later hbw)).mono ?_
      rintro e Wj ⟨rfl, hbj⟩
      go_wp2
      go_ret
      exact ⟨rfl, bnext hbw hbj⟩
end Go.Proofs.YtcphfhkefgaalabDoor
