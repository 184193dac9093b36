/- What the law TextsLists answers, for every text, list of texts and sign: true. -/
import Derived.Test.YtmplbdapehmciaaDoorRefJoin
import Derived.Test.YtmplbdapehmciaaDoorRefSplit
namespace Go.Proofs.YtmplbdapehmciaaDoor
open Go.RowKit

theorem pieces_few (c : UInt8) (t : ByteArray) (h : t.size ≤ 65536) : (pieces c t).length ≤ 65537 := by
  unfold pieces
  rw [List.length_map, pcs_length]
  have h1 := List.count_le_length (a := c) (l := t.data.toList)
  have h2 : t.data.toList.length = t.size := by simp
  omega

/-- Splitting by both, and whether they are the same: in one step of three calls. -/
theorem lists_end (a2 : ByteArray) (xs : List ByteArray) (v : Value) (hn : xs.length ≤ 100000000000000) (hs : ∀ j, j < xs.length → (xs.getD j ByteArray.empty).size ≤ 140737488351232) :
    ∃ (V : ByteArray) (E : Int), (∀ W, StrsAt W v xs → Calls Tryd.prog 7 #[v, .string a2] W fun e w' => e = .returned (.tuple #[.string V, .int .i64 E]) ∧ Below W.heap.size W w') ∧
      (∀ W, StrsAt W v xs → Calls Tryd.prog 8 #[v, .string a2] W fun e w' => e = .returned (.tuple #[.string V, .int .i64 E]) ∧ Below W.heap.size W w') := by
  refine ⟨joinV xs a2, joinE xs a2, fun W h => join_any xs a2 v W hn (fun j hj => by have := hs j hj; omega) h, fun W h => ?_⟩
  by_cases h1 : a2.size = 1
  · obtain ⟨c, rfl⟩ := Lib.one_byte a2 h1
    exact refJoin_any xs c v W hn hs h
  · have e : joinE xs a2 = 8 := by simp [joinE, h1]
    have ev : joinV xs a2 = ⟨#[]⟩ := by simp [joinV, e]
    rw [e, ev]
    obtain ⟨a, ca, rfl, _⟩ := h
    exact refJoin_fit a2 _ W h1 ⟨_, _, _, rfl⟩

theorem lists_begin (a0 a2 : ByteArray) (m : Int) (w0 : a0.size ≤ maxLen) :
    ∃ (ps : List ByteArray) (E : Int), ps.length ≤ 65537 ∧
      (∀ W, W.cell? ⟨0, 0, none⟩ = some (.int .i64 m) → Calls Tryd.prog 4 #[.string a0, .string a2] W fun e w' => ∃ v, e = .returned (.tuple #[v, .int .i64 E]) ∧ StrsAt w' v ps ∧ Below W.heap.size W w') ∧
      (∀ W, Calls Tryd.prog 5 #[.string a0, .string a2] W fun e w' => ∃ v, e = .returned (.tuple #[v, .int .i64 E]) ∧ StrsAt w' v ps ∧ Below W.heap.size W w') := by
  by_cases h0 : a0.size ≤ 65536
  · by_cases h1 : a2.size = 1
    · obtain ⟨c, rfl⟩ := Lib.one_byte a2 h1
      exact ⟨pieces c a0, 0, pieces_few c a0 h0, fun W hW => split_ok a0 c m W h0 hW, fun W => refSplit_ok a0 c W h0⟩
    · refine ⟨[], 8, by simp, fun W hW => (split_fit a0 a2 W h0 h1).mono ?_, fun W => (refSplit_fit a0 a2 W h0 h1).mono ?_⟩
      · rintro e w' ⟨rfl, hb⟩
        exact ⟨_, rfl, strs_nil _, hb⟩
      · rintro e w' ⟨rfl, hb⟩
        exact ⟨_, rfl, strs_nil _, hb⟩
  · refine ⟨[], 4, by simp, fun W hW => (split_much a0 a2 W w0 (by omega)).mono ?_, fun W => (refSplit_much a0 a2 W w0 (by omega)).mono ?_⟩
    · rintro e w' ⟨rfl, hb⟩
      exact ⟨_, rfl, strs_nil _, hb⟩
    · rintro e w' ⟨rfl, hb⟩
      exact ⟨_, rfl, strs_nil _, hb⟩

set_option maxHeartbeats 1000000 in
theorem textsLists_walk (a0 : ByteArray) (v : Value) (xs : List ByteArray) (a2 : ByteArray) (w0 : a0.size ≤ maxLen) (w : World) (hn : xs.length ≤ 100000000000000) (hs : ∀ j, j < xs.length → (xs.getD j ByteArray.empty).size ≤ 140737488351232) (hv : StrsAt w v xs) (m : Int) (hm : w.cell? ⟨0, 0, none⟩ = some (.int .i64 m)) :
    Calls Tryd.prog 3 #[.string a0, v, .string a2] w fun e w' => e = .returned (.bool true) ∧ Below w.heap.size w w' := by
  obtain ⟨ps, E, hps, c1, c2⟩ := lists_begin a0 a2 m w0
  obtain ⟨V, E2, c4, c5⟩ := lists_end a2 xs v hn hs
  have C1 := hide c1
  have C2 := hide c2
  have C4 := hide c4
  have C5 := hide c5
  have HM := hide hm
  have HV := hide hv
  clear c1 c2 c4 c5 hm hv hs
  go_enter Tryd.func3, Tryd.ntmps3
  go_wp2_with fail
  refine (unhide C1 _ (unhide HM)).mono ?_
  rintro e W1 ⟨va, rfl, ha, hb1⟩
  have HA := hide ha
  clear ha
  go_wp2_with fail
  refine (unhide C2 _).mono ?_
  rintro e W2 ⟨vb, rfl, hbb, hb2⟩
  have HB := hide hbb
  have HA2 := hide ((unhide HA).later hb2)
  have hb2 := bnext hb1 hb2
  clear hb1 hbb HA
  go_wp2_with fail
  refine (same_true ps va vb _ (by omega) (unhide HA2) (unhide HB)).mono ?_
  rintro e W3 ⟨rfl, hb3⟩
  have hb3 := bnext hb2 hb3
  clear hb2
  go_wp2_with fail
  refine (unhide C4 _ ((unhide HV).later hb3)).mono ?_
  rintro e W4 ⟨rfl, hb4⟩
  have hb4 := bnext hb3 hb4
  clear hb3
  go_wp2_with fail
  refine (unhide C5 _ ((unhide HV).later hb4)).mono ?_
  rintro e W5 ⟨rfl, hb5⟩
  have hb5 := bnext hb4 hb5
  clear hb4
  go_wp2
  go_ret
  exact ⟨rfl, hb5⟩
end Go.Proofs.YtmplbdapehmciaaDoor
