/- PatsTell: the walk. -/
import Derived.Test.YtffapdilojbagaaDoorRefNames4
import Derived.Deep.RegionHeld3
namespace Go.Proofs.YtffapdilojbagaaDoor
open Go.RowKit

set_option maxRecDepth 100000 in
set_option maxHeartbeats 2000000 in
theorem patsTell_walk (T : PT) (s : ByteArray) (w : World) (hT : T.In w) (hS : Shapes w) (hs : s.size ≤ maxLen) (hN : T.cnt ≤ 1048576) :
    Calls Tryd.prog 3 #[pv T, .string s] w fun e w' => e = .returned (.bool true) ∧ Below w.heap.size w w' := by
  obtain ⟨W1, hW1⟩ : ∃ W1, W1 = w.alloc (.cells #[.int .i64 T.k, .string T.t, .int .i64 T.n, .string T.nm, .slice T.xa T.len T.cap] 24) := ⟨_, rfl⟩
  have hb0 : Below w.heap.size w W1 := by rw [hW1]; exact (Below.refl _ _).alloc (Nat.le_refl _) _
  have hrow : W1.heap[w.heap.size]? = some (.cells #[.int .i64 T.k, .string T.t, .int .i64 T.n, .string T.nm, .slice T.xa T.len T.cap] 24 (0, 0)) := by rw [hW1]; exact at_new rfl
  have k1 := fun W (h : Below W1.heap.size W1 W) => wrong_any T W (PT.In.later (bnext hb0 h) hT) (hS.later (bnext hb0 h))
  have k2 := fun W (h : Below W1.heap.size W1 W) => refWrong_any T W (PT.In.later (bnext hb0 h) hT) hN
  have k3 := fun W => named_any s W hs
  have k4 := fun W => refNamed_any s W hs
  have k5 := fun W (h : Below W1.heap.size W1 W) => size_any T W (PT.In.later (bnext hb0 h) hT)
  have k6 := fun W (h : Below W1.heap.size W1 W) => refSize_any T W (PT.In.later (bnext hb0 h) hT) hN
  have k7 := fun W (h : Below W1.heap.size W1 W) => codeNames_any T W (PT.In.later (bnext hb0 h) hT) (hS.later (bnext hb0 h))
  have k8 := fun W (h : Below W1.heap.size W1 W) => refNames_any T W (PT.In.later (bnext hb0 h) hT) hN
  have hgl : (if T.wrong = 0 then namesOf T.giv else []).length ≤ 1000000 ∧ (if T.wrong = 0 then namesOf T.cal else []).length ≤ 1000000 := by
    split
    · rename_i hz
      have h1 := namesOf_len T.giv
      have h2 := namesOf_len T.cal
      have h3 := giv_len T
      have h4 := (wrong_zero hz).2
      omega
    · simp
  unfold pv at k1 k2 k5 k6 k7 k8
  unfold pv
  have H1 := hide k1
  have H2 := hide k2
  have H3 := hide k3
  have H4 := hide k4
  have H5 := hide k5
  have H6 := hide k6
  have H7 := hide k7
  have H8 := hide k8
  have HLN := hide hgl
  have HN := hide hN
  have HROW := hide hrow
  have HB0 := hide hb0
  have HW1 := hide hW1
  clear k1 k2 k3 k4 k5 k6 k7 k8 hgl hT hS hs hN hb0 hW1
  obtain ⟨c0, c1, c2, c3, c4⟩ := cells5 hrow
  clear hrow
  go_enter Tryd.func3, Tryd.ntmps3
  go_wp2_with fail
  rw [← unhide HW1]
  have hA : Below W1.heap.size W1 W1.drew := (Below.refl _ _).drew
  have hne : ∀ x : Int, (x != x) = false := fun x => by simp
  have hnb : ∀ x : Bool, (x != x) = false := fun x => by simp
  go_region_held3 (fun w' => w'.cell? ⟨w.heap.size, 0, none⟩ = some (.int .i64 T.k) ∧ w'.cell? ⟨w.heap.size, 1, none⟩ = some (.string T.t) ∧ w'.cell? ⟨w.heap.size, 2, none⟩ = some (.int .i64 T.n) ∧ w'.cell? ⟨w.heap.size, 3, none⟩ = some (.string T.nm) ∧ w'.cell? ⟨w.heap.size, 4, none⟩ = some (.slice T.xa T.len T.cap))
    (first | go_keep | exact cells5 (row_below (unhide HROW) hA))
    (first
      | (go_at_call 7; (with_reducible refine (unhide H1 _ hA).mono ?_); rintro e w2 ⟨rfl, hb2⟩; have hA := bnext hA hb2)
      | (go_at_call 8; (with_reducible refine (unhide H2 _ hA).mono ?_); rintro e w2 ⟨rfl, hb2⟩; have hA := bnext hA hb2)
      | (go_at_call 9; (with_reducible refine (unhide H3 _).mono ?_); rintro e w2 ⟨rfl, rfl⟩)
      | (go_at_call 10; (with_reducible refine (unhide H4 _).mono ?_); rintro e w2 ⟨rfl, hb2⟩; have hA := bnext hA hb2))
  cases hf : T.fits
  · have HSS := hide (show sizeSaid T = .tuple #[.int .i64 0, .int .i64 0, .int .i64 4] by unfold sizeSaid; rw [hf]; rfl)
    have HSR := hide (show sizeRef T = .tuple #[.int .i64 0, .int .i64 0, .bool false] by unfold sizeRef; rw [hf]; rfl)
    clear hf
    obtain ⟨c0, c1, c2, c3, c4⟩ := cells5 (row_below (unhide HROW) hA)
    have HA1 := hide hA
    clear hA
    go_wp2_with fail
    refine (unhide H5 _ (unhide HA1)).mono ?_
    rintro e w3 ⟨rfl, hb3⟩
    have HA2 := hide (bnext (unhide HA1) hb3)
    obtain ⟨c0, c1, c2, c3, c4⟩ := cells5 (row_below (unhide HROW) (unhide HA2))
    clear hb3
    rw [unhide HSS]
    go_wp2_with fail
    refine (unhide H6 _ (unhide HA2)).mono ?_
    rintro e w4 ⟨rfl, hb4⟩
    have HA3 := hide (bnext (unhide HA2) hb4)
    obtain ⟨c0, c1, c2, c3, c4⟩ := cells5 (row_below (unhide HROW) (unhide HA3))
    clear hb4
    rw [unhide HSR]
    go_wp2_with fail
    refine (unhide H7 _ (unhide HA3)).mono ?_
    rintro e w5 ⟨v, u, rfl, hv, hu, hb5⟩
    have HA4 := hide (bnext (unhide HA3) hb5)
    obtain ⟨c0, c1, c2, c3, c4⟩ := cells5 (row_below (unhide HROW) (unhide HA4))
    have HV := hide (And.intro hv hu)
    clear hb5 hv hu
    go_wp2_with fail
    refine (unhide H8 _ (unhide HA4)).mono ?_
    rintro e w6 ⟨v', u', rfl, hv', hu', hb6⟩
    have HA5 := hide (bnext (unhide HA4) hb6)
    have HV1 := hide (And.intro ((unhide HV).1.later hb6) ((unhide HV).2.later hb6))
    have HV2 := hide (And.intro hv' hu')
    clear hb6 hv' hu' c0 c1 c2 c3 c4
    go_wp2_with fail
    refine (same_texts _ _ _ _ (unhide HV1).1 (unhide HV2).1 (unhide HLN).1).mono ?_
    rintro e w7 ⟨rfl, hb7⟩
    have HA6 := hide (bnext (unhide HA5) hb7)
    have HV3 := hide (And.intro ((unhide HV1).2.later hb7) ((unhide HV2).2.later hb7))
    clear hb7
    go_wp2_with fail
    refine (same_texts _ _ _ _ (unhide HV3).1 (unhide HV3).2 (unhide HLN).2).mono ?_
    rintro e w8 ⟨rfl, hb8⟩
    have HA7 := hide (bnext (unhide HA6) hb8)
    clear hb8
    go_wp2_with fail
    go_ret
    exact ⟨rfl, bnext (unhide HB0) (unhide HA7)⟩
  · have HSS := hide (show sizeSaid T = .tuple #[.int .i64 (T.cnt : Int), .int .i64 (T.dep : Int), .int .i64 0] by unfold sizeSaid; rw [hf]; rfl)
    have HSR := hide (show sizeRef T = .tuple #[.int .i64 (T.cnt : Int), .int .i64 (T.dep : Int), .bool true] by unfold sizeRef; rw [hf]; rfl)
    clear hf
    obtain ⟨c0, c1, c2, c3, c4⟩ := cells5 (row_below (unhide HROW) hA)
    have HA1 := hide hA
    clear hA
    go_wp2_with fail
    refine (unhide H5 _ (unhide HA1)).mono ?_
    rintro e w3 ⟨rfl, hb3⟩
    have HA2 := hide (bnext (unhide HA1) hb3)
    obtain ⟨c0, c1, c2, c3, c4⟩ := cells5 (row_below (unhide HROW) (unhide HA2))
    clear hb3
    rw [unhide HSS]
    go_wp2_with fail
    refine (unhide H6 _ (unhide HA2)).mono ?_
    rintro e w4 ⟨rfl, hb4⟩
    have HA3 := hide (bnext (unhide HA2) hb4)
    obtain ⟨c0, c1, c2, c3, c4⟩ := cells5 (row_below (unhide HROW) (unhide HA3))
    clear hb4
    rw [unhide HSR]
    go_wp2_with fail
    refine (unhide H7 _ (unhide HA3)).mono ?_
    rintro e w5 ⟨v, u, rfl, hv, hu, hb5⟩
    have HA4 := hide (bnext (unhide HA3) hb5)
    obtain ⟨c0, c1, c2, c3, c4⟩ := cells5 (row_below (unhide HROW) (unhide HA4))
    have HV := hide (And.intro hv hu)
    clear hb5 hv hu
    go_wp2_with fail
    refine (unhide H8 _ (unhide HA4)).mono ?_
    rintro e w6 ⟨v', u', rfl, hv', hu', hb6⟩
    have HA5 := hide (bnext (unhide HA4) hb6)
    have HV1 := hide (And.intro ((unhide HV).1.later hb6) ((unhide HV).2.later hb6))
    have HV2 := hide (And.intro hv' hu')
    clear hb6 hv' hu' c0 c1 c2 c3 c4
    go_wp2_with fail
    refine (same_texts _ _ _ _ (unhide HV1).1 (unhide HV2).1 (unhide HLN).1).mono ?_
    rintro e w7 ⟨rfl, hb7⟩
    have HA6 := hide (bnext (unhide HA5) hb7)
    have HV3 := hide (And.intro ((unhide HV1).2.later hb7) ((unhide HV2).2.later hb7))
    clear hb7
    go_wp2_with fail
    refine (same_texts _ _ _ _ (unhide HV3).1 (unhide HV3).2 (unhide HLN).2).mono ?_
    rintro e w8 ⟨rfl, hb8⟩
    have HA7 := hide (bnext (unhide HA6) hb8)
    clear hb8
    go_wp2_with fail
    go_ret
    exact ⟨rfl, bnext (unhide HB0) (unhide HA7)⟩

end Go.Proofs.YtffapdilojbagaaDoor
