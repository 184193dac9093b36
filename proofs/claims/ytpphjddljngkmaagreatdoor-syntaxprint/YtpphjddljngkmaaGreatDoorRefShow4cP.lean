/- What the document's Show does of kinds with kids. -/
import Derived.Test.YtpphjddljngkmaaGreatDoorRefShow4bP
namespace Go.Proofs.YtpphjddljngkmaaGreatDoor
open Go.RowKit
set_option linter.unusedVariables false

theorem joinTo_len (sep : List UInt8) (hs : sep.length ≤ 3) (f : Nat → List UInt8) (c : Nat → Nat) : ∀ n, (∀ i, i < n → (f i).length + 3 ≤ 140005 * c i) → (joinTo sep f n).length ≤ 140005 * sumTo c n
  | 0, _ => Nat.zero_le _
  | n + 1, h => by
    have ih := joinTo_len sep hs f c n (fun i hi => h i (by omega))
    have hn := h n (by omega)
    simp only [joinTo, sumTo, List.length_append]
    have : (if 0 < n then sep else []).length ≤ 3 := by
      split
      · exact hs
      · simp
    omega
theorem inB_len (b : Bool) (t : List UInt8) : (inB b t).length ≤ t.length + 2 := by
  unfold inB
  split <;> simp
set_option maxHeartbeats 1000000 in
theorem txt_step (T : PT) (hbad : T.bad = 0) (ih : ∀ i, i < T.len → (T.kid i).txt.length + 5 ≤ 140005 * (T.kid i).cnt) : T.txt.length + 5 ≤ 140005 * T.cnt := by
  obtain ⟨he, hk⟩ := bad_zero hbad
  obtain ⟨r1, r2, r3, r4, r5, r6, r7⟩ := right_node he
  have hcnt := T.cnt_eq
  have ihk : ∀ i, i < T.len → (T.kidT i).length + 3 ≤ 140005 * (T.kid i).cnt := fun i hi => by
    have h1 := ih i hi
    have h2 : (T.kidT i).length ≤ (T.kid i).txt.length + 2 := inB_len _ _
    omega
  have j1 := joinTo_len [32] (by decide) T.kidT (fun i => (T.kid i).cnt) T.len ihk
  have j2 := joinTo_len [32, 124, 32] (by decide) T.kidT (fun i => (T.kid i).cnt) T.len ihk
  have j3 := joinTo_len [] (by decide) T.kidT (fun i => (T.kid i).cnt) T.len ihk
  have hnm : 21 ≤ T.k ∧ T.k ≤ 24 → T.nm.data.toList.length ≤ 16 := fun h => by have := named_zero he h; simpa using this
  have hq := quoteL_len T.t.data.toList
  have htl : T.t.data.toList.length = T.t.size := by simp
  have hw : (wordK T.k.toNat).data.toList.length ≤ 6 := by have := wordK_size T.k.toNat; simpa using this
  have hit : hasK T.k = 2 → (Lib.itoa T.n).length ≤ 65537 := fun h => by
    have := digB_size T.n (r4 h).1 (r4 h).2
    have hd : (digB T.n).size = (Lib.itoa T.n).length := by simp [digB, ByteArray.size]
    omega
  have h20 : T.k = 20 → (T.kid 0).txt.length + 5 ≤ 140005 * sumTo (fun i => (T.kid i).cnt) T.len := fun h => by
    have hl : 0 < T.len := by
      have h6 : leastK T.k = 1 := by unfold leastK; rw [if_neg (by omega), if_pos (by omega)]
      omega
    have h1 := ih 0 hl
    have h2 := sumTo_le (fun i => (T.kid i).cnt) (show 0 + 1 ≤ T.len from hl)
    simp only [sumTo] at h2
    omega
  have h1 : T.k = 1 → T.t.size ≤ 65536 := fun h => r3 (by unfold hasK; rw [if_pos (by omega)])
  rw [PT.txt_eq r1, hcnt]
  generalize sumTo (fun i => (T.kid i).cnt) T.len = c at *
  split
  · rename_i h; have := h1 h; omega
  · split
    · omega
    · split
      · omega
      · split
        · rename_i h; have := hnm (by omega); simp only [List.length_append, List.length_cons, List.length_nil]; omega
        · split
          · rename_i h; have := hnm (by omega); simp only [List.length_append, List.length_cons, List.length_nil]; omega
          · split
            · rename_i h; have := hnm (by omega); simp only [List.length_cons]; omega
            · split
              · rename_i h; have := hnm (by omega); simp only [List.length_cons]; omega
              · rw [List.length_append]
                split
                · rename_i h; have := hit h; simp only [List.length_append, List.length_cons, List.length_nil]; omega
                · split
                  · rename_i h; have := r3 h; simp only [List.length_append, List.length_cons, List.length_nil]; omega
                  · split
                    · rename_i h; have := h20 h; simp only [List.length_append, List.length_cons, List.length_nil]; omega
                    · simp only [List.length_nil]; omega
theorem txt_len : ∀ {T : PT}, T.bad = 0 → T.txt.length + 5 ≤ 140005 * T.cnt := fun {T} => PT.ind (P := fun T => T.bad = 0 → T.txt.length + 5 ≤ 140005 * T.cnt) (fun T ih h => txt_step T h fun i hi => ih i hi ((bad_zero h).2 i hi)) T
theorem shown_len {T : PT} (i : Int) (h : T.bad = 0) : (T.shown i).length ≤ 140005 * T.cnt := by
  have h1 := txt_len h
  have h2 : (T.shown i).length ≤ T.txt.length + 2 := inB_len _ _
  omega
end Go.Proofs.YtpphjddljngkmaaGreatDoor
