/- What is come to leads to what is come to (split from RunReachP). -/
import Derived.Test.YtpphjddljngkmaaDoorCkPP
namespace Go.Proofs.YtpphjddljngkmaaDoor
open Go.RowKit

theorem come_nf (q : List Bool × List Nat) (x j : Nat) (h : q.1[j]? ≠ some false) : (comeN q x).1[j]? ≠ some false := by
  unfold comeN
  split
  · show (q.1.set x true)[j]? ≠ some false
    rw [List.getElem?_set]
    split
    · split
      · intro e; cases e
      · intro e; cases e
    · exact h
  · exact h
theorem come_nf_self (q : List Bool × List Nat) (x : Nat) : (comeN q x).1[x]? ≠ some false := by
  unfold comeN
  split
  · rename_i h
    show (q.1.set x true)[x]? ≠ some false
    rw [List.getElem?_set, if_pos rfl, if_pos (List.getElem?_eq_some_iff.1 h).1]
    intro e; cases e
  · rename_i h; exact h
theorem comes_nf : ∀ (l : List Nat) (q : List Bool × List Nat) (j : Nat), q.1[j]? ≠ some false → (l.foldl comeN q).1[j]? ≠ some false
  | [], _, _, h => h
  | x :: l, q, j, h => comes_nf l (comeN q x) j (come_nf q x j h)
theorem comes_nf_mem : ∀ (l : List Nat) (q : List Bool × List Nat) (j : Nat), j ∈ l → (l.foldl comeN q).1[j]? ≠ some false
  | [], _, _, h => by cases h
  | x :: l, q, j, h => by
    rcases List.mem_cons.1 h with rfl | h
    · exact comes_nf l (comeN q j) j (come_nf_self q j)
    · exact comes_nf_mem l (comeN q x) j h
theorem come_open (q : List Bool × List Nat) (x k : Nat) (h : k ∈ q.2) : k ∈ (comeN q x).2 := by
  unfold comeN
  split
  · exact List.mem_append_left _ h
  · exact h
theorem comes_open : ∀ (l : List Nat) (q : List Bool × List Nat) (k : Nat), k ∈ q.2 → k ∈ (l.foldl comeN q).2
  | [], _, _, h => h
  | x :: l, q, k, h => comes_open l (comeN q x) k (come_open q x k h)
theorem come_true (q : List Bool × List Nat) (x k : Nat) (h : (comeN q x).1[k]? = some true) : q.1[k]? = some true ∨ k ∈ (comeN q x).2 := by
  by_cases hx : q.1[x]? = some false
  · have e : comeN q x = (q.1.set x true, q.2 ++ [x]) := if_pos hx
    rw [e] at h ⊢
    have h : (q.1.set x true)[k]? = some true := h
    rw [List.getElem?_set] at h
    split at h
    · rename_i e; subst e; exact .inr (by simp)
    · exact .inl h
  · have e : comeN q x = q := if_neg hx
    rw [e] at h ⊢
    exact .inl h
theorem comes_true : ∀ (l : List Nat) (q : List Bool × List Nat) (k : Nat), (l.foldl comeN q).1[k]? = some true → q.1[k]? = some true ∨ k ∈ (l.foldl comeN q).2
  | [], _, _, h => .inl h
  | x :: l, q, k, h => by
    rcases comes_true l (comeN q x) k h with h1 | h1
    · rcases come_true q x k h1 with h2 | h2
      · exact .inl h2
      · exact .inr (comes_open l _ k h2)
    · exact .inr h1
/-- From what is come to, and is not open, all that it leads to is come to. -/
def Clsd (nx : Nat → List Nat) (q : List Bool × List Nat) : Prop := ∀ i, q.1[i]? = some true → i ∈ q.2 ∨ ∀ j ∈ nx i, q.1[j]? ≠ some false
theorem clsd_step {nx : Nat → List Nat} {q : List Bool × List Nat} {i : Nat} (h : Clsd nx q) (hi : q.2.getLast? = some i) : Clsd nx ((nx i).foldl comeN (q.1, q.2.dropLast)) := by
  intro k hk
  by_cases e : k = i
  · subst e
    exact .inr fun j hj => comes_nf_mem _ _ j hj
  · rcases comes_true _ _ k hk with h1 | h1
    · rcases h k h1 with h2 | h2
      · refine .inl (comes_open _ _ k ?_)
        have hq : q.2 = q.2.dropLast ++ [i] := by
          have hne : q.2 ≠ [] := fun e => by rw [e] at hi; cases hi
          rw [List.getLast?_eq_some_getLast hne] at hi
          have := List.dropLast_concat_getLast hne
          rw [Option.some.inj hi] at this
          exact this.symm
        rw [hq] at h2
        rcases List.mem_append.1 h2 with h3 | h3
        · exact h3
        · exact absurd (by simpa using h3) e
      · exact .inr fun j hj => comes_nf _ _ j (h2 j hj)
    · exact .inl h1
theorem walk_closed {nx : Nat → List Nat} : ∀ (f : Nat) (q : List Bool × List Nat), Clsd nx q → 2 * fals q.1 + q.2.length < f → ∀ i, (walkN nx f q)[i]? = some true → ∀ j ∈ nx i, (walkN nx f q)[j]? ≠ some false
  | 0, _, _, hf => by omega
  | f + 1, q, h, hf => by
    unfold walkN
    cases hq : q.2.getLast? with
    | none =>
      intro i hi j hj
      have e : q.2 = [] := List.getLast?_eq_none_iff.1 hq
      rcases h i hi with h1 | h1
      · rw [e] at h1; cases h1
      · exact h1 j hj
    | some i =>
      have h1 := comes_fals (nx i) (q.1, q.2.dropLast)
      have h2 : q.2.dropLast.length + 1 = q.2.length := by
        have hne : q.2.length ≠ 0 := fun e => by rw [List.eq_nil_of_length_eq_zero e] at hq; cases hq
        rw [List.length_dropLast]; omega
      exact walk_closed f _ (clsd_step h hq) (by simp only at h1; omega)
theorem fals_repl (n : Nat) : fals (List.replicate n false) = n := by
  unfold fals
  rw [List.filter_replicate_of_pos (by rfl), List.length_replicate]
/-- What is come to leads to what is come to. -/
theorem reach_closed (P : List SV) (c : CS) (i j : Nat) (h : (reachS P c)[i]? = some true) (hj : j ∈ nxtAt P c i) : (reachS P c)[j]? ≠ some false := by
  unfold reachS at h ⊢
  refine walk_closed _ _ ?_ ?_ i h j hj
  · intro k hk
    rcases come_true _ 0 k hk with h1 | h1
    · have h1 : (List.replicate P.length false)[k]? = some true := h1
      rw [List.getElem?_replicate] at h1
      split at h1
      · cases h1
      · cases h1
    · exact .inl h1
  · have := come_fals (List.replicate P.length false, []) 0
    rw [fals_repl] at this
    simp only [List.length_nil, Nat.add_zero] at this
    omega
theorem blt_neg {s : ByteArray} (h : blt s < 0) : blt s = -1 := by
  revert h
  unfold blt
  repeat' split
  all_goals omega
end Go.Proofs.YtpphjddljngkmaaDoor
