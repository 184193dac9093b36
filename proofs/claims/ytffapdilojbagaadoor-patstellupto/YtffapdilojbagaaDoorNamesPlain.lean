/- Names in rising order, each once: sorted and made compact, or put one by one, it is the same. -/
import Derived.Test.YtffapdilojbagaaDoorPatPlain
import Derived.Lib.SlicesCompact
namespace Go.Proofs.YtffapdilojbagaaDoor

abbrev BL := List UInt8

theorem bl_irrefl (a : BL) : ¬ a < a := List.lt_irrefl a
theorem bl_trans {a b c : BL} (h : a < b) (k : b < c) : a < c := List.lt_trans h k
theorem bl_tri (a b : BL) : a < b ∨ a = b ∨ b < a := by
  by_cases h : a < b
  · exact .inl h
  · by_cases k : b < a
    · exact .inr (.inr k)
    · exact .inr (.inl (List.le_antisymm (List.not_lt.1 k) (List.not_lt.1 h)))

/-- Two rising lists with the same entries are one. -/
theorem rising_eq : ∀ (a b : List BL), a.Pairwise (· < ·) → b.Pairwise (· < ·) → (∀ x, x ∈ a ↔ x ∈ b) → a = b
  | [], [], _, _, _ => rfl
  | [], y :: b, _, _, h => absurd ((h y).2 (List.mem_cons_self ..)) (List.not_mem_nil)
  | x :: a, [], _, _, h => absurd ((h x).1 (List.mem_cons_self ..)) (List.not_mem_nil)
  | x :: a, y :: b, ha, hb, h => by
    rw [List.pairwise_cons] at ha hb
    have hxy : x = y := by
      rcases List.mem_cons.1 ((h x).1 (List.mem_cons_self ..)) with e | hx
      · exact e
      · rcases List.mem_cons.1 ((h y).2 (List.mem_cons_self ..)) with e | hy
        · exact e.symm
        · exact absurd (bl_trans (hb.1 x hx) (ha.1 y hy)) (bl_irrefl _)
    subst hxy
    rw [rising_eq a b ha.2 hb.2]
    intro z
    constructor
    · intro hz
      rcases List.mem_cons.1 ((h z).1 (List.mem_cons_of_mem _ hz)) with e | h1
      · subst e; exact absurd (ha.1 _ hz) (bl_irrefl _)
      · exact h1
    · intro hz
      rcases List.mem_cons.1 ((h z).2 (List.mem_cons_of_mem _ hz)) with e | h1
      · subst e; exact absurd (hb.1 _ hz) (bl_irrefl _)
      · exact h1

/-- A text put into a rising list. -/
def putB (s : BL) : List BL → List BL
  | [] => [s]
  | x :: l => if x < s then x :: putB s l else if x = s then x :: l else s :: x :: l
theorem putB_mem (s : BL) : ∀ (l : List BL) (x : BL), x ∈ putB s l ↔ x = s ∨ x ∈ l
  | [], x => by simp [putB]
  | y :: l, x => by
    unfold putB
    split
    · rw [List.mem_cons, putB_mem s l x, List.mem_cons]
      constructor
      · rintro (h | h | h)
        · exact .inr (.inl h)
        · exact .inl h
        · exact .inr (.inr h)
      · rintro (h | h | h)
        · exact .inr (.inl h)
        · exact .inl h
        · exact .inr (.inr h)
    · split
      · rename_i e
        subst e
        constructor
        · exact .inr
        · rintro (h | h)
          · subst h; exact List.mem_cons_self ..
          · exact h
      · exact List.mem_cons
theorem putB_rising (s : BL) : ∀ (l : List BL), l.Pairwise (· < ·) → (putB s l).Pairwise (· < ·)
  | [], _ => by simp [putB]
  | y :: l, h => by
    rw [List.pairwise_cons] at h
    unfold putB
    split
    · rename_i hy
      rw [List.pairwise_cons]
      refine ⟨fun z hz => ?_, putB_rising s l h.2⟩
      rcases (putB_mem s l z).1 hz with e | hz
      · subst e; exact hy
      · exact h.1 z hz
    · split
      · exact List.pairwise_cons.2 h
      · rename_i h1 h2
        have hs : s < y := by
          rcases bl_tri s y with e | e | e
          · exact e
          · exact absurd e.symm h2
          · exact absurd e h1
        refine List.pairwise_cons.2 ⟨fun z hz => ?_, List.pairwise_cons.2 h⟩
        rcases List.mem_cons.1 hz with e | hz
        · subst e; exact hs
        · exact bl_trans hs (h.1 z hz)
def putAll (l : List BL) (xs : List BL) : List BL := xs.foldl (fun l s => putB s l) l
theorem putAll_rising (xs : List BL) : ∀ l : List BL, l.Pairwise (· < ·) → (putAll l xs).Pairwise (· < ·) := by
  induction xs with
  | nil => exact fun _ h => h
  | cons x xs ih => exact fun l h => ih _ (putB_rising x l h)
theorem putAll_mem (xs : List BL) : ∀ (l : List BL) (x : BL), x ∈ putAll l xs ↔ x ∈ xs ∨ x ∈ l := by
  induction xs with
  | nil => intro l x; simp [putAll]
  | cons y xs ih =>
    intro l x
    show x ∈ putAll (putB y l) xs ↔ _
    rw [ih, putB_mem, List.mem_cons]
    constructor
    · rintro (h | h | h)
      · exact .inl (.inr h)
      · exact .inl (.inl h)
      · exact .inr h
    · rintro ((h | h) | h)
      · exact .inr (.inl h)
      · exact .inl h
      · exact .inr (.inr h)
theorem putAll_len (xs : List BL) : ∀ l : List BL, (putAll l xs).length ≤ l.length + xs.length := by
  have h1 : ∀ (s : BL) (l : List BL), (putB s l).length ≤ l.length + 1 := by
    intro s l
    induction l with
    | nil => simp [putB]
    | cons x l ih =>
      unfold putB
      split
      · simp; exact ih
      · split <;> simp
  induction xs with
  | nil => intro l; simp [putAll]
  | cons x xs ih =>
    intro l
    have := ih (putB x l)
    have := h1 x l
    show (putAll (putB x l) xs).length ≤ _
    rw [List.length_cons]
    omega
open Go.Lib in
theorem compact_up (d : Array BL) (hs : ∀ i j, i < j → j < d.size → ¬ d[j]! < d[i]!) : ∀ m, m ≤ d.size →
    (compactUpTo d m).Pairwise (· < ·) ∧ (∀ x, x ∈ compactUpTo d m ↔ ∃ j, j < m ∧ d[j]! = x) ∧ (∀ x, x ∈ compactUpTo d m → 0 < m → ¬ d[m - 1]! < x)
  | 0, _ => by simp [compactUpTo]
  | m + 1, hm => by
    obtain ⟨h1, h2, h3⟩ := compact_up d hs m (by omega)
    rw [compactUpTo_succ]
    by_cases hk : keeps d m = true
    · rw [if_pos hk]
      refine ⟨?_, fun x => ?_, fun x hx _ => ?_⟩
      · rw [List.pairwise_append]
        refine ⟨h1, by simp, fun x hx y hy => ?_⟩
        rw [List.mem_singleton] at hy
        subst hy
        obtain ⟨j, hj, -⟩ := (h2 x).1 hx
        have hne : d[m]! ≠ d[m - 1]! := by
          unfold keeps at hk
          rw [decide_eq_true_eq] at hk
          rcases hk with h | h
          · omega
          · exact h
        have hlt : d[m - 1]! < d[m]! := by
          rcases bl_tri d[m - 1]! d[m]! with e | e | e
          · exact e
          · exact absurd e.symm hne
          · exact absurd e (hs (m - 1) m (by omega) (by omega))
        rcases bl_tri x d[m - 1]! with e | e | e
        · exact bl_trans e hlt
        · rw [e]; exact hlt
        · exact absurd e (h3 x hx (by omega))
      · rw [List.mem_append, h2, List.mem_singleton]
        constructor
        · rintro (⟨j, hj, e⟩ | e)
          · exact ⟨j, by omega, e⟩
          · exact ⟨m, by omega, e.symm⟩
        · rintro ⟨j, hj, e⟩
          rcases Nat.lt_or_ge j m with h | h
          · exact .inl ⟨j, h, e⟩
          · exact .inr (by rw [← e, show j = m by omega])
      · rw [Nat.add_sub_cancel]
        rcases List.mem_append.1 hx with hx | hx
        · obtain ⟨j, hj, e⟩ := (h2 x).1 hx
          rw [← e]
          exact hs j m hj (by omega)
        · rw [List.mem_singleton.1 hx]; exact bl_irrefl _
    · rw [if_neg hk, List.append_nil]
      have hk2 : ¬ (m = 0 ∨ d[m]! ≠ d[m - 1]!) := by
        unfold keeps at hk
        rw [decide_eq_true_eq] at hk
        exact hk
      have hm0 : m ≠ 0 := fun e => hk2 (.inl e)
      have he : d[m]! = d[m - 1]! := Classical.byContradiction fun e => hk2 (.inr e)
      refine ⟨h1, fun x => ?_, fun x hx _ => ?_⟩
      · rw [h2]
        constructor
        · rintro ⟨j, hj, e⟩
          exact ⟨j, by omega, e⟩
        · rintro ⟨j, hj, e⟩
          rcases Nat.lt_or_ge j m with h | h
          · exact ⟨j, h, e⟩
          · exact ⟨m - 1, by omega, by rw [← e, show j = m by omega, he]⟩
      · rw [Nat.add_sub_cancel, he]
        exact h3 x hx (by omega)

/-- SORTED AND MADE COMPACT is put one by one. -/
theorem names_eq (xs : List BL) : Go.Lib.compact (xs.mergeSort fun x y => decide (x ≤ y)) = putAll [] xs := by
  have hsort : (xs.mergeSort fun x y => decide (x ≤ y)).Pairwise (fun x y => decide (x ≤ y) = true) := by
    apply List.pairwise_mergeSort
    · intro a b c h1 h2
      rw [decide_eq_true_eq] at *
      exact List.le_trans h1 h2
    · intro a b
      rw [Bool.or_eq_true, decide_eq_true_eq, decide_eq_true_eq]
      exact List.le_total a b
  have hperm := List.mergeSort_perm xs (fun x y => decide (x ≤ y))
  generalize xs.mergeSort (fun x y => decide (x ≤ y)) = ys at *
  obtain ⟨h1, h2, -⟩ := compact_up ys.toArray (by
    intro i j hij hj
    have hj' : j < ys.length := by simpa using hj
    have h := List.pairwise_iff_getElem.1 hsort i j (by omega) hj' hij
    rw [decide_eq_true_eq] at h
    rw [getElem!_pos ys.toArray j hj, getElem!_pos ys.toArray i (by simp; omega)]
    simpa using List.not_lt.2 h) ys.length (by simp)
  refine rising_eq _ _ h1 (putAll_rising xs [] List.Pairwise.nil) fun x => ?_
  rw [putAll_mem]
  unfold Go.Lib.compact
  rw [h2]
  constructor
  · rintro ⟨j, hj, e⟩
    left
    rw [← hperm.mem_iff, ← e, getElem!_pos ys.toArray j (by simpa using hj)]
    simp
  · rintro (h | h)
    · rw [← hperm.mem_iff] at h
      obtain ⟨j, hj, e⟩ := List.getElem_of_mem h
      exact ⟨j, hj, by rw [getElem!_pos ys.toArray j (by simpa using hj)]; simpa using e⟩
    · exact absurd h List.not_mem_nil
end Go.Proofs.YtffapdilojbagaaDoor
