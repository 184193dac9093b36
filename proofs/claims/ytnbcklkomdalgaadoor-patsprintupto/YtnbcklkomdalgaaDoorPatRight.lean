/- What a right node has: plain facts. -/
import Derived.Test.YtnbcklkomdalgaaDoorPatBelow
import Derived.Maps.AppendAt
namespace Go.Proofs.YtnbcklkomdalgaaDoor
open Go.RowKit

theorem info_str : (Tryd.prog.info? 9).map (fun i => (i.zero, i.size, i.bytes)) = some (some (.string ⟨#[]⟩), 1, 16) := by kernel_rfl
theorem info_parts {P : Program} {t : TypeId} {z : Value} {s b : Nat} (h : (P.info? t).map (fun i => (i.zero, i.size, i.bytes)) = some (some z, s, b)) : ∃ i, P.info? t = some i ∧ i.zero = some z ∧ i.size = s ∧ i.bytes = b := by
  cases hq : P.info? t with
  | none => simp [hq] at h
  | some i =>
    simp only [hq, Option.map_some, Option.some.injEq, Prod.mk.injEq] at h
    exact ⟨i, rfl, h.1, h.2.1, h.2.2⟩
/-- A list of texts in memory of the call's own. -/
def Own (w : World) (B : Nat) (v : Value) (xs : List ByteArray) : Prop := w.ownsRow B 9 1 v xs.length (xs.map Value.string)
def Apart (v u : Value) : Prop := v.ownBlock = none ∨ u.ownBlock = none ∨ v.ownBlock ≠ u.ownBlock
theorem Apart.symm {v u : Value} (h : Apart v u) : Apart u v := by
  rcases h with h | h | h
  · exact .inr (.inl h)
  · exact .inl h
  · exact .inr (.inr fun e => h e.symm)
theorem Own.later {w w' : World} {B : Nat} {v : Value} {xs : List ByteArray} (h : Own w B v xs) (hb : Below w.heap.size w w') : Own w' B v xs := own_below h hb
theorem Own.other {w w' : World} {B : Nat} {v u : Value} {xs : List ByteArray} (h : Own w B u xs) (hg : w.grownBy w' v.ownBlock) (ha : Apart v u) : Own w' B u xs := by
  refine World.ownsRow.kept h hg ?_
  rcases ha with e | e | e
  · rw [e]
    cases u.ownBlock with
    | none => exact .inl rfl
    | some k => exact .inr (by simp)
  · exact .inl e
  · exact .inr fun x => e x.symm
theorem Apart.next {w : World} {B : Nat} {v v' u : Value} {xs : List ByteArray} (ha : Apart v u) (hu : Own w B u xs) (hat : v'.ownBlock = v.ownBlock ∨ v'.ownBlock = some w.heap.size) : Apart v' u := by
  rcases hat with e | e
  · unfold Apart; rw [e]; exact ha
  · right
    cases hq : u.ownBlock with
    | none => exact .inl rfl
    | some k =>
      right
      rw [e]
      have := (World.ownsRow.lt hu k hq).2
      simp; omega

theorem giv_len : ∀ T : PT, T.giv.length ≤ T.cnt ∧ T.cal.length ≤ T.cnt := PT.ind fun T ih => by
  have h1 : ∀ m, m ≤ T.len → (flatTo (fun i => (T.kid i).giv) m).length ≤ sumTo (fun i => (T.kid i).cnt) m ∧ (flatTo (fun i => (T.kid i).cal) m).length ≤ sumTo (fun i => (T.kid i).cnt) m := by
    intro m
    induction m with
    | zero => intro _; exact ⟨Nat.le_refl _, Nat.le_refl _⟩
    | succ m hm => intro h; have := ih m (by omega); have := hm (by omega); simp only [flatTo, sumTo, List.length_append]; omega
  have := h1 T.len (Nat.le_refl _)
  have g1 : (givN T).length ≤ 1 := by unfold givN; split <;> simp
  have g2 : (calN T).length ≤ 1 := by unfold calN; split <;> simp
  rw [T.giv_eq, T.cal_eq, T.cnt_eq, List.length_append, List.length_append]
  omega
theorem firstTo_zero {f : Nat → Int} : ∀ {n : Nat}, firstTo f n = 0 → ∀ i, i < n → f i = 0
  | 0, _, i, hi => absurd hi (Nat.not_lt_zero i)
  | n + 1, h, i, hi => by
    unfold firstTo at h
    split at h
    · rename_i h0
      rcases Nat.lt_or_ge i n with h1 | h1
      · exact firstTo_zero h0 i h1
      · rw [show i = n by omega]; exact h
    · rename_i h0
      exact absurd h h0
theorem bad_zero {T : PT} (h : T.bad = 0) : errN T = 0 ∧ ∀ i, i < T.len → (T.kid i).bad = 0 := by
  rw [T.bad_eq] at h
  split at h
  · rename_i h0
    exact ⟨h0, firstTo_zero h⟩
  · rename_i h0
    exact absurd h h0
theorem named_zero {T : PT} (h : errN T = 0) (hk : 21 ≤ T.k ∧ T.k ≤ 24) : T.nm.size ≤ 16 := by
  have hn : named T.nm = true := by
    cases hq : named T.nm with
    | true => rfl
    | false =>
      have : errN T = 7 := by
        have e : hasK T.k = 3 := by unfold hasK; rw [if_neg (by omega), if_neg (by omega), if_pos hk]
        unfold errN; rw [if_neg (by omega), if_neg (by omega), if_neg (by omega), if_neg (by omega), if_pos ⟨e, hq⟩]
      omega
  unfold named at hn
  simp at hn
  exact hn.1
/-- What a right node has. -/
theorem right_node {T : PT} (h : errN T = 0) : 1 ≤ T.k ∧ T.k ≤ 24 ∧ (hasK T.k = 1 → T.t.size ≤ 65536) ∧ (hasK T.k = 2 → 0 ≤ T.n ∧ T.n ≤ 65536) ∧ (hasK T.k = 3 → named T.nm = true) ∧ leastK T.k ≤ T.len ∧ (T.len : Int) ≤ mostK T.k := by
  unfold errN at h
  split at h
  · omega
  · split at h
    · omega
    · split at h
      · omega
      · split at h
        · omega
        · split at h
          · omega
          · split at h
            · omega
            · rename_i h1 h2 h3 h4 h5 h6
              refine ⟨by omega, by omega, fun x => by omega, fun x => by omega, fun x => ?_, by omega, by omega⟩
              cases hn : named T.nm with
              | true => rfl
              | false => exact absurd ⟨x, hn⟩ h5
end Go.Proofs.YtnbcklkomdalgaaDoor
