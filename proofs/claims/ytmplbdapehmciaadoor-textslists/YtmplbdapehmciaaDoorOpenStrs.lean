/- A slice of texts that came in, opened: its texts, their cells, and how long each may be. -/
import Derived.Test.YtmplbdapehmciaaDoorSplit
import Derived.ProofKit
import Derived.OpenShut
import Derived.SizedLaws
namespace Go.Proofs.YtmplbdapehmciaaDoor
open Go.ChangeShapes Go.WideShapes Go.ChangeAt Go.RowKit

theorem add_none (b off j : Nat) : (⟨b, off, none⟩ : Addr).add j = ⟨b, off + j, none⟩ := by
  unfold Addr.add
  split
  · rename_i h; subst h; rfl
  · rfl

theorem open_strs_arg {H : Type} {enc : TypeId × Value → H} {W : World} {base : Nat} {v : Value} {d : DataW H} {p : List MemPlace}
    (hval : Value.okWide Tryd.prog W .any base 22 v) (h : DataW.Trod enc Tryd.prog W 0 (fun _ => true) true 22 v d p) :
    ∃ xs : List ByteArray, StrsAt W v xs ∧ ((d = .nil ∧ xs = []) ∨ ∃ sp, d = .slice (strs xs) sp) := by
  obtain ⟨a, len, cap, rfl⟩ := okWide_slice Tryd.underlying22 hval
  obtain ⟨fuel, hf⟩ := h
  rcases open_strings Tryd.underlying22 Tryd.underlying9 (by kernel_rfl) hf with ⟨hcs, hx⟩ | ⟨x, l, c, ss, hcs, _, hl, hm, hz, hx, hcell, hws⟩
  · simp [Value.cells] at hcs
    obtain ⟨rfl, rfl, rfl⟩ := hcs
    simp only [Prod.mk.injEq] at hx
    exact ⟨[], ⟨none, 0, rfl, Nat.le_refl _, .inl rfl⟩, .inl ⟨hx.1, rfl⟩⟩
  · simp [Value.cells] at hcs
    obtain ⟨rfl, rfl, rfl⟩ := hcs
    simp only [Prod.mk.injEq] at hx
    have hz' : ss.length = cap := by simpa using hz
    have htl : (ss.take len).length = len := by simp; omega
    refine ⟨ss.take len, ?_, .inr ⟨_, hx.1⟩⟩
    by_cases h0 : len = 0
    · subst h0
      exact ⟨some x, cap, by simp, by simp, .inl (by simp)⟩
    · obtain ⟨b, off, spot⟩ := x
      have hc := hcell 0 (by omega)
      have hspot : spot = none := by simpa [Addr.add] using World.cell?_spot hc
      subst hspot
      refine ⟨some ⟨b, off, none⟩, cap, by rw [htl], by omega, .inr ⟨b, off, rfl, fun j hj => ?_⟩⟩
      have hj' : j < len := by omega
      have := hcell j (by omega)
      rw [add_none] at this
      rw [this]
      simp [hj']

theorem strs_weight {H : Type} {xs : List ByteArray} {sp : List (DataW H)} {ts : List TypeId} {ds : List (DataW H)} {j : Nat}
    (h : (DataW.weightsEach Tryd.prog ts ds).all (· ≤ reachBytes) = true) (ht : ts[j]? = some 22) (hd : ds[j]? = some (.slice (strs xs) sp)) :
    xs.length * 16 ≤ reachBytes ∧ ∀ k, k < xs.length → (xs.getD k ByteArray.empty).size ≤ reachBytes := by
  have hb : Tryd.prog.bytesOf 9 = 16 := by kernel_rfl
  refine ⟨?_, fun k hk => ?_⟩
  · have := sized_slice h ht hd Tryd.underlying22
    rw [hb] at this
    have hl : (strs (H := H) xs).length = xs.length := by simp [strs]
    omega
  · have hall : ∀ (l : List ByteArray) k, k < l.length → (l.getD k ByteArray.empty).size ∈ DataW.weightsAll (H := H) Tryd.prog 9 (strs l) := by
      intro l
      induction l with
      | nil => intro k hk; simp at hk
      | cons x r ih =>
        intro k hk
        cases k with
        | zero =>
          simp only [strs, List.map_cons, DataW.weightsAll, List.mem_append]
          left
          simp [DataW.weights]
        | succ k =>
          have := ih k (by simpa using hk)
          simp only [strs, List.map_cons, DataW.weightsAll, List.mem_append]
          right
          simpa [strs] using this
    have hmem : (xs.getD k ByteArray.empty).size ∈ (DataW.slice (strs (H := H) xs) sp).weights Tryd.prog 22 := by
      simp only [DataW.weights, Tryd.underlying22, List.mem_cons, List.mem_append]
      exact .inr (.inl (hall xs k hk))
    have := List.all_eq_true.1 h _ (DataW.weights_mem_each ht hd _ hmem)
    simpa using this
end Go.Proofs.YtmplbdapehmciaaDoor
