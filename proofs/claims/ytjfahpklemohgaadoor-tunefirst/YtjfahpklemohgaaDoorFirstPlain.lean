/- Each way of a pattern begins as is said. -/
import Derived.Test.YtjfahpklemohgaaDoorLenPlain
import Derived.Test.YtjfahpklemohgaaDoorFsPlain
namespace Go.Proofs.YtjfahpklemohgaaDoor
open Go.RowKit

section
variable {s : ByteArray} {R : ByteArray → Option PT} {dg : Nat → ByteArray}
def In3 (s : ByteArray) (x : Fs) (i a : Nat) : Prop := i ≤ a ∧ a ≤ s.size ∧ Bg s x i a
theorem unt_first {t : ByteArray} {want : Bool} {i : Nat} (h : i < unt s t want i) : inB t (byt s i) = !want := by
  unfold unt at h
  cases hn : s.size - i with
  | zero => rw [hn, untl] at h; omega
  | succ n =>
    rw [hn, untl] at h
    split at h
    · omega
    · rename_i q
      cases want <;> simpa using q
theorem prs_first {i t : Nat} (h : prs s i = some t) : byt s i ≠ 41 := by
  unfold prs at h
  intro e
  cases hn : s.size - i with
  | zero => rw [hn, prd] at h; cases h
  | succ n =>
    rw [hn, prd] at h
    simp [e] at h
theorem bl_bls {i : Nat} (g : List Gft) (hp : byt s i ≠ 41) : ∀ n e, i ≤ e → Al (In3 s (fun x => decide (x ≠ 41), false) i) (bls s g n e)
  | 0, _, _ => al_hs
  | n + 1, e, h1 => by
    rw [bls]
    cases hq : prs s e with
    | none => exact al_hs
    | some t =>
      have := prs_gt hq
      exact al_no (by decide) (al_put (fun _ => ⟨by show i ≤ t; omega, this.2, fun h => absurd (show t = i from h) (by omega), fun _ => by simpa using hp⟩) (bl_bls g hp n t (by omega)))
theorem bl_cats {f : PT → Nat → List Gft → Sq} {T : PT} {i0 : Nat} : ∀ m j i g, (∀ k, k ≤ j + m → ∀ i g, i ≤ s.size → Al (In3 s (T.kid k).fst i) (f (T.kid k) i g)) → i0 ≤ i → i ≤ s.size → Bg s (fsCatTo (fun k => (T.kid k).fst) j) i0 i → Al (In3 s (fsCatTo (fun k => (T.kid k).fst) (j + m + 1)) i0) (cats f T m j i g)
  | 0, j, i, g, hf, h0, hi, hl => al_mono (fun e he => ⟨Nat.le_trans h0 he.1, he.2.1, bg_cat h0 he.1 hl he.2.2⟩) (hf j (by omega) i g hi)
  | m + 1, j, i, g, hf, h0, hi, hl => al_bd (hf j (by omega) i g hi) fun e g' he => al_no (by decide) (by
      have := bl_cats m (j + 1) e g' (fun k hk => hf k (by omega)) (Nat.le_trans h0 he.1) he.2.1 (bg_cat h0 he.1 hl he.2.2)
      rwa [show j + 1 + m + 1 = j + (m + 1) + 1 by omega] at this)
theorem bl_agn {f : PT → Nat → List Gft → Sq} {T : PT} {x : Fs} (hf : ∀ i g, i ≤ s.size → Al (In3 s x i) (f (T.kid 0) i g)) : ∀ m i0 i g, i0 ≤ i → i ≤ s.size → (i0 < i → x.1 (byt s i0) = true) → Al (In3 s (x.1, true) i0) (agn f T m i g)
  | 0, _, _, _, _, _, _ => al_end 3
  | m + 1, i0, i, g, h0, hi, hx => al_put (fun _ => ⟨h0, hi, fun _ => rfl, hx⟩) (al_no (by decide) (al_bd (hf i g hi) fun e g' he => al_no (by decide) (al_ite (fun _ => al_nil) fun hne => bl_agn hf m i0 e g' (Nat.le_trans h0 he.1) he.2.1 (fun _ => by
      by_cases q : i = i0
      · subst q; exact he.2.2.2 (by have := he.1; omega)
      · exact hx (by omega)))))
theorem byt_sub {n i : Nat} (h : 0 < n) : byt (sub s i (i + n)) 0 = byt s i := by
  unfold byt sub
  rw [ByteArray.data_extract]
  simp [List.getD_eq_getElem?_getD, h]
theorem onl_bg {T : PT} {i e : Nat} (ho : okS T.k T.t T.n T.len) (hi : i ≤ s.size) (hq : onl s T i = some e) : Bg s T.fst i e := by
  have h1 := onl_ge hi ho hq
  have hk := ho.1
  rcases (show T.k = 1 ∨ T.k = 2 ∨ T.k = 3 ∨ T.k = 4 ∨ T.k = 5 ∨ T.k = 6 ∨ T.k = 10 ∨ T.k = 11 ∨ (T.k = 7 ∨ T.k = 8 ∨ T.k = 9 ∨ T.k = 12 ∨ T.k = 13 ∨ T.k = 24) ∨ (T.k = 14 ∨ T.k = 15 ∨ T.k = 16 ∨ T.k = 17 ∨ T.k = 18 ∨ T.k = 19 ∨ T.k = 20 ∨ T.k = 21 ∨ T.k = 22 ∨ T.k = 23) by omega) with q | q | q | q | q | q | q | q | q | q
  · rw [fst_1 q]
    rw [show onl s T i = if (sub s i (i + T.t.size)) = T.t then some (i + T.t.size) else none by unfold onl; simp [q]] at hq
    split at hq
    · rename_i hs
      obtain rfl := Option.some.inj hq
      refine ⟨fun h => decide_eq_true (by omega), fun h => ?_⟩
      show (decide (T.t.size ≠ 0) && decide (byt s i = byt T.t 0)) = true
      have : byt s i = byt T.t 0 := by
        rw [← byt_sub (s := s) (i := i) (n := T.t.size) (by omega), hs]
      rw [decide_eq_true this, decide_eq_true (show T.t.size ≠ 0 by omega)]
      rfl
    · cases hq
  · have hn := ho.2.2.1 (.inl q)
    rw [fst_2 q]
    rw [show onl s T i = if i + T.n.toNat ≤ s.size then some (i + T.n.toNat) else none by unfold onl; simp [q]] at hq
    split at hq
    · obtain rfl := Option.some.inj hq
      split
      · exact ⟨fun _ => rfl, fun h => by omega⟩
      · exact ⟨fun h => by omega, fun _ => rfl⟩
    · cases hq
  · rw [fst_3 (.inl q)]
    rw [show onl s T i = if i < s.size ∧ inB T.t (byt s i) = true then some (i + 1) else none by unfold onl; simp [q]] at hq
    split at hq
    · rename_i hs
      obtain rfl := Option.some.inj hq
      exact ⟨fun h => by omega, fun _ => hs.2⟩
    · cases hq
  · rw [fst_4 q]
    rw [show onl s T i = if i < s.size ∧ inB T.t (byt s i) = false then some (i + 1) else none by unfold onl; simp [q]] at hq
    split at hq
    · rename_i hs
      obtain rfl := Option.some.inj hq
      exact ⟨fun h => by omega, fun _ => by show (!inB T.t (byt s i)) = true; rw [hs.2]; rfl⟩
    · cases hq
  · rw [fst_3 (.inr q)]
    rw [show onl s T i = if i < unt s T.t false i then some (unt s T.t false i) else none by unfold onl; simp [q]] at hq
    split at hq
    · rename_i hs
      obtain rfl := Option.some.inj hq
      exact ⟨fun h => by omega, fun _ => unt_first hs⟩
    · cases hq
  · rw [fst_6 q]
    rw [show onl s T i = if unt s T.t true i < s.size then some (unt s T.t true i) else none by unfold onl; simp [q]] at hq
    split at hq
    · obtain rfl := Option.some.inj hq
      exact ⟨fun _ => rfl, fun h => by show (!inB T.t (byt s i)) = true; rw [unt_first h]; rfl⟩
    · cases hq
  · rw [fst_10 (.inl q)]
    rw [show onl s T i = if i = T.n.toNat then some i else none by unfold onl; simp [q]] at hq
    split at hq
    · obtain rfl := Option.some.inj hq
      exact ⟨fun _ => rfl, fun h => by omega⟩
    · cases hq
  · rw [fst_10 (.inr (.inl q))]
    rw [show onl s T i = if i + T.n.toNat = s.size then some i else none by unfold onl; simp [q]] at hq
    split at hq
    · obtain rfl := Option.some.inj hq
      exact ⟨fun _ => rfl, fun h => by omega⟩
    · cases hq
  · rw [fst_rest q]
    exact bg_any
  · rw [show onl s T i = none by unfold onl; rcases q with q | q | q | q | q | q | q | q | q | q <;> simp [q]] at hq
    cases hq
theorem D_fst (hR : ∀ nm U, R nm = some U → FineS U) : ∀ n T i g, FineS T → i ≤ s.size → Al (In3 s T.fst i) (D s R dg n T i g)
  | 0, _, _, _, _, _ => al_end 3
  | n + 1, T, i, g, hT, hi => by
    have ih := D_fst hR n
    have ho := hT.ok
    have hkid : ∀ k, k < T.len → ∀ i g, i ≤ s.size → Al (In3 s (T.kid k).fst i) (D s R dg n (T.kid k) i g) := fun k hk i g h => ih _ i g (hT.kid hk) h
    rw [D]
    refine al_no (by decide) (al_ite (fun _ => al_end 1) fun _ => al_ite (fun q => ?_) fun _ => al_ite (fun q => ?_) fun _ => al_ite (fun q => ?_) fun _ => al_ite (fun q => ?_) fun _ => al_ite (fun q => ?_) fun _ => al_ite (fun q => ?_) fun _ => al_ite (fun q => ?_) fun _ => al_ite (fun q => ?_) fun _ => al_ite (fun q => ?_) fun _ => al_ite (fun q => ?_) fun _ => al_ite (fun q => ?_) fun _ => ?_)
    · rw [fst_10 (by omega)]
      intro x hx
      rcases List.mem_cons.1 hx with rfl | hx
      · exact fun _ => ⟨Nat.le_refl _, hi, fun _ => rfl, fun h => absurd h (Nat.lt_irrefl _)⟩
      · rw [List.mem_singleton.1 hx]; exact fun h => absurd h (by decide)
    · have hl := ho.2.2.2.2 (.inl q)
      rw [fst_20 q hl]
      exact bl_agn (hkid 0 (by omega)) n i i g (Nat.le_refl _) hi (fun h => absurd h (Nat.lt_irrefl _))
    · rw [fst_19 q]
      exact al_alts g T.len 0 fun k hk => al_mono (fun e he => ⟨he.1, he.2.1, bg_altTo (f := fun i => (T.kid i).fst) he.2.2 T.len (by omega)⟩) (hkid k (by omega) i g hi)
    · rw [fst_rest (by omega)]
      exact al_mono (fun e he => ⟨he.1, he.2.1, bg_any⟩) (al_arbs g _ _ (Nat.le_refl _) (by omega))
    · rw [fst_rest (by omega)]
      exact al_mono (fun e he => ⟨he.1, he.2.1, bg_any⟩) (al_bxs _ g _ _ (Nat.le_refl _))
    · rw [fst_14 q]
      cases hp : prs s i with
      | none =>
        have : bls s g (s.size + 1 - i) i = one hs := by
          rw [show s.size + 1 - i = (s.size - i) + 1 by omega, bls, hp]
        rw [this]
        exact al_hs
      | some t => exact bl_bls g (prs_first hp) _ _ (Nat.le_refl _)
    · have hl := ho.2.2.2.1 (.inl q)
      rw [fst_18 q]
      have := bl_cats (s := s) (T := T) (T.len - 1) 0 i g (fun k hk => hkid k (by omega)) (Nat.le_refl i) hi ⟨fun _ => rfl, fun h => absurd h (Nat.lt_irrefl _)⟩
      rwa [show 0 + (T.len - 1) + 1 = T.len by omega] at this
    · have hl := ho.2.2.2.2 (.inr (.inl q))
      rw [fst_21 (.inl q) hl]
      exact al_bd (hkid 0 (by omega) i g hi) fun e g' he => al_no (by decide) (al_way _ he)
    · have hl := ho.2.2.2.2 (.inr (.inr q))
      rw [fst_21 (.inr q) hl]
      exact al_bd (hkid 0 (by omega) i g hi) fun e g' he => al_no (by show (2 : Nat) ≠ 3; decide) (al_way _ he)
    · rw [fst_rest (by omega)]
      split
      · rename_i U hU
        exact al_mono (fun e he => ⟨he.1, he.2.1, bg_any⟩) (ih U i g (hR _ U hU) hi)
      · exact al_end 2
    · rw [fst_10 (by omega)]
      exact al_no (by show (2 : Nat) ≠ 3; decide) (al_way _ ⟨Nat.le_refl _, hi, fun _ => rfl, fun h => absurd h (Nat.lt_irrefl _)⟩)
    · cases hq : onl s T i with
      | none => exact al_nil
      | some e => exact al_way g ⟨onl_ge hi ho hq, onl_le hi ho hq, onl_bg ho hi hq⟩
end
end Go.Proofs.YtjfahpklemohgaaDoor
