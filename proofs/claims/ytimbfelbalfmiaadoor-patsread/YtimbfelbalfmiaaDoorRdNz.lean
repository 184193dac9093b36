/- What is wrong with a text is always something. -/
import Derived.Test.YtimbfelbalfmiaaDoorRdPlain
namespace Go.Proofs.YtimbfelbalfmiaaDoor
open Go.RowKit

theorem bnd_bad {α β : Type} {r : Rd α} {f : α → Nat → Rd β} {x : Int × Nat} (h : bnd r f = .error x) : r = .error x ∨ ∃ a j, r = .ok (a, j) ∧ f a j = .error x := by
  cases r with
  | ok v => exact .inr ⟨v.1, v.2, rfl, h⟩
  | error e => rw [bnd_err] at h; injection h with h; exact .inl (by rw [h])
def Nz {α : Type} (s : ByteArray) (P : Nat → Rd α) : Prop := ∀ i er a, i ≤ s.size → P i = .error (er, a) → er ≠ 0
theorem takP_nz (s : ByteArray) (c : Nat) : Nz s (takP s c) := fun i er a _ h => by
  unfold takP at h
  split at h
  · cases h
  · injection h with h; injection h with h _; omega
theorem nmP_nz (s : ByteArray) : Nz s (nmP s) := fun i er a _ h => by
  unfold nmP at h
  split at h
  · split at h
    · injection h with h; injection h with h _; omega
    · cases h
  · injection h with h; injection h with h _; omega
theorem nuP_nz (s : ByteArray) : Nz s (nuP s) := fun i er a _ h => by
  unfold nuP at h
  split at h
  · split at h
    · injection h with h; injection h with h _; omega
    · split at h
      · injection h with h; injection h with h _; omega
      · cases h
  · injection h with h; injection h with h _; omega
theorem qtP_nz (s : ByteArray) : Nz s (fun i => qtP s i) := fun i er a _ h => by
  have h' : qtP s i = .error (er, a) := h
  unfold qtP at h'
  split at h'
  · cases h'
  · injection h' with h'; injection h' with h' _; omega
theorem fiP_nz (s : ByteArray) : Nz s (fiP s) := fun i er a hi h => by
  unfold fiP at h
  split at h
  · rcases bnd_bad h with h | ⟨t, j, h1, h⟩
    · exact qtP_nz s _ _ _ (sk_le s i hi).2 h
    · split at h
      · injection h with h; injection h with h _; omega
      · cases h
  · injection h with h; injection h with h _; omega
theorem parP_nz {d : Nat} {B : Nat → Rd PT} {s : ByteArray} (hB : Adv s B) (hN : 0 < d → Nz s B) : Nz s (parP d B s) := fun i er a hi h => by
  unfold parP at h
  rcases bnd_bad h with h | ⟨u, j, h1, h⟩
  · exact takP_nz s 40 i er a hi h
  · have k1 := takP_adv s 40 (by decide) i u j hi h1
    split at h
    · injection h with h; injection h with h _; omega
    · rcases bnd_bad h with h | ⟨p, k, h2, h⟩
      · exact hN (by omega) j er a k1.2 h
      · have k2 := hB j p k k1.2 h2
        rcases bnd_bad h with h | ⟨u, m, h3, h⟩
        · exact takP_nz s 41 k er a k2.2 h
        · cases h
theorem woP_nz {d : Nat} {B : Nat → Rd PT} {s : ByteArray} (hB : Adv s B) (hN : 0 < d → Nz s B) {i : Nat} {er : Int} {a : Nat} (hl : letterN (bat s i) = true) (h : woP d B s i = .error (er, a)) : er ≠ 0 := by
  have h0 := wdE_adv hl
  unfold woP at h
  split at h
  · injection h with h; injection h with h _; omega
  · split at h
    · rcases bnd_bad h with h | ⟨u, j, h1, h⟩
      · exact parP_nz hB hN _ _ _ h0.2 h
      · cases h
    · split at h
      · rcases bnd_bad h with h | ⟨u, j, h1, h⟩
        · exact takP_nz s 40 _ _ _ h0.2 h
        · have k1 := takP_adv s 40 (by decide) _ u j h0.2 h1
          rcases bnd_bad h with h | ⟨n, k, h2, h⟩
          · exact nuP_nz s _ _ _ k1.2 h
          · have k2 := nuP_adv s j n k k1.2 h2
            rcases bnd_bad h with h | ⟨u, m, h3, h⟩
            · exact takP_nz s 41 _ _ _ k2.2 h
            · cases h
      · split at h
        · rcases bnd_bad h with h | ⟨u, j, h1, h⟩
          · exact takP_nz s 40 _ _ _ h0.2 h
          · have k1 := takP_adv s 40 (by decide) _ u j h0.2 h1
            rcases bnd_bad h with h | ⟨n, k, h2, h⟩
            · exact fiP_nz s _ _ _ k1.2 h
            · have k2 := fiP_adv s j n k k1.2 h2
              rcases bnd_bad h with h | ⟨u, m, h3, h⟩
              · exact takP_nz s 41 _ _ _ k2.2 h
              · cases h
        · cases h
theorem baP_nz {d : Nat} {B : Nat → Rd PT} {s : ByteArray} (hB : Adv s B) (hN : 0 < d → Nz s B) : Nz s (baP d B s) := fun i er a hi h => by
  have h0 := sk_le s i hi
  unfold baP at h
  split at h
  · rcases bnd_bad h with h | ⟨u, j, h1, h⟩
    · exact qtP_nz s _ _ _ h0.2 h
    · cases h
  · split at h
    · exact parP_nz hB hN _ _ _ h0.2 h
    · have key : ∀ k, nx s i ≠ 0 → (bnd (nmP s (sk s i + 1)) fun t e => (.ok (mkP k ⟨#[]⟩ 0 t [], e) : Rd PT)) = .error (er, a) → er ≠ 0 := fun k hn h => by
        have h3 := nx_in hn
        rcases bnd_bad h with h | ⟨u, j, h1, h⟩
        · exact nmP_nz s _ _ _ (by omega) h
        · cases h
      split at h
      · exact key 23 (by omega) h
      · split at h
        · exact key 24 (by omega) h
        · split at h
          · rename_i hl
            exact woP_nz hB hN hl h
          · injection h with h; injection h with h _; omega
theorem gvF_nz (s : ByteArray) : ∀ f p i er a, i ≤ s.size → s.size < i + f → gvF s f p i = .error (er, a) → er ≠ 0
  | 0, p, i, er, a, hi, hf, h => by omega
  | f + 1, p, i, er, a, hi, hf, h => by
    have h0 := sk_le s i hi
    rw [gvF] at h
    by_cases q : gvK (nx s i) = 0
    · rw [if_pos q] at h; cases h
    · rw [if_neg q] at h
      have hn : nx s i ≠ 0 := fun z => q (by rw [z]; rfl)
      have h3 := nx_in hn
      rcases bnd_bad h with h | ⟨t, e, h1, h⟩
      · exact nmP_nz s _ _ _ (by omega) h
      · have h4 := nmP_adv s (sk s i + 1) t e (by omega) h1
        exact gvF_nz s f _ e er a h4.2 (by omega) h
theorem piP_nz {d : Nat} {B : Nat → Rd PT} {s : ByteArray} (hB : Adv s B) (hN : 0 < d → Nz s B) : Nz s (piP d B s) := fun i er a hi h => by
  unfold piP at h
  rcases bnd_bad h with h | ⟨p, j, h1, h⟩
  · exact baP_nz hB hN _ _ _ hi h
  · have k1 := baP_adv hB i p j hi h1
    exact gvF_nz s _ _ _ _ _ k1.2 (by omega) h
theorem pcF_nz {d : Nat} {B : Nat → Rd PT} {s : ByteArray} (hB : Adv s B) (hN : 0 < d → Nz s B) : ∀ f l i er a, i ≤ s.size → s.size < i + f → pcF d B s f l i = .error (er, a) → er ≠ 0
  | 0, l, i, er, a, hi, hf, h => by omega
  | f + 1, l, i, er, a, hi, hf, h => by
    have h0 := sk_le s i hi
    rw [pcF] at h
    by_cases q : begN (nx s i) = true
    · rw [if_pos q] at h
      rcases bnd_bad h with h | ⟨t, e, h1, h⟩
      · exact piP_nz hB hN _ _ _ h0.2 h
      · have h3 := piP_adv hB _ t e h0.2 h1
        exact pcF_nz hB hN f _ e er a h3.2 (by omega) h
    · rw [if_neg q] at h; cases h
theorem pcP_nz {d : Nat} {B : Nat → Rd PT} {s : ByteArray} (hB : Adv s B) (hN : 0 < d → Nz s B) : Nz s (pcP d B s) := fun i er a hi h => by
  unfold pcP at h
  rcases bnd_bad h with h | ⟨p, j, h1, h⟩
  · exact piP_nz hB hN _ _ _ hi h
  · have k1 := piP_adv hB i p j hi h1
    rcases bnd_bad h with h | ⟨l, e, h2, h⟩
    · exact pcF_nz hB hN _ _ _ _ _ k1.2 (by omega) h
    · cases h
theorem alF_nz {d : Nat} {B : Nat → Rd PT} {s : ByteArray} (hB : Adv s B) (hN : 0 < d → Nz s B) : ∀ f l i er a, i ≤ s.size → s.size < i + f → alF d B s f l i = .error (er, a) → er ≠ 0
  | 0, l, i, er, a, hi, hf, h => by omega
  | f + 1, l, i, er, a, hi, hf, h => by
    have h0 := sk_le s i hi
    rw [alF] at h
    by_cases q : nx s i = 124
    · rw [if_pos q] at h
      have hn := nx_in (s := s) (i := i) (by omega)
      rcases bnd_bad h with h | ⟨t, e, h1, h⟩
      · exact pcP_nz hB hN _ _ _ (by omega) h
      · have h3 := pcP_adv hB _ t e (by omega) h1
        exact alF_nz hB hN f _ e er a h3.2 (by omega) h
    · rw [if_neg q] at h; cases h
theorem alP_nz {d : Nat} {B : Nat → Rd PT} {s : ByteArray} (hB : Adv s B) (hN : 0 < d → Nz s B) : Nz s (alP d B s) := fun i er a hi h => by
  unfold alP at h
  rcases bnd_bad h with h | ⟨p, j, h1, h⟩
  · exact pcP_nz hB hN _ _ _ hi h
  · have k1 := pcP_adv hB i p j hi h1
    rcases bnd_bad h with h | ⟨l, e, h2, h⟩
    · exact alF_nz hB hN _ _ _ _ _ k1.2 (by omega) h
    · cases h
theorem alD_nz (s : ByteArray) : ∀ d, Nz s (alD s d)
  | 0 => fun i er a hi h => alP_nz (d := 0) (B := fun j => .error (0, j)) (fun i x j _ h => by cases h) (fun h => absurd h (by decide)) i er a hi (by rw [alD] at h; exact h)
  | d + 1 => fun i er a hi h => alP_nz (alD_adv s d) (fun _ => alD_nz s d) i er a hi (by rw [alD] at h; exact h)
theorem rdA_nz {s : ByteArray} {er : Int} {a : Nat} (h : rdA s = .error (er, a)) : er ≠ 0 := by
  unfold rdA at h
  rcases bnd_bad h with h | ⟨p, j, h1, h⟩
  · exact alD_nz s _ _ _ _ (Nat.zero_le _) h
  · split at h
    · injection h with h; injection h with h _; omega
    · cases h
end Go.Proofs.YtimbfelbalfmiaaDoor
