/- How large what is read of patterns is. -/
import Derived.Test.YtimbfelbalfmiaaDoorRdPlain
namespace Go.Proofs.YtimbfelbalfmiaaDoor
open Go.RowKit

/-- What is read has at most as many nodes as twice its bytes, less one. -/
def Sz (s : ByteArray) (P : Nat → Rd PT) : Prop := ∀ i x j, i ≤ s.size → P i = .ok (x, j) → x.cnt + 1 ≤ 2 * (j - i)
theorem leaf_cnt (k n : Int) (t nm : ByteArray) : (mkP k t n nm []).cnt = 1 := by rw [mkP_cnt]; rfl
theorem one_cnt (k n : Int) (t nm : ByteArray) (p : PT) : (mkP k t n nm [p]).cnt = 1 + p.cnt := by rw [mkP_cnt]; show 1 + (p.cnt + 0) = _; omega
theorem csum_snoc (l : List PT) (p : PT) : csum (l ++ [p]) = csum l + p.cnt := by rw [csum_sum, csum_sum, List.map_append, List.sum_append]; simp
theorem parP_sz {d : Nat} {B : Nat → Rd PT} {s : ByteArray} (hB : Adv s B) (hZ : Sz s B) : Sz s (parP d B s) := fun i x j hi h => by
  unfold parP at h
  obtain ⟨_, a, h1, h2⟩ := bnd_some h
  have h3 := takP_adv s 40 (by decide) i _ a hi h1
  split at h2
  · cases h2
  · obtain ⟨p, b, h4, h5⟩ := bnd_some h2
    obtain ⟨_, c, h6, h7⟩ := bnd_some h5
    have h8 := hB a p b h3.2 h4
    have hz := hZ a p b h3.2 h4
    have h9 := takP_adv s 41 (by decide) b _ c h8.2 h6
    injection h7 with h7; injection h7 with h7a h7b
    subst h7a
    omega
theorem woP_sz {d : Nat} {B : Nat → Rd PT} {s : ByteArray} (hB : Adv s B) (hZ : Sz s B) {i : Nat} {x : PT} {j : Nat} (hl : letterN (bat s i) = true) (h : woP d B s i = .ok (x, j)) : x.cnt + 1 ≤ 2 * (j - i) := by
  have h0 := wdE_adv hl
  have had := woP_adv hB hl h
  unfold woP at h
  split at h
  · cases h
  · split at h
    · obtain ⟨p, m, h1, h2⟩ := bnd_some h
      have h3 := parP_adv hB _ _ _ h0.2 h1
      have h4 := parP_sz hB hZ _ _ _ h0.2 h1
      injection h2 with h2; injection h2 with h2a h2b
      subst h2a
      rw [one_cnt]
      omega
    · split at h
      · obtain ⟨_, a, h1, h2⟩ := bnd_some h
        obtain ⟨n, b, h3, h4⟩ := bnd_some h2
        obtain ⟨_, c, h5, h6⟩ := bnd_some h4
        injection h6 with h6; injection h6 with h6a h6b
        subst h6a
        rw [leaf_cnt]; omega
      · split at h
        · obtain ⟨_, a, h1, h2⟩ := bnd_some h
          obtain ⟨n, b, h3, h4⟩ := bnd_some h2
          obtain ⟨_, c, h5, h6⟩ := bnd_some h4
          injection h6 with h6; injection h6 with h6a h6b
          subst h6a
          rw [leaf_cnt]; omega
        · injection h with h; injection h with ha hb
          subst ha
          rw [leaf_cnt]; omega
theorem baP_sz {d : Nat} {B : Nat → Rd PT} {s : ByteArray} (hB : Adv s B) (hZ : Sz s B) : Sz s (baP d B s) := fun i x j hi h => by
  have h0 := sk_le s i hi
  have had := baP_adv hB i x j hi h
  unfold baP at h
  split at h
  · obtain ⟨t, e, h1, h2⟩ := bnd_some h
    injection h2 with h2; injection h2 with h2a h2b
    subst h2a
    rw [leaf_cnt]; omega
  · split at h
    · have := parP_sz hB hZ _ _ _ h0.2 h; omega
    · have key : ∀ k, (bnd (nmP s (sk s i + 1)) fun t e => (.ok (mkP k ⟨#[]⟩ 0 t [], e) : Rd PT)) = .ok (x, j) → x.cnt + 1 ≤ 2 * (j - i) := fun k h => by
        obtain ⟨t, e, h1, h2⟩ := bnd_some h
        injection h2 with h2; injection h2 with h2a h2b
        subst h2a
        rw [leaf_cnt]; omega
      split at h
      · exact key 23 h
      · split at h
        · exact key 24 h
        · split at h
          · rename_i hl
            have := woP_sz hB hZ hl h; omega
          · cases h
theorem gvF_sz (s : ByteArray) (i0 : Nat) : ∀ f p i x j, i ≤ s.size → i0 ≤ i → p.cnt + 1 ≤ 2 * (i - i0) → gvF s f p i = .ok (x, j) → x.cnt + 1 ≤ 2 * (j - i0)
  | 0, p, i, x, j, hi, _, _, h => by cases h
  | f + 1, p, i, x, j, hi, hi0, hp, h => by
    have h0 := sk_le s i hi
    rw [gvF] at h
    by_cases q : gvK (nx s i) = 0
    · rw [if_pos q] at h
      injection h with h; injection h with ha hb
      subst ha
      omega
    · rw [if_neg q] at h
      obtain ⟨t, e, h1, h2⟩ := bnd_some h
      have hn : nx s i ≠ 0 := fun z => q (by rw [z]; rfl)
      have h3 := nx_in hn
      have h4 := nmP_adv s (sk s i + 1) t e (by omega) h1
      exact gvF_sz s i0 f _ e x j (by omega) (by omega) (by rw [one_cnt]; omega) h2
theorem piP_sz {d : Nat} {B : Nat → Rd PT} {s : ByteArray} (hB : Adv s B) (hZ : Sz s B) : Sz s (piP d B s) := fun i x j hi h => by
  unfold piP at h
  obtain ⟨p, e, h1, h2⟩ := bnd_some h
  have h3 := baP_adv hB i p e hi h1
  exact gvF_sz s i _ p e x j h3.2 (by omega) (baP_sz hB hZ i p e hi h1) h2
theorem pcF_sz {d : Nat} {B : Nat → Rd PT} {s : ByteArray} (hB : Adv s B) (hZ : Sz s B) (i0 : Nat) : ∀ f l i x j, i ≤ s.size → i0 ≤ i → csum l + l.length ≤ 2 * (i - i0) → l ≠ [] → pcF d B s f l i = .ok (x, j) → csum x + x.length ≤ 2 * (j - i0) ∧ x ≠ []
  | 0, l, i, x, j, hi, _, _, _, h => by cases h
  | f + 1, l, i, x, j, hi, hi0, hp, hl, h => by
    have h0 := sk_le s i hi
    rw [pcF] at h
    by_cases q : begN (nx s i) = true
    · rw [if_pos q] at h
      obtain ⟨t, e, h1, h2⟩ := bnd_some h
      have h3 := piP_adv hB _ t e h0.2 h1
      have h4 := piP_sz hB hZ _ t e h0.2 h1
      exact pcF_sz hB hZ i0 f _ e x j (by omega) (by omega) (by rw [csum_snoc, List.length_append]; simp only [List.length_cons, List.length_nil]; omega) (by simp) h2
    · rw [if_neg q] at h
      injection h with h; injection h with ha hb
      subst ha
      exact ⟨by omega, hl⟩
theorem togP_sz {k : Int} {l : List PT} {n : Nat} (h : csum l + l.length ≤ n) (hl : l ≠ []) : (togP k l).cnt + 1 ≤ n := by
  match l, h, hl with
  | [], _, hl => exact absurd rfl hl
  | [x], h, _ =>
    have h : x.cnt + 0 + 1 ≤ n := h
    show x.cnt + 1 ≤ n
    omega
  | x :: y :: l, h, _ =>
    show (mkP k ⟨#[]⟩ 0 ⟨#[]⟩ (x :: y :: l)).cnt + 1 ≤ n
    rw [mkP_cnt]
    simp only [List.length_cons] at h
    omega
theorem pcP_sz {d : Nat} {B : Nat → Rd PT} {s : ByteArray} (hB : Adv s B) (hZ : Sz s B) : Sz s (pcP d B s) := fun i x j hi h => by
  unfold pcP at h
  obtain ⟨p, e, h1, h2⟩ := bnd_some h
  have h3 := piP_adv hB i p e hi h1
  have h3z := piP_sz hB hZ i p e hi h1
  obtain ⟨l, m, h4, h5⟩ := bnd_some h2
  have h6 := pcF_sz hB hZ i _ _ e l m h3.2 (by omega) (by show p.cnt + 0 + 1 ≤ _; omega) (by simp) h4
  injection h5 with h5; injection h5 with ha hb
  subst ha hb
  exact togP_sz h6.1 h6.2
theorem alF_sz {d : Nat} {B : Nat → Rd PT} {s : ByteArray} (hB : Adv s B) (hZ : Sz s B) (i0 : Nat) : ∀ f l i x j, i ≤ s.size → i0 ≤ i → csum l + l.length ≤ 2 * (i - i0) → l ≠ [] → alF d B s f l i = .ok (x, j) → csum x + x.length ≤ 2 * (j - i0) ∧ x ≠ []
  | 0, l, i, x, j, hi, _, _, _, h => by cases h
  | f + 1, l, i, x, j, hi, hi0, hp, hl, h => by
    have h0 := sk_le s i hi
    rw [alF] at h
    by_cases q : nx s i = 124
    · rw [if_pos q] at h
      obtain ⟨t, e, h1, h2⟩ := bnd_some h
      have hn := nx_in (s := s) (i := i) (by omega)
      have h3 := pcP_adv hB _ t e (by omega) h1
      have h4 := pcP_sz hB hZ _ t e (by omega) h1
      exact alF_sz hB hZ i0 f _ e x j (by omega) (by omega) (by rw [csum_snoc, List.length_append]; simp only [List.length_cons, List.length_nil]; omega) (by simp) h2
    · rw [if_neg q] at h
      injection h with h; injection h with ha hb
      subst ha
      exact ⟨by omega, hl⟩
theorem alP_sz {d : Nat} {B : Nat → Rd PT} {s : ByteArray} (hB : Adv s B) (hZ : Sz s B) : Sz s (alP d B s) := fun i x j hi h => by
  unfold alP at h
  obtain ⟨p, e, h1, h2⟩ := bnd_some h
  have h3 := pcP_adv hB i p e hi h1
  have h3z := pcP_sz hB hZ i p e hi h1
  obtain ⟨l, m, h4, h5⟩ := bnd_some h2
  have h6 := alF_sz hB hZ i _ _ e l m h3.2 (by omega) (by show p.cnt + 0 + 1 ≤ _; omega) (by simp) h4
  injection h5 with h5; injection h5 with ha hb
  subst ha hb
  exact togP_sz h6.1 h6.2
theorem alD_sz (s : ByteArray) : ∀ d, Sz s (alD s d)
  | 0 => fun i x j hi h => alP_sz (B := fun j => .error (0, j)) (fun i x j _ h => by cases h) (fun i x j _ h => by cases h) i x j hi (by rw [alD] at h; exact h)
  | d + 1 => fun i x j hi h => alP_sz (alD_adv s d) (alD_sz s d) i x j hi (by rw [alD] at h; exact h)
end Go.Proofs.YtimbfelbalfmiaaDoor
