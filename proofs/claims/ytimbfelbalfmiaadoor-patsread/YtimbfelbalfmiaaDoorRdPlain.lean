/- Patterns that are read, plain. -/
import Derived.Test.YtimbfelbalfmiaaDoorCanPlain
import Derived.Test.YtimbfelbalfmiaaDoorPasPlain
namespace Go.Proofs.YtimbfelbalfmiaaDoor
open Go.RowKit

/-- What is read, and up to where; or what is wrong, and where. -/
abbrev Rd (α : Type) := Except (Int × Nat) (α × Nat)
def bnd {α β : Type} (r : Rd α) (f : α → Nat → Rd β) : Rd β :=
  match r with
  | .ok (a, j) => f a j
  | .error e => .error e
theorem bnd_ok {α β : Type} (a : α) (j : Nat) (f : α → Nat → Rd β) : bnd (.ok (a, j)) f = f a j := rfl
theorem bnd_err {α β : Type} (e : Int × Nat) (f : α → Nat → Rd β) : bnd (.error e) f = .error e := rfl
theorem bnd_some {α β : Type} {r : Rd α} {f : α → Nat → Rd β} {x : β × Nat} (h : bnd r f = .ok x) : ∃ a j, r = .ok (a, j) ∧ f a j = .ok x := by
  cases r with
  | ok v => exact ⟨v.1, v.2, rfl, h⟩
  | error e => cases h
def sk (s : ByteArray) (i : Nat) : Nat := pas s blankN i
def nx (s : ByteArray) (i : Nat) : Nat := bat s (sk s i)
theorem sk_le (s : ByteArray) (i : Nat) (h : i ≤ s.size) : i ≤ sk s i ∧ sk s i ≤ s.size := pas_le s blankN i h
theorem nx_ne (s : ByteArray) (i : Nat) : nx s i ≠ 32 := by
  unfold nx sk
  by_cases h : pas s blankN i < s.size
  · have := pas_next h
    unfold blankN at this
    exact of_decide_eq_false this
  · rw [bat_end s _ (by omega)]; decide
theorem sk_same {s : ByteArray} {i : Nat} (h : bat s i ≠ 32) : sk s i = i := pas_stop fun _ => decide_eq_false h
theorem sk_sk (s : ByteArray) (i : Nat) : sk s (sk s i) = sk s i := sk_same (nx_ne s i)
theorem nx_sk (s : ByteArray) (i : Nat) : nx s (sk s i) = nx s i := by unfold nx; rw [sk_sk]
theorem nx_in {s : ByteArray} {i : Nat} (h : nx s i ≠ 0) : sk s i < s.size := bat_in h

def takP (s : ByteArray) (c i : Nat) : Rd Unit := if nx s i = c then .ok ((), sk s i + 1) else .error (2, sk s i)
def wdE (s : ByteArray) (j : Nat) : Nat := pas s wordN j
def nmP (s : ByteArray) (i : Nat) : Rd ByteArray :=
  if letterN (nx s i) = true then (if 16 < wdE s (sk s i) - sk s i then .error (7, sk s i) else .ok (s.extract (sk s i) (wdE s (sk s i)), wdE s (sk s i))) else .error (2, sk s i)
/-- What so many digits come to, no further than it takes to be too large. -/
def capUp (s : ByteArray) (j : Nat) : Nat → Nat
  | 0 => 0
  | k + 1 => min (10 * capUp s j k + (bat s (j + k) - 48)) 65537
def dgE (s : ByteArray) (j : Nat) : Nat := pas s digitN j
def nuP (s : ByteArray) (i : Nat) : Rd Nat :=
  if digitN (nx s i) = true then
    (if bat s (sk s i) = 48 ∧ sk s i + 1 < dgE s (sk s i) then .error (2, sk s i + 1)
     else if 65536 < capUp s (sk s i) (dgE s (sk s i) - sk s i) then .error (3, sk s i)
     else .ok (capUp s (sk s i) (dgE s (sk s i) - sk s i), dgE s (sk s i)))
  else .error (2, sk s i)
def qtP (s : ByteArray) (j : Nat) : Rd ByteArray := if cq s (j + 1) < s.size then .ok (⟨(ct s (j + 1)).toArray⟩, cq s (j + 1) + 1) else .error (2, s.size)
def fiP (s : ByteArray) (i : Nat) : Rd ByteArray :=
  if nx s i = 39 then bnd (qtP s (sk s i)) fun t e => if t.size = 0 then .error (8, sk s i) else .ok (t, e) else .error (2, sk s i)
def kwUp (t : ByteArray) : Nat → Nat
  | 0 => 0
  | n + 1 => if kwUp t n ≠ 0 then kwUp t n else if wordK (n + 1) = t then n + 1 else 0
def kindW (t : ByteArray) : Nat := kwUp t 24
def parP (d : Nat) (B : Nat → Rd PT) (s : ByteArray) (i : Nat) : Rd PT :=
  bnd (takP s 40 i) fun _ j => if d = 0 then .error (4, j) else bnd (B j) fun p k => bnd (takP s 41 k) fun _ m => .ok (p, m)
def woP (d : Nat) (B : Nat → Rd PT) (s : ByteArray) (j : Nat) : Rd PT :=
  if kindW (s.extract j (wdE s j)) = 0 then .error (7, j)
  else if kindW (s.extract j (wdE s j)) = 20 then bnd (parP d B s (wdE s j)) fun p m => .ok (mkP 20 ⟨#[]⟩ 0 ⟨#[]⟩ [p], m)
  else if hasK (kindW (s.extract j (wdE s j))) = 2 then bnd (takP s 40 (wdE s j)) fun _ a => bnd (nuP s a) fun n b => bnd (takP s 41 b) fun _ c => .ok (mkP (kindW (s.extract j (wdE s j))) ⟨#[]⟩ n ⟨#[]⟩ [], c)
  else if hasK (kindW (s.extract j (wdE s j))) = 1 then bnd (takP s 40 (wdE s j)) fun _ a => bnd (fiP s a) fun t b => bnd (takP s 41 b) fun _ c => .ok (mkP (kindW (s.extract j (wdE s j))) t 0 ⟨#[]⟩ [], c)
  else .ok (mkP (kindW (s.extract j (wdE s j))) ⟨#[]⟩ 0 ⟨#[]⟩ [], wdE s j)
def baP (d : Nat) (B : Nat → Rd PT) (s : ByteArray) (i : Nat) : Rd PT :=
  if nx s i = 39 then bnd (qtP s (sk s i)) fun t e => .ok (mkP 1 t 0 ⟨#[]⟩ [], e)
  else if nx s i = 40 then parP d B s (sk s i)
  else if nx s i = 64 then bnd (nmP s (sk s i + 1)) fun t e => .ok (mkP 23 ⟨#[]⟩ 0 t [], e)
  else if nx s i = 42 then bnd (nmP s (sk s i + 1)) fun t e => .ok (mkP 24 ⟨#[]⟩ 0 t [], e)
  else if letterN (nx s i) = true then woP d B s (sk s i)
  else .error (2, sk s i)
def gvK (b : Nat) : Nat := if b = 46 then 21 else if b = 36 then 22 else 0
def gvF (s : ByteArray) : Nat → PT → Nat → Rd PT
  | 0, _, i => .error (0, i)
  | f + 1, p, i => if gvK (nx s i) = 0 then .ok (p, sk s i) else bnd (nmP s (sk s i + 1)) fun t e => gvF s f (mkP (gvK (nx s i)) ⟨#[]⟩ 0 t [p]) e
def piP (d : Nat) (B : Nat → Rd PT) (s : ByteArray) (i : Nat) : Rd PT := bnd (baP d B s i) fun p j => gvF s (s.size + 1) p j
def begN (b : Nat) : Bool := letterN b || decide (b = 39) || decide (b = 40) || decide (b = 64) || decide (b = 42)
def pcF (d : Nat) (B : Nat → Rd PT) (s : ByteArray) : Nat → List PT → Nat → Rd (List PT)
  | 0, _, i => .error (0, i)
  | f + 1, l, i => if begN (nx s i) = true then bnd (piP d B s (sk s i)) fun p j => pcF d B s f (l ++ [p]) j else .ok (l, sk s i)
def togP (k : Int) (l : List PT) : PT :=
  match l with
  | [x] => x
  | l => mkP k ⟨#[]⟩ 0 ⟨#[]⟩ l
def pcP (d : Nat) (B : Nat → Rd PT) (s : ByteArray) (i : Nat) : Rd PT := bnd (piP d B s i) fun p j => bnd (pcF d B s (s.size + 1) [p] j) fun l e => .ok (togP 18 l, e)
def alF (d : Nat) (B : Nat → Rd PT) (s : ByteArray) : Nat → List PT → Nat → Rd (List PT)
  | 0, _, i => .error (0, i)
  | f + 1, l, i => if nx s i = 124 then bnd (pcP d B s (sk s i + 1)) fun p j => alF d B s f (l ++ [p]) j else .ok (l, sk s i)
def alP (d : Nat) (B : Nat → Rd PT) (s : ByteArray) (i : Nat) : Rd PT := bnd (pcP d B s i) fun p j => bnd (alF d B s (s.size + 1) [p] j) fun l e => .ok (togP 19 l, e)
def alD (s : ByteArray) : Nat → Nat → Rd PT
  | 0, i => alP 0 (fun j => .error (0, j)) s i
  | d + 1, i => alP (d + 1) (alD s d) s i
def rdA (s : ByteArray) : Rd PT := bnd (alD s 200 0) fun p j => if j < s.size then .error (2, j) else .ok (p, j)
def rdP (s : ByteArray) : Rd PT := if 65536 < s.size then .error (4, 0) else bnd (rdA s) fun p j => if p.fits = true then .ok (p, j) else .error (4, 0)

/-- What is read lies ahead. -/
def Adv {α : Type} (s : ByteArray) (P : Nat → Rd α) : Prop := ∀ i x j, i ≤ s.size → P i = .ok (x, j) → i < j ∧ j ≤ s.size
theorem takP_adv (s : ByteArray) (c : Nat) (hc : c ≠ 0) : Adv s (takP s c) := fun i x j hi h => by
  unfold takP at h
  by_cases q : nx s i = c
  · rw [if_pos q] at h
    have h1 := nx_in (s := s) (i := i) (by omega)
    have h2 := sk_le s i hi
    injection h with h; injection h with _ h
    omega
  · rw [if_neg q] at h; cases h
theorem wdE_adv {s : ByteArray} {j : Nat} (h : letterN (bat s j) = true) : j < wdE s j ∧ wdE s j ≤ s.size := by
  have hj : j < s.size := by
    by_cases q : j < s.size
    · exact q
    · rw [bat_end s j (by omega)] at h; exact absurd h (by decide)
  unfold wdE
  rw [pas_step hj (by unfold wordN; rw [h]; rfl)]
  have := pas_le s wordN (j + 1) (by omega)
  omega
theorem dgE_adv {s : ByteArray} {j : Nat} (h : digitN (bat s j) = true) : j < dgE s j ∧ dgE s j ≤ s.size := by
  have hj : j < s.size := by
    by_cases q : j < s.size
    · exact q
    · rw [bat_end s j (by omega)] at h; exact absurd h (by decide)
  unfold dgE
  rw [pas_step hj h]
  have := pas_le s digitN (j + 1) (by omega)
  omega
theorem nmP_adv (s : ByteArray) : Adv s (nmP s) := fun i x j hi h => by
  unfold nmP at h
  by_cases q : letterN (nx s i) = true
  · rw [if_pos q] at h
    have h1 := wdE_adv (s := s) (j := sk s i) q
    have h2 := sk_le s i hi
    by_cases r : 16 < wdE s (sk s i) - sk s i
    · rw [if_pos r] at h; cases h
    · rw [if_neg r] at h
      injection h with h; injection h with _ h
      omega
  · rw [if_neg q] at h; cases h
theorem nuP_adv (s : ByteArray) : Adv s (nuP s) := fun i x j hi h => by
  unfold nuP at h
  by_cases q : digitN (nx s i) = true
  · rw [if_pos q] at h
    have h1 := dgE_adv (s := s) (j := sk s i) q
    have h2 := sk_le s i hi
    split at h
    · cases h
    · split at h
      · cases h
      · injection h with h; injection h with _ h
        omega
  · rw [if_neg q] at h; cases h
theorem qtP_adv (s : ByteArray) : Adv s (fun i => qtP s i) := fun i x j hi h => by
  have h' : qtP s i = .ok (x, j) := h
  unfold qtP at h'
  by_cases q : cq s (i + 1) < s.size
  · rw [if_pos q] at h'
    injection h' with h'; injection h' with _ h'
    rcases Nat.lt_or_ge i s.size with a | a
    · have := cq_le s (i + 1) (by omega)
      omega
    · rw [cq_end (by omega)] at q; omega
  · rw [if_neg q] at h'; cases h'
theorem fiP_adv (s : ByteArray) : Adv s (fiP s) := fun i x j hi h => by
  unfold fiP at h
  by_cases q : nx s i = 39
  · rw [if_pos q] at h
    obtain ⟨t, e, h1, h2⟩ := bnd_some h
    have h3 := sk_le s i hi
    have h4 := qtP_adv s (sk s i) t e h3.2 h1
    split at h2
    · cases h2
    · injection h2 with h2; injection h2 with _ h2
      omega
  · rw [if_neg q] at h; cases h
theorem parP_adv {d : Nat} {B : Nat → Rd PT} {s : ByteArray} (hB : Adv s B) : Adv s (parP d B s) := fun i x j hi h => by
  unfold parP at h
  obtain ⟨_, a, h1, h2⟩ := bnd_some h
  have h3 := takP_adv s 40 (by decide) i _ a hi h1
  split at h2
  · cases h2
  · obtain ⟨p, b, h4, h5⟩ := bnd_some h2
    obtain ⟨_, c, h6, h7⟩ := bnd_some h5
    have h8 := hB a p b h3.2 h4
    have h9 := takP_adv s 41 (by decide) b _ c h8.2 h6
    injection h7 with h7; injection h7 with _ h7
    omega
theorem woP_adv {d : Nat} {B : Nat → Rd PT} {s : ByteArray} (hB : Adv s B) {i : Nat} {x : PT} {j : Nat} (hl : letterN (bat s i) = true) (h : woP d B s i = .ok (x, j)) : i < j ∧ j ≤ s.size := by
  have h0 := wdE_adv hl
  unfold woP at h
  split at h
  · cases h
  · split at h
    · obtain ⟨p, m, h1, h2⟩ := bnd_some h
      have h3 := parP_adv hB _ _ _ h0.2 h1
      injection h2 with h2; injection h2 with _ h2
      omega
    · split at h
      · obtain ⟨_, a, h1, h2⟩ := bnd_some h
        obtain ⟨n, b, h3, h4⟩ := bnd_some h2
        obtain ⟨_, c, h5, h6⟩ := bnd_some h4
        have k1 := takP_adv s 40 (by decide) _ _ a h0.2 h1
        have k2 := nuP_adv s a n b k1.2 h3
        have k3 := takP_adv s 41 (by decide) b _ c k2.2 h5
        injection h6 with h6; injection h6 with _ h6
        omega
      · split at h
        · obtain ⟨_, a, h1, h2⟩ := bnd_some h
          obtain ⟨n, b, h3, h4⟩ := bnd_some h2
          obtain ⟨_, c, h5, h6⟩ := bnd_some h4
          have k1 := takP_adv s 40 (by decide) _ _ a h0.2 h1
          have k2 := fiP_adv s a n b k1.2 h3
          have k3 := takP_adv s 41 (by decide) b _ c k2.2 h5
          injection h6 with h6; injection h6 with _ h6
          omega
        · injection h with h; injection h with _ h
          omega
theorem baP_adv {d : Nat} {B : Nat → Rd PT} {s : ByteArray} (hB : Adv s B) : Adv s (baP d B s) := fun i x j hi h => by
  have h0 := sk_le s i hi
  unfold baP at h
  split at h
  · obtain ⟨t, e, h1, h2⟩ := bnd_some h
    have h4 := qtP_adv s (sk s i) t e h0.2 h1
    injection h2 with h2; injection h2 with _ h2
    omega
  · split at h
    · have := parP_adv hB _ _ _ h0.2 h; omega
    · have key : ∀ k, nx s i ≠ 0 → (bnd (nmP s (sk s i + 1)) fun t e => (.ok (mkP k ⟨#[]⟩ 0 t [], e) : Rd PT)) = .ok (x, j) → i < j ∧ j ≤ s.size := fun k hn h => by
        obtain ⟨t, e, h1, h2⟩ := bnd_some h
        have h3 := nx_in hn
        have h4 := nmP_adv s (sk s i + 1) t e (by omega) h1
        injection h2 with h2; injection h2 with _ h2
        omega
      split at h
      · exact key 23 (by omega) h
      · split at h
        · exact key 24 (by omega) h
        · split at h
          · rename_i hl
            have := woP_adv hB hl h; omega
          · cases h
theorem gvF_adv (s : ByteArray) : ∀ f p i x j, i ≤ s.size → gvF s f p i = .ok (x, j) → i ≤ j ∧ j ≤ s.size
  | 0, p, i, x, j, hi, h => by cases h
  | f + 1, p, i, x, j, hi, h => by
    have h0 := sk_le s i hi
    rw [gvF] at h
    by_cases q : gvK (nx s i) = 0
    · rw [if_pos q] at h
      injection h with h; injection h with _ h
      omega
    · rw [if_neg q] at h
      obtain ⟨t, e, h1, h2⟩ := bnd_some h
      have hn : nx s i ≠ 0 := fun z => q (by rw [z]; rfl)
      have h3 := nx_in hn
      have h4 := nmP_adv s (sk s i + 1) t e (by omega) h1
      have := gvF_adv s f _ e x j (by omega) h2
      omega
theorem piP_adv {d : Nat} {B : Nat → Rd PT} {s : ByteArray} (hB : Adv s B) : Adv s (piP d B s) := fun i x j hi h => by
  unfold piP at h
  obtain ⟨p, e, h1, h2⟩ := bnd_some h
  have h3 := baP_adv hB i p e hi h1
  have := gvF_adv s _ _ e x j h3.2 h2
  omega
theorem pcF_adv {d : Nat} {B : Nat → Rd PT} {s : ByteArray} (hB : Adv s B) : ∀ f l i x j, i ≤ s.size → pcF d B s f l i = .ok (x, j) → i ≤ j ∧ j ≤ s.size
  | 0, l, i, x, j, hi, h => by cases h
  | f + 1, l, i, x, j, hi, h => by
    have h0 := sk_le s i hi
    rw [pcF] at h
    by_cases q : begN (nx s i) = true
    · rw [if_pos q] at h
      obtain ⟨t, e, h1, h2⟩ := bnd_some h
      have h3 := piP_adv hB _ t e h0.2 h1
      have := pcF_adv hB f _ e x j (by omega) h2
      omega
    · rw [if_neg q] at h
      injection h with h; injection h with _ h
      omega
theorem pcP_adv {d : Nat} {B : Nat → Rd PT} {s : ByteArray} (hB : Adv s B) : Adv s (pcP d B s) := fun i x j hi h => by
  unfold pcP at h
  obtain ⟨p, e, h1, h2⟩ := bnd_some h
  have h3 := piP_adv hB i p e hi h1
  obtain ⟨l, m, h4, h5⟩ := bnd_some h2
  have := pcF_adv hB _ _ e l m h3.2 h4
  injection h5 with h5; injection h5 with _ h5
  omega
theorem alF_adv {d : Nat} {B : Nat → Rd PT} {s : ByteArray} (hB : Adv s B) : ∀ f l i x j, i ≤ s.size → alF d B s f l i = .ok (x, j) → i ≤ j ∧ j ≤ s.size
  | 0, l, i, x, j, hi, h => by cases h
  | f + 1, l, i, x, j, hi, h => by
    have h0 := sk_le s i hi
    rw [alF] at h
    by_cases q : nx s i = 124
    · rw [if_pos q] at h
      obtain ⟨t, e, h1, h2⟩ := bnd_some h
      have hn := nx_in (s := s) (i := i) (by omega)
      have h3 := pcP_adv hB _ t e (by omega) h1
      have := alF_adv hB f _ e x j (by omega) h2
      omega
    · rw [if_neg q] at h
      injection h with h; injection h with _ h
      omega
theorem alP_adv {d : Nat} {B : Nat → Rd PT} {s : ByteArray} (hB : Adv s B) : Adv s (alP d B s) := fun i x j hi h => by
  unfold alP at h
  obtain ⟨p, e, h1, h2⟩ := bnd_some h
  have h3 := pcP_adv hB i p e hi h1
  obtain ⟨l, m, h4, h5⟩ := bnd_some h2
  have := alF_adv hB _ _ e l m h3.2 h4
  injection h5 with h5; injection h5 with _ h5
  omega
theorem alD_adv (s : ByteArray) : ∀ d, Adv s (alD s d)
  | 0 => fun i x j hi h => alP_adv (B := fun j => .error (0, j)) (fun i x j _ h => by cases h) i x j hi (by rw [alD] at h; exact h)
  | d + 1 => fun i x j hi h => alP_adv (alD_adv s d) i x j hi (by rw [alD] at h; exact h)
end Go.Proofs.YtimbfelbalfmiaaDoor
