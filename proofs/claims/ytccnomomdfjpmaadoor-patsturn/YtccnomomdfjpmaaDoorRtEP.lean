/- What is read is right, and has what its kinds have alone. -/
import Derived.Test.YtccnomomdfjpmaaDoorRtDP
import Derived.Test.YtccnomomdfjpmaaDoorRdNP
namespace Go.Proofs.YtccnomomdfjpmaaDoor
open Go.RowKit

/-- A node that is right and bare, however many kids it may have. -/
def Rq (k : Int) (t : ByteArray) (n : Int) (nm : ByteArray) (len : Nat) : Prop :=
  (1 ≤ k ∧ k ≤ 24) ∧ (hasK k = 1 → t.size ≤ 65536 ∧ (k ≠ 1 → t.size ≠ 0)) ∧ (hasK k = 2 → 0 ≤ n ∧ n ≤ 65536) ∧ (hasK k = 3 → named nm = true) ∧ leastK k ≤ len ∧ ((k = 18 ∨ k = 19) ∨ (len : Int) ≤ mostK k) ∧
  (hasK k ≠ 1 → t = ⟨#[]⟩) ∧ (hasK k ≠ 2 → n = 0) ∧ (hasK k ≠ 3 → nm = ⟨#[]⟩)
def PT.qq : PT → Prop
  | .node k t n nm _ _ _ len _ kids => Rq k t n nm len ∧ ∀ i, PT.qq (kids i)
theorem qq_mk {k : Int} {t : ByteArray} {n : Int} {nm : ByteArray} {l : List PT} (h : Rq k t n nm l.length) (hl : ∀ x ∈ l, x.qq) : (mkP k t n nm l).qq := ⟨h, fun i => hl _ (List.getElem_mem i.isLt)⟩
theorem qq_node {T : PT} (h : T.qq) : Rq T.k T.t T.n T.nm T.len := by cases T; exact h.1
theorem qq_kid {T : PT} (h : T.qq) {i : Nat} (hi : i < T.len) : (T.kid i).qq := by rw [PT.kid_at hi]; cases T; exact h.2 ⟨i, hi⟩
/-- What reads hand back. -/
def Qp (p : PT) : Prop := p.qq ∧ p.bar = p
theorem qp_mk {k : Int} {t : ByteArray} {n : Int} {nm : ByteArray} {l : List PT} (h : Rq k t n nm l.length) (hl : ∀ x ∈ l, Qp x) : Qp (mkP k t n nm l) := by
  refine ⟨qq_mk h fun x hx => (hl x hx).1, ?_⟩
  obtain ⟨-, -, -, -, -, -, b1, b2, b3⟩ := h
  rw [PT.bar_eq, mkP_lst]
  have e1 : (if hasK (mkP k t n nm l).k = 1 then (mkP k t n nm l).t else ⟨#[]⟩) = t := by
    show (if hasK k = 1 then t else ⟨#[]⟩) = t
    split
    · rfl
    · rename_i q; exact (b1 q).symm
  have e2 : (if hasK (mkP k t n nm l).k = 2 then (mkP k t n nm l).n else 0) = n := by
    show (if hasK k = 2 then n else 0) = n
    split
    · rfl
    · rename_i q; exact (b2 q).symm
  have e3 : (if hasK (mkP k t n nm l).k = 3 then (mkP k t n nm l).nm else ⟨#[]⟩) = nm := by
    show (if hasK k = 3 then nm else ⟨#[]⟩) = nm
    split
    · rfl
    · rename_i q; exact (b3 q).symm
  rw [e1, e2, e3]
  have e4 : l.map PT.bar = l := (List.map_congr_left fun x hx => (hl x hx).2).trans (List.map_id _)
  rw [e4]
  rfl
theorem qq_bad : ∀ T : PT, T.qq → T.cnt ≤ 4096 → T.bad = 0 := PT.ind fun T ih hq hc => by
  obtain ⟨h1, h2, h3, h4, h5, h6, -, -, -⟩ := qq_node hq
  have hl := T.len_lt
  have he : errN T = 0 := by
    unfold errN
    rw [if_neg (by omega), if_neg (by rintro ⟨a, b⟩; have := (h2 a).1; omega), if_neg (by rintro ⟨a, b, c⟩; exact (h2 a).2 b c), if_neg (by rintro ⟨a, b⟩; have := h3 a; omega), if_neg (by rintro ⟨a, b⟩; rw [h4 a] at b; cases b), if_neg]
    rintro (a | a)
    · omega
    · rcases h6 with h6 | h6
      · have : mostK T.k = 4096 := by unfold mostK; rw [if_pos h6]
        omega
      · omega
  rw [T.bad_eq, if_pos he]
  have hk : ∀ i, i < T.len → (T.kid i).bad = 0 := fun i hi => ih i hi (qq_kid hq hi) (by
    have h7 : sumTo (fun i => (T.kid i).cnt) (i + 1) ≤ sumTo (fun i => (T.kid i).cnt) T.len := sumTo_le _ hi
    have h8 : sumTo (fun i => (T.kid i).cnt) (i + 1) = sumTo (fun i => (T.kid i).cnt) i + (T.kid i).cnt := rfl
    have := T.cnt_eq
    omega)
  have : ∀ m, m ≤ T.len → firstTo (fun i => (T.kid i).bad) m = 0 := by
    intro m
    induction m with
    | zero => intro _; rfl
    | succ m ihm => intro hm; rw [firstTo, if_pos (ihm (by omega)), hk m (by omega)]
  exact this T.len (Nat.le_refl _)
theorem nmP_named {s : ByteArray} {i j : Nat} {t : ByteArray} (h : nmP s i = .ok (t, j)) : named t = true := by
  unfold nmP at h
  split at h
  · rename_i hl
    split at h
    · cases h
    · rename_i h16
      injection h with h; injection h with h _
      have hE := wdE_adv (s := s) (j := sk s i) hl
      have hsz := ext_size s (Nat.le_of_lt hE.1) hE.2
      rw [← h]
      have hget : ∀ k, k < wdE s (sk s i) - sk s i → bat (s.extract (sk s i) (wdE s (sk s i))) k = bat s (sk s i + k) := fun k hk => by
        unfold bat
        rw [List.getD, List.getD, ByteArray.data_extract, Array.toList_extract, List.extract, List.getElem?_take, if_pos hk, List.getElem?_drop]
      rw [named_eq, hsz]
      have hw : ∀ k, k ≤ wdE s (sk s i) - sk s i → wordUp (s.extract (sk s i) (wdE s (sk s i))) k = true := by
        intro k
        induction k with
        | zero => intro _; rfl
        | succ k ih =>
          intro hk
          rw [wordUp, ih (by omega), hget k (by omega), Bool.true_and]
          exact pas_all (p := wordN) (sk s i + k) (by omega) (show sk s i + k < wdE s (sk s i) by omega)
      rw [hw _ (Nat.le_refl _), hget 0 (by omega), Nat.add_zero, decide_eq_true (by omega), decide_eq_true (by omega)]
      show (true && true && letterN (nx s i) && true) = true
      rw [hl]; rfl
  · cases h
theorem kwUp_word (t : ByteArray) : ∀ n, kwUp t n ≠ 0 → wordK (kwUp t n) = t ∧ kwUp t n ≤ n
  | 0, h => absurd rfl h
  | n + 1, h => by
    rw [kwUp] at h ⊢
    by_cases q : kwUp t n ≠ 0
    · rw [if_pos q] at h ⊢
      have := kwUp_word t n q
      exact ⟨this.1, by omega⟩
    · rw [if_neg q] at h ⊢
      by_cases r : wordK (n + 1) = t
      · rw [if_pos r]; exact ⟨r, Nat.le_refl _⟩
      · rw [if_neg r] at h; exact absurd rfl h
theorem kwUp_in {t : ByteArray} {N : Nat} (hN : N ≤ 24) (h : kwUp t N ≠ 0) (ht : t.size ≠ 0) : (2 ≤ kwUp t N ∧ kwUp t N ≤ 17) ∨ kwUp t N = 20 := by
  obtain ⟨h1, h2⟩ := kwUp_word t N h
  have key : ∀ k : Fin 25, (wordK k.val).size ≠ 0 → (2 ≤ k.val ∧ k.val ≤ 17) ∨ k.val = 20 := by decide +kernel
  generalize kwUp t N = K at *
  exact key ⟨K, by omega⟩ (by show (wordK K).size ≠ 0; rw [h1]; exact ht)
theorem kindW_in {t : ByteArray} (h : kindW t ≠ 0) (ht : t.size ≠ 0) : (2 ≤ kindW t ∧ kindW t ≤ 17) ∨ kindW t = 20 := by
  obtain ⟨N, hN⟩ : ∃ N, N = 24 := ⟨_, rfl⟩
  have e : kindW t = kwUp t N := by rw [hN]; rfl
  rw [e] at h ⊢
  exact kwUp_in (by omega) h ht
theorem fiP_full {s : ByteArray} {i j : Nat} {t : ByteArray} (h : fiP s i = .ok (t, j)) : t.size ≠ 0 := by
  unfold fiP at h
  split at h
  · obtain ⟨u, e, h1, h2⟩ := bnd_some h
    split at h2
    · cases h2
    · rename_i q
      injection h2 with h2; injection h2 with h2 _
      subst h2
      exact q
  · cases h
/-- All that it reads is right and bare. -/
def Rgt (P : Nat → Rd PT) : Prop := ∀ i p j, P i = .ok (p, j) → Qp p
theorem parP_rgt {d : Nat} {B : Nat → Rd PT} {s : ByteArray} (hB : Rgt B) : Rgt (parP d B s) := fun i p j h => by
  unfold parP at h
  obtain ⟨_, a, h1, h2⟩ := bnd_some h
  split at h2
  · cases h2
  · obtain ⟨q, b, h4, h5⟩ := bnd_some h2
    obtain ⟨_, c, h6, h7⟩ := bnd_some h5
    injection h7 with h7; injection h7 with h7 _
    subst h7
    exact hB a q b h4
theorem woP_rgt {d : Nat} {B : Nat → Rd PT} {s : ByteArray} (hs : s.size ≤ 65536) (hB : Rgt B) {i : Nat} {p : PT} {j : Nat} (hl : letterN (bat s i) = true) (h : woP d B s i = .ok (p, j)) : Qp p := by
  have hE := wdE_adv hl
  have hsz := ext_size s (Nat.le_of_lt hE.1) hE.2
  unfold woP at h
  obtain ⟨K, hK⟩ : ∃ K, kindW (s.extract i (wdE s i)) = K := ⟨_, rfl⟩
  have hin := fun (q : K ≠ 0) => kindW_in (t := s.extract i (wdE s i)) (by rw [hK]; exact q) (by omega)
  rw [hK] at h hin
  split at h
  · cases h
  · rename_i h0
    have hin := hin h0
    split at h
    · obtain ⟨q, m, h1, h2⟩ := bnd_some h
      injection h2 with h2; injection h2 with h2 _
      subst h2
      refine qp_mk (show Rq 20 ⟨#[]⟩ 0 ⟨#[]⟩ 1 from ⟨by decide, fun q => absurd q (by decide), fun q => absurd q (by decide), fun q => absurd q (by decide), by decide, .inr (by decide), fun _ => rfl, fun _ => rfl, fun _ => rfl⟩) fun x hx => ?_
      rw [List.mem_singleton] at hx
      subst hx
      exact parP_rgt hB _ _ _ h1
    · rename_i h20
      have h17 : 2 ≤ K ∧ K ≤ 17 := by omega
      have hmo : mostK (K : Int) = 0 ∧ leastK (K : Int) = 0 := by
        constructor
        · unfold mostK; rw [if_neg (by omega), if_neg (by omega)]
        · unfold leastK; rw [if_neg (by omega), if_neg (by omega)]
      split at h
      · rename_i hh
        obtain ⟨_, a, h1, h2⟩ := bnd_some h
        obtain ⟨n, b, h3, h4⟩ := bnd_some h2
        obtain ⟨_, c, h5, h6⟩ := bnd_some h4
        injection h6 with h6; injection h6 with h6 _
        subst h6
        have hn := nuP_le h3
        exact qp_mk ⟨by omega, fun q => absurd (hh.symm.trans q) (by decide), fun _ => by omega, fun q => absurd (hh.symm.trans q) (by decide), by rw [hmo.2]; decide, .inr (by rw [hmo.1]; decide), fun _ => rfl, fun q => absurd hh q, fun _ => rfl⟩ (by simp)
      · split at h
        · rename_i hh2 hh
          obtain ⟨_, a, h1, h2⟩ := bnd_some h
          obtain ⟨t, b, h3, h4⟩ := bnd_some h2
          obtain ⟨_, c, h5, h6⟩ := bnd_some h4
          injection h6 with h6; injection h6 with h6 _
          subst h6
          exact qp_mk ⟨by omega, fun _ => ⟨fiP_leS hs h3, fun _ => fiP_full h3⟩, fun q => absurd q hh2, fun q => absurd (hh.symm.trans q) (by decide), by rw [hmo.2]; decide, .inr (by rw [hmo.1]; decide), fun q => absurd hh q, fun _ => rfl, fun _ => rfl⟩ (by simp)
        · rename_i hh2 hh1
          injection h with h; injection h with h _
          subst h
          have hh3 : hasK (K : Int) ≠ 3 := by
            intro q
            unfold hasK at q
            split at q
            · omega
            · split at q
              · omega
              · rw [if_neg (by omega)] at q; omega
          exact qp_mk ⟨by omega, fun q => absurd q hh1, fun q => absurd q hh2, fun q => absurd q hh3, by rw [hmo.2]; decide, .inr (by rw [hmo.1]; decide), fun _ => rfl, fun _ => rfl, fun _ => rfl⟩ (by simp)
theorem name_rq {k : Int} {t : ByteArray} {l : Nat} (hk : (k = 23 ∨ k = 24) ∧ l = 0 ∨ (k = 21 ∨ k = 22) ∧ l = 1) (ht : named t = true) : Rq k ⟨#[]⟩ 0 t l := by
  have hh : hasK k = 3 := by unfold hasK; rw [if_neg (by omega), if_neg (by omega), if_pos (by omega)]
  refine ⟨by omega, fun q => absurd (hh.symm.trans q) (by decide), fun q => absurd (hh.symm.trans q) (by decide), fun _ => ht, ?_, .inr ?_, fun _ => rfl, fun _ => rfl, fun q => absurd hh q⟩
  · unfold leastK
    rcases hk with ⟨_, rfl⟩ | ⟨_, rfl⟩
    · rw [if_neg (by omega), if_neg (by omega)]; decide
    · rw [if_neg (by omega), if_pos (by omega)]; decide
  · unfold mostK
    rcases hk with ⟨_, rfl⟩ | ⟨_, rfl⟩
    · rw [if_neg (by omega), if_neg (by omega)]; decide
    · rw [if_neg (by omega), if_pos (by omega)]; decide
theorem baP_rgt {d : Nat} {B : Nat → Rd PT} {s : ByteArray} (hs : s.size ≤ 65536) (hB : Rgt B) : Rgt (baP d B s) := fun i p j h => by
  unfold baP at h
  split at h
  · obtain ⟨t, e, h1, h2⟩ := bnd_some h
    injection h2 with h2; injection h2 with h2 _
    subst h2
    have ht := qtP_le hs h1
    exact qp_mk ⟨by decide, fun _ => ⟨ht, fun q => absurd rfl q⟩, fun q => absurd q (by decide), fun q => absurd q (by decide), by decide, .inr (by decide), fun q => absurd rfl q, fun _ => rfl, fun _ => rfl⟩ (by simp)
  · split at h
    · exact parP_rgt hB _ _ _ h
    · split at h
      · obtain ⟨t, e, h1, h2⟩ := bnd_some h
        injection h2 with h2; injection h2 with h2 _
        subst h2
        exact qp_mk (name_rq (.inl ⟨.inl rfl, rfl⟩) (nmP_named h1)) (by simp)
      · split at h
        · obtain ⟨t, e, h1, h2⟩ := bnd_some h
          injection h2 with h2; injection h2 with h2 _
          subst h2
          exact qp_mk (name_rq (.inl ⟨.inr rfl, rfl⟩) (nmP_named h1)) (by simp)
        · split at h
          · rename_i hl
            exact woP_rgt hs hB hl h
          · cases h
theorem gvF_rgt (s : ByteArray) : ∀ f q i p j, Qp q → gvF s f q i = .ok (p, j) → Qp p
  | 0, q, i, p, j, _, h => by cases h
  | f + 1, q, i, p, j, hq, h => by
    rw [gvF] at h
    by_cases c : gvK (nx s i) = 0
    · rw [if_pos c] at h
      injection h with h; injection h with h _
      subst h
      exact hq
    · rw [if_neg c] at h
      obtain ⟨t, e, h1, h2⟩ := bnd_some h
      refine gvF_rgt s f _ e p j (qp_mk (name_rq (.inr ⟨?_, rfl⟩) (nmP_named h1)) fun x hx => by rw [List.mem_singleton] at hx; subst hx; exact hq) h2
      unfold gvK at c ⊢
      split
      · exact .inl rfl
      · rename_i q1
        rw [if_neg q1] at c
        split
        · exact .inr rfl
        · rename_i q2; rw [if_neg q2] at c; exact absurd rfl c
theorem piP_rgt {d : Nat} {B : Nat → Rd PT} {s : ByteArray} (hs : s.size ≤ 65536) (hB : Rgt B) : Rgt (piP d B s) := fun i p j h => by
  unfold piP at h
  obtain ⟨q, e, h1, h2⟩ := bnd_some h
  exact gvF_rgt s _ q e p j (baP_rgt hs hB i q e h1) h2
theorem tog_rgt {k : Int} (hk : k = 18 ∨ k = 19) {l : List PT} (hl : l ≠ []) (h : ∀ x ∈ l, Qp x) : Qp (togP k l) := by
  match l, hl, h with
  | [x], _, h => exact h x (by simp)
  | x :: y :: l, _, h =>
    have hh : hasK k = 0 := by unfold hasK; rw [if_neg (by omega), if_neg (by omega), if_neg (by omega)]
    have hle : leastK k = 2 := by unfold leastK; rw [if_pos hk]
    exact qp_mk ⟨by omega, fun q => absurd (hh.symm.trans q) (by decide), fun q => absurd (hh.symm.trans q) (by decide), fun q => absurd (hh.symm.trans q) (by decide), by rw [hle, List.length_cons, List.length_cons]; omega, .inl hk, fun _ => rfl, fun _ => rfl, fun _ => rfl⟩ h
theorem pcF_rgt {d : Nat} {B : Nat → Rd PT} {s : ByteArray} (hs : s.size ≤ 65536) (hB : Rgt B) : ∀ f l i r j, l ≠ [] → (∀ x ∈ l, Qp x) → pcF d B s f l i = .ok (r, j) → r ≠ [] ∧ ∀ x ∈ r, Qp x
  | 0, l, i, r, j, _, _, h => by cases h
  | f + 1, l, i, r, j, hn, hl, h => by
    rw [pcF] at h
    by_cases c : begN (nx s i) = true
    · rw [if_pos c] at h
      obtain ⟨t, e, h1, h2⟩ := bnd_some h
      exact pcF_rgt hs hB f _ e r j (by simp) (fun x hx => by
        rcases List.mem_append.1 hx with hx | hx
        · exact hl x hx
        · rw [List.mem_singleton] at hx; subst hx; exact piP_rgt hs hB _ _ _ h1) h2
    · rw [if_neg c] at h
      injection h with h; injection h with h _
      subst h
      exact ⟨hn, hl⟩
theorem pcP_rgt {d : Nat} {B : Nat → Rd PT} {s : ByteArray} (hs : s.size ≤ 65536) (hB : Rgt B) : Rgt (pcP d B s) := fun i p j h => by
  unfold pcP at h
  obtain ⟨q, e, h1, h2⟩ := bnd_some h
  obtain ⟨l, m, h3, h4⟩ := bnd_some h2
  injection h4 with h4; injection h4 with h4 _
  subst h4
  obtain ⟨a, b⟩ := pcF_rgt hs hB _ _ _ _ _ (by simp) (fun x hx => by rw [List.mem_singleton] at hx; subst hx; exact piP_rgt hs hB _ _ _ h1) h3
  exact tog_rgt (.inl rfl) a b
theorem alF_rgt {d : Nat} {B : Nat → Rd PT} {s : ByteArray} (hs : s.size ≤ 65536) (hB : Rgt B) : ∀ f l i r j, l ≠ [] → (∀ x ∈ l, Qp x) → alF d B s f l i = .ok (r, j) → r ≠ [] ∧ ∀ x ∈ r, Qp x
  | 0, l, i, r, j, _, _, h => by cases h
  | f + 1, l, i, r, j, hn, hl, h => by
    rw [alF] at h
    by_cases c : nx s i = 124
    · rw [if_pos c] at h
      obtain ⟨t, e, h1, h2⟩ := bnd_some h
      exact alF_rgt hs hB f _ e r j (by simp) (fun x hx => by
        rcases List.mem_append.1 hx with hx | hx
        · exact hl x hx
        · rw [List.mem_singleton] at hx; subst hx; exact pcP_rgt hs hB _ _ _ h1) h2
    · rw [if_neg c] at h
      injection h with h; injection h with h _
      subst h
      exact ⟨hn, hl⟩
theorem alP_rgt {d : Nat} {B : Nat → Rd PT} {s : ByteArray} (hs : s.size ≤ 65536) (hB : Rgt B) : Rgt (alP d B s) := fun i p j h => by
  unfold alP at h
  obtain ⟨q, e, h1, h2⟩ := bnd_some h
  obtain ⟨l, m, h3, h4⟩ := bnd_some h2
  injection h4 with h4; injection h4 with h4 _
  subst h4
  obtain ⟨a, b⟩ := alF_rgt hs hB _ _ _ _ _ (by simp) (fun x hx => by rw [List.mem_singleton] at hx; subst hx; exact pcP_rgt hs hB _ _ _ h1) h3
  exact tog_rgt (.inr rfl) a b
theorem alD_rgt {s : ByteArray} (hs : s.size ≤ 65536) : ∀ d, Rgt (alD s d)
  | 0 => fun i p j h => alP_rgt (d := 0) (B := fun j => .error (0, j)) hs (fun i p j h => by cases h) i p j (by rw [alD] at h; exact h)
  | d + 1 => fun i p j h => alP_rgt hs (alD_rgt hs d) i p j (by rw [alD] at h; exact h)
/-- What is read is right, bare, and lies nowhere. -/
theorem read_right {s : ByteArray} {p : PT} {j : Nat} (h : rdP s = .ok (p, j)) : p.wrong = 0 ∧ p.bar = p := by
  unfold rdP at h
  split at h
  · cases h
  · rename_i hs
    obtain ⟨q, e, h1, h2⟩ := bnd_some h
    split at h2
    · rename_i hf
      injection h2 with h2; injection h2 with h2 _
      subst h2
      unfold rdA at h1
      obtain ⟨q, m, h3, h4⟩ := bnd_some h1
      split at h4
      · cases h4
      · injection h4 with h4; injection h4 with h4 _
        subst h4
        have hq := alD_rgt (by omega) _ _ _ _ h3
        refine ⟨?_, hq.2⟩
        unfold PT.wrong
        rw [if_pos hf]
        unfold PT.fits at hf
        rw [Bool.and_eq_true] at hf
        exact qq_bad _ hq.1 (of_decide_eq_true hf.1)
    · cases h2
end Go.Proofs.YtccnomomdfjpmaaDoor
