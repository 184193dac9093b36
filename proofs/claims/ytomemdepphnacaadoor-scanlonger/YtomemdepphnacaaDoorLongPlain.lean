/- Who has more time comes to the same: what look finds with other fuel. And what is found first is the first way. -/
import Derived.Test.YtomemdepphnacaaDoorLaw5R
namespace Go.Proofs.YtomemdepphnacaaDoor
open Go.RowKit

/-- With other fuel: the same, if it is enough; none, if it is not. -/
theorem frs_fuel : ∀ (l : List Ev) (en f t : Nat) (d : List Gft), en ≠ 10 → (frs l en f t d).k ≠ 10 → t ≤ f → t ≤ (frs l en f t d).t ∧ (frs l en f t d).t ≤ f ∧ (∀ f', (frs l en f t d).t ≤ f' → frs l en f' t d = frs l en f t d) ∧ ∀ f', t ≤ f' → f' < (frs l en f t d).t → (frs l en f' t d).k = 10
  | [], en, f, t, d, _, _, ht => ⟨Nat.le_refl _, ht, fun _ _ => rfl, fun f' h1 h2 => by exact absurd (show f' < t from h2) (by omega)⟩
  | x :: l, en, f, t, d, hen, hk, ht => by
    by_cases h3 : x.w = 3
    · have e : ∀ f', frs (x :: l) en f' t d = ⟨3, x.a, x.g, t, d⟩ := fun f' => by rw [frs, if_pos h3]
      rw [e]
      exact ⟨Nat.le_refl _, ht, fun f' _ => e f', fun f' h1 h2 => absurd (show f' < t from h2) (by omega)⟩
    · by_cases h0 : x.w = 0
      · have e : ∀ f', frs (x :: l) en f' t d = if t = f' then ⟨10, 0, [], t, d⟩ else frs l en f' (t + 1) d := fun f' => by rw [frs, if_neg h3, if_pos h0]
        have htf : ¬ t = f := fun q => by rw [e, if_pos q] at hk; exact hk rfl
        rw [e, if_neg htf] at hk ⊢
        obtain ⟨h1, h2, h4, h5⟩ := frs_fuel l en f (t + 1) d hen hk (by omega)
        refine ⟨by omega, h2, fun f' hf => ?_, fun f' ha hb => ?_⟩
        · rw [e, if_neg (by omega)]
          exact h4 f' hf
        · rw [e]
          split
          · rfl
          · exact h5 f' (by omega) hb
      · by_cases h2 : x.w = 2
        · have e : ∀ f', frs (x :: l) en f' t d = frs l en f' t (d ++ x.g) := fun f' => by rw [frs, if_neg h3, if_neg h0, if_pos h2]
          rw [e] at hk ⊢
          obtain ⟨h1, h6, h4, h5⟩ := frs_fuel l en f t (d ++ x.g) hen hk ht
          exact ⟨h1, h6, fun f' hf => by rw [e]; exact h4 f' hf, fun f' ha hb => by rw [e]; exact h5 f' ha hb⟩
        · have e : ∀ f', frs (x :: l) en f' t d = frs l en f' t d := fun f' => by rw [frs, if_neg h3, if_neg h0, if_neg h2]
          rw [e] at hk ⊢
          obtain ⟨h1, h6, h4, h5⟩ := frs_fuel l en f t d hen hk ht
          exact ⟨h1, h6, fun f' hf => by rw [e]; exact h4 f' hf, fun f' ha hb => by rw [e]; exact h5 f' ha hb⟩
/-- What is longer tells the same, where the fuel is gone ahead of its end. -/
theorem frs_more : ∀ (l l2 : List Ev) (en en2 f t : Nat) (d : List Gft), t ≤ f → f < t + tks l → frs (l ++ l2) en2 f t d = frs l en f t d
  | [], l2, en, en2, f, t, d, ht, hf => by exact absurd (show f < t + 0 from hf) (by omega)
  | x :: l, l2, en, en2, f, t, d, ht, hf => by
    rw [tks_cons] at hf
    rw [List.cons_append, frs, frs]
    by_cases h3 : x.w = 3
    · rw [if_pos h3, if_pos h3]
    · rw [if_neg h3, if_neg h3]
      by_cases h0 : x.w = 0
      · rw [if_pos h0] at hf
        rw [if_pos h0, if_pos h0]
        split
        · rfl
        · exact frs_more l l2 en en2 f (t + 1) d (by omega) (by omega)
      · rw [if_neg h0] at hf
        rw [if_neg h0, if_neg h0]
        by_cases h2 : x.w = 2
        · rw [if_pos h2, if_pos h2]
          exact frs_more l l2 en en2 f t (d ++ x.g) ht (by omega)
        · rw [if_neg h2, if_neg h2]
          exact frs_more l l2 en en2 f t d ht (by omega)
theorem en_thn {p q : Sq} (hp : p.2 ≤ 3) (hq : q.2 ≤ 3) : (thn p q).2 ≤ 3 := by
  unfold thn
  split
  · exact hq
  · exact hp
theorem en_bnd {n : Nat} {f : Nat → List Gft → Sq} (hn : n ≤ 3) (hf : ∀ e g, (f e g).2 ≤ 3) : ∀ l, (bnd l n f).2 ≤ 3
  | [] => hn
  | x :: l => by
    rw [bnd]
    split
    · exact en_thn (hf _ _) (en_bnd hn hf l)
    · exact en_bnd hn hf l
theorem en_bd {q : Sq} {f : Nat → List Gft → Sq} (hq : q.2 ≤ 3) (hf : ∀ e g, (f e g).2 ≤ 3) : (bd q f).2 ≤ 3 := en_bnd hq hf q.1
theorem en_alts {f : PT → Nat → List Gft → Sq} {T : PT} {i : Nat} {g : List Gft} (hf : ∀ U i g, (f U i g).2 ≤ 3) : ∀ m j, (alts f T i g m j).2 ≤ 3
  | 0, _ => by rw [alts]; decide
  | m + 1, j => by rw [alts]; exact en_thn (hf _ _ _) (en_alts hf m (j + 1))
theorem en_cats {f : PT → Nat → List Gft → Sq} {T : PT} (hf : ∀ U i g, (f U i g).2 ≤ 3) : ∀ m j i g, (cats f T m j i g).2 ≤ 3
  | 0, j, i, g => by rw [cats]; exact hf _ _ _
  | m + 1, j, i, g => by rw [cats]; exact en_bd (hf _ _ _) fun e g' => en_cats hf m (j + 1) e g'
theorem en_agn {f : PT → Nat → List Gft → Sq} {T : PT} (hf : ∀ U i g, (f U i g).2 ≤ 3) : ∀ m i g, (agn f T m i g).2 ≤ 3
  | 0, _, _ => by rw [agn]; decide
  | m + 1, i, g => by
    rw [agn]
    refine en_bd (hf _ _ _) fun e g' => ?_
    show (ite (e = i) nil (agn f T m e g')).2 ≤ 3
    split
    · decide
    · exact en_agn hf m e g'
theorem en_ite {c : Prop} [Decidable c] {p q : Sq} (hp : p.2 ≤ 3) (hq : q.2 ≤ 3) : (if c then p else q).2 ≤ 3 := by
  split
  · exact hp
  · exact hq
section
variable {s : ByteArray} {R : ByteArray → Option PT} {dg : Nat → ByteArray}
theorem D_end : ∀ n T i g, (D s R dg n T i g).2 ≤ 3
  | 0, _, _, _ => by rw [D]; decide
  | n + 1, T, i, g => by
    have ih : ∀ U i g, (D s R dg n U i g).2 ≤ 3 := D_end n
    rw [D]
    refine en_ite (by decide) (en_ite (by show 1 ≤ 3; decide) (en_ite (en_agn ih _ _ _) (en_ite (en_alts ih _ _) (en_ite (by rw [arbs_end]; decide) (en_ite (by rw [bxs_end]; decide) (en_ite (by rw [bls_end]; decide) (en_ite (en_cats ih _ _ _ _) (en_ite (en_bd (ih _ _ _) fun _ _ => by show 0 ≤ 3; decide) (en_ite (en_bd (ih _ _ _) fun _ _ => by show 0 ≤ 3; decide) (en_ite ?_ (en_ite (by show 0 ≤ 3; decide) ?_)))))))))))
    · split
      · exact ih _ _ _
      · decide
    · split
      · show 0 ≤ 3; decide
      · decide
theorem D_end10 (n : Nat) (T : PT) (i : Nat) (g : List Gft) : (D s R dg n T i g).2 ≠ 10 := fun e => by have := D_end (s := s) (R := R) (dg := dg) n T i g; omega
theorem frs_depth {T : PT} {j f N t : Nat} (d : List Gft) (hN : f + 1 ≤ N) (ht : t ≤ f) : frs (D s R dg N T j []).1 (D s R dg N T j []).2 f t d = frs (D s R dg (f + 1) T j []).1 (D s R dg (f + 1) T j []).2 f t d := by
  by_cases h : (D s R dg (f + 1) T j []).2 = 3
  · have hd := D_dp s R dg (f + 1) T j [] h
    obtain ⟨m, rfl⟩ : ∃ m, N = f + 1 + m := ⟨N - (f + 1), by omega⟩
    rcases D_le_add s R dg (f + 1) T j [] m with q | ⟨-, l2, q⟩
    · rw [← q]
    · rw [← q]
      exact frs_more _ l2 _ _ f t d ht (by omega)
  · rw [D_same s R dg hN T j [] h]
theorem lk_depth {T : PT} {f N : Nat} (hN : f + 1 ≤ N) : ∀ n j t d, t ≤ f → lk (fun j => D s R dg N T j []) f n j t d = lk (fun j => D s R dg (f + 1) T j []) f n j t d
  | 0, _, _, _, _ => rfl
  | n + 1, j, t, d, ht => by
    rw [lk, lk]
    rw [frs_depth d hN ht]
    by_cases h3 : (frs (D s R dg (f + 1) T j []).1 (D s R dg (f + 1) T j []).2 f t d).k = 3
    · rw [if_pos h3, if_pos h3]
    · rw [if_neg h3, if_neg h3]
      by_cases h0 : (frs (D s R dg (f + 1) T j []).1 (D s R dg (f + 1) T j []).2 f t d).k = 0
      · rw [if_pos h0, if_pos h0]
        exact lk_depth hN n (j + 1) _ _ (frs_fuel _ _ f t d (D_end10 _ T j []) (by omega) ht).2.1
      · rw [if_neg h0, if_neg h0]
theorem lk_fuel {Q : Nat → Sq} (hQ : ∀ j, (Q j).2 ≠ 10) {f : Nat} : ∀ n j t d, t ≤ f → (lk Q f n j t d).err = 0 → t ≤ (lk Q f n j t d).ticks ∧ (lk Q f n j t d).ticks ≤ f ∧ (∀ f', (lk Q f n j t d).ticks ≤ f' → lk Q f' n j t d = lk Q f n j t d) ∧ ∀ f', t ≤ f' → f' < (lk Q f n j t d).ticks → (lk Q f' n j t d).err = 10
  | 0, _, t, d, ht, _ => ⟨Nat.le_refl _, ht, fun _ _ => rfl, fun f' h1 h2 => absurd (show f' < t from h2) (by omega)⟩
  | n + 1, j, t, d, ht, he => by
    by_cases hk : (frs (Q j).1 (Q j).2 f t d).k = 10
    · rw [lk, if_neg (by omega), if_neg (by omega), if_neg (by omega), if_neg (by omega)] at he
      cases he
    · obtain ⟨h1, h2, h4, h5⟩ := frs_fuel (Q j).1 (Q j).2 f t d (hQ j) hk ht
      have hdry : ∀ f', t ≤ f' → f' < (frs (Q j).1 (Q j).2 f t d).t → (lk Q f' (n + 1) j t d).err = 10 := fun f' ha hb => by
        have h6 := h5 f' ha hb
        rw [lk, if_neg (by omega), if_neg (by omega), if_neg (by omega), if_neg (by omega)]
      by_cases h3 : (frs (Q j).1 (Q j).2 f t d).k = 3
      · have e : lk Q f (n + 1) j t d = ⟨true, j, (frs (Q j).1 (Q j).2 f t d).a, (frs (Q j).1 (Q j).2 f t d).g, (frs (Q j).1 (Q j).2 f t d).t, (frs (Q j).1 (Q j).2 f t d).d, 0⟩ := by rw [lk, if_pos h3]
        rw [e]
        refine ⟨h1, h2, fun f' hf => ?_, hdry⟩
        have hf : (frs (Q j).1 (Q j).2 f t d).t ≤ f' := hf
        rw [lk, h4 f' hf, if_pos h3]
      · by_cases h0 : (frs (Q j).1 (Q j).2 f t d).k = 0
        · have e : lk Q f (n + 1) j t d = lk Q f n (j + 1) (frs (Q j).1 (Q j).2 f t d).t (frs (Q j).1 (Q j).2 f t d).d := by rw [lk, if_neg h3, if_pos h0]
          rw [e] at he ⊢
          obtain ⟨i1, i2, i4, i5⟩ := lk_fuel hQ n (j + 1) _ _ h2 he
          refine ⟨by omega, i2, fun f' hf => ?_, fun f' ha hb => ?_⟩
          · rw [lk, h4 f' (by omega), if_neg h3, if_pos h0]
            exact i4 f' hf
          · rcases Nat.lt_or_ge f' (frs (Q j).1 (Q j).2 f t d).t with q | q
            · exact hdry f' ha q
            · rw [lk, h4 f' q, if_neg h3, if_pos h0]
              exact i5 f' q hb
        · by_cases h7 : (frs (Q j).1 (Q j).2 f t d).k = 1
          · have e : lk Q f (n + 1) j t d = ⟨false, 0, 0, [], (frs (Q j).1 (Q j).2 f t d).t, (frs (Q j).1 (Q j).2 f t d).d, 0⟩ := by rw [lk, if_neg h3, if_neg h0, if_pos h7]
            rw [e]
            refine ⟨h1, h2, fun f' hf => ?_, hdry⟩
            have hf : (frs (Q j).1 (Q j).2 f t d).t ≤ f' := hf
            rw [lk, h4 f' hf, if_neg h3, if_neg h0, if_pos h7]
          · rw [lk, if_neg h3, if_neg h0, if_neg h7] at he
            exact absurd he (by dsimp only; split <;> decide)
/-- What is come to first, and the first way. -/
theorem frs_tld : ∀ (l : List Ev) (en f f0 t : Nat) (d : List Gft), t ≤ f → f - t ≤ f0 → (en = 3 → f < t + tks l) → (frs l en f t d).k ≠ 10 → ((frs l en f t d).k = 3 ∧ tld l en 1 f0 = ([((frs l en f t d).a, (frs l en f t d).g)], 0)) ∨ ((frs l en f t d).k ≠ 3 ∧ tld l en 1 f0 = ([], (frs l en f t d).k))
  | [], en, f, f0, t, d, ht, _, h3, _ => by
    right
    refine ⟨fun e => ?_, tld_nil en f0 (by decide)⟩
    have := h3 e
    exact absurd (show f < t + 0 from this) (by omega)
  | x :: l, en, f, f0, t, d, ht, hf, h3, hk => by
    rw [tks_cons] at h3
    by_cases w3 : x.w = 3
    · have e : frs (x :: l) en f t d = ⟨3, x.a, x.g, t, d⟩ := by rw [frs, if_pos w3]
      rw [e, tld, if_neg (by decide), if_pos w3, show (1 : Nat) - 1 = 0 from rfl, tld_zero]
      exact .inl ⟨rfl, rfl⟩
    · by_cases w0 : x.w = 0
      · have e : frs (x :: l) en f t d = if t = f then ⟨10, 0, [], t, d⟩ else frs l en f (t + 1) d := by rw [frs, if_neg w3, if_pos w0]
        have htf : ¬ t = f := fun q => by rw [e, if_pos q] at hk; exact hk rfl
        rw [e, if_neg htf] at hk ⊢
        rw [if_pos w0] at h3
        rw [tld, if_neg (by decide), if_neg w3, if_pos w0, if_neg (by omega)]
        exact frs_tld l en f (f0 - 1) (t + 1) d (by omega) (by omega) (fun q => by have := h3 q; omega) hk
      · rw [if_neg w0] at h3
        rw [tld, if_neg (by decide), if_neg w3, if_neg w0]
        by_cases w2 : x.w = 2
        · have e : frs (x :: l) en f t d = frs l en f t (d ++ x.g) := by rw [frs, if_neg w3, if_neg w0, if_pos w2]
          rw [e] at hk ⊢
          exact frs_tld l en f f0 t (d ++ x.g) ht hf (fun q => by have := h3 q; omega) hk
        · have e : frs (x :: l) en f t d = frs l en f t d := by rw [frs, if_neg w3, if_neg w0, if_neg w2]
          rw [e] at hk ⊢
          exact frs_tld l en f f0 t d ht hf (fun q => by have := h3 q; omega) hk
end
/-- What one place tells, by itself and on the way. -/
theorem ways_one {RL : List (ByteArray × PT)} {dg : Nat → ByteArray} {T : PT} {s : ByteArray} {j t f : Nat} {d : List Gft} (hw : wrongR RL T s f = 0) (hj : j ≤ s.size) (ht : t ≤ f) (n : Nat) (he : (lk (fun j => D s (fun nm => ruleOf nm RL) dg (f + 1) T j []) f (n + 1) j t d).err = 0) :
    (∃ a g t' d', lk (fun j => D s (fun nm => ruleOf nm RL) dg (f + 1) T j []) f (n + 1) j t d = ⟨true, j, a, g, t', d', 0⟩ ∧ waysOf RL dg T s j 1 f = ([(a, g)], false, 0)) ∨
    (∃ t' d', t' ≤ f ∧ lk (fun j => D s (fun nm => ruleOf nm RL) dg (f + 1) T j []) f (n + 1) j t d = lk (fun j => D s (fun nm => ruleOf nm RL) dg (f + 1) T j []) f n (j + 1) t' d' ∧ waysOf RL dg T s j 1 f = ([], false, 0)) ∨
    (∃ t' d', lk (fun j => D s (fun nm => ruleOf nm RL) dg (f + 1) T j []) f (n + 1) j t d = ⟨false, 0, 0, [], t', d', 0⟩ ∧ waysOf RL dg T s j 1 f = ([], true, 0)) := by
  obtain ⟨q, hq⟩ : ∃ q, q = D s (fun nm => ruleOf nm RL) dg (f + 1) T j [] := ⟨_, rfl⟩
  have hend := D_end (s := s) (R := fun nm => ruleOf nm RL) (dg := dg) (f + 1) T j []
  have hdp := D_dp s (fun nm => ruleOf nm RL) dg (f + 1) T j []
  have hwy : ∀ L e, tld q.1 q.2 1 f = (L, e) → waysOf RL dg T s j 1 f = if e = 10 then ([], false, 10) else if e = 2 then ([], false, 7) else (L, decide (e = 1), 0) := fun L e h => by
    have h1 : told RL dg T s j 1 f = (L, e) := by unfold told; rw [← hq]; exact h
    unfold waysOf
    rw [if_neg (by rw [hw]; simp), if_neg (by omega), Int.toNat_natCast, Int.toNat_natCast, show (1 : Int).toNat = 1 from rfl, h1]
  rw [← hq] at hend hdp
  rw [lk] at he ⊢
  rw [← hq] at he ⊢
  by_cases k10 : (frs q.1 q.2 f t d).k = 10
  · rw [if_neg (by omega), if_neg (by omega), if_neg (by omega), if_neg (by omega)] at he
    cases he
  · obtain ⟨h1, h2, -, -⟩ := frs_fuel q.1 q.2 f t d (by omega) k10 ht
    rcases frs_tld q.1 q.2 f f t d ht (by omega) (fun e => by have := hdp e; omega) k10 with ⟨k3, h⟩ | ⟨k3, h⟩
    · rw [if_pos k3]
      exact .inl ⟨_, _, _, _, rfl, by rw [hwy _ _ h]; rfl⟩
    · rw [if_neg k3] at he ⊢
      by_cases k0 : (frs q.1 q.2 f t d).k = 0
      · rw [if_pos k0]
        exact .inr (.inl ⟨_, _, h2, rfl, by rw [hwy _ _ h, k0]; rfl⟩)
      · rw [if_neg k0] at he ⊢
        by_cases k1 : (frs q.1 q.2 f t d).k = 1
        · rw [if_pos k1]
          exact .inr (.inr ⟨_, _, rfl, by rw [hwy _ _ h, k1]; rfl⟩)
        · rw [if_neg k1] at he
          exact absurd he (by dsimp only; split <;> decide)
/-- What Match tells with other fuel. -/
theorem match_fuel {RL : List (ByteArray × PT)} {dg : Nat → ByteArray} {T : PT} {s : ByteArray} {last f : Nat} (h : (matchOf RL dg T s last f).err = 0) :
    (matchOf RL dg T s last f).ticks ≤ f ∧ (∀ f', (matchOf RL dg T s last f).ticks ≤ f' → matchOf RL dg T s last f' = matchOf RL dg T s last f) ∧ ∀ f', f' < (matchOf RL dg T s last f).ticks → (matchOf RL dg T s last f').err = 10 := by
  have hd : ∀ f', matchOf RL dg T s last f' = lk (fun j => D s (fun nm => ruleOf nm RL) dg (f + f' + 1) T j []) f' (last + 1) 0 0 [] := fun f' => (lk_depth (by omega) _ _ _ _ (Nat.zero_le _)).symm
  have hQ : ∀ N j, ((fun j => D s (fun nm => ruleOf nm RL) dg N T j []) j).2 ≠ 10 := fun N j => D_end10 N T j []
  have hself : ∀ f', matchOf RL dg T s last f = lk (fun j => D s (fun nm => ruleOf nm RL) dg (f + f' + 1) T j []) f (last + 1) 0 0 [] := fun f' => (lk_depth (by omega) _ _ _ _ (Nat.zero_le _)).symm
  refine ⟨?_, fun f' hf => ?_, fun f' hf => ?_⟩
  · have := lk_fuel (hQ (f + 1)) (last + 1) 0 0 [] (Nat.zero_le f) h
    exact this.2.1
  · rw [hd f', hself f']
    rw [hself f'] at h hf
    exact (lk_fuel (hQ _) (last + 1) 0 0 [] (Nat.zero_le f) h).2.2.1 f' hf
  · rw [hd f']
    rw [hself f'] at h hf
    exact (lk_fuel (hQ _) (last + 1) 0 0 [] (Nat.zero_le f) h).2.2.2 f' (Nat.zero_le _) hf
/-- At least one coming. -/
theorem match_ticks {RL : List (ByteArray × PT)} {dg : Nat → ByteArray} {T : PT} {s : ByteArray} {last f : Nat} (h : (matchOf RL dg T s last f).err = 0) : 1 ≤ (matchOf RL dg T s last f).ticks := by
  rcases Nat.eq_zero_or_pos (matchOf RL dg T s last f).ticks with q | q
  · have h0 := (match_fuel h).2.1 0 (by omega)
    rw [← h0] at h
    unfold matchOf at h
    obtain ⟨p, hp⟩ := D_tk s (fun nm => ruleOf nm RL) dg 0 T 0 []
    rw [lk] at h
    rw [hp] at h
    have hd : frs (put tk p).1 (put tk p).2 0 0 [] = ⟨10, 0, [], 0, []⟩ := frs_dry p.1 p.2 0 []
    rw [hd, if_neg (by decide), if_neg (by decide), if_neg (by decide)] at h
    exact absurd h (by decide)
  · exact q
end Go.Proofs.YtomemdepphnacaaDoor
