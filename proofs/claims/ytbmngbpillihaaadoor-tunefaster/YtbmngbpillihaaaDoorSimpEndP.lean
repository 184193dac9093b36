/- What is simpler has the same ways, and is found no later. -/
import Derived.Test.YtbmngbpillihaaaDoorSimpQuickM
import Derived.Test.YtbmngbpillihaaaDoorSimpCanM
import Derived.Test.YtbmngbpillihaaaDoorScanMatchAP
import Derived.Test.YtbmngbpillihaaaDoorLongPlainP
namespace Go.Proofs.YtbmngbpillihaaaDoor
open Go.RowKit

theorem nul_can : PT.nul.can = PT.nul := by
  rw [PT.can_eq]
  unfold mkP PT.nul
  congr 1
  funext i
  exact i.elim0
theorem kid_can (T : PT) (j : Nat) : T.can.kid j = (T.kid j).can := by
  by_cases h : j < T.len
  · have h1 := PT.lst_at (T := T.can) (i := j) (by rw [can_len]; exact h)
    rw [can_lst, List.getElem?_map, PT.lst_at h] at h1
    exact (Option.some.inj h1).symm
  · unfold PT.kid
    rw [dif_neg h, dif_neg (by rw [can_len]; exact h), nul_can]
section
variable {s : ByteArray} {R : ByteArray → Option PT} {dg : Nat → ByteArray}
section
variable {f : PT → Nat → List Gft → Sq} (hf : ∀ T i g, f T.can i g = f T i g) (T : PT)
theorem cats_can (hf : ∀ T i g, f T.can i g = f T i g) : ∀ m j i g, cats f T.can m j i g = cats f T m j i g
  | 0, j, i, g => by rw [cats, cats, kid_can, hf]
  | m + 1, j, i, g => by
    rw [cats, cats, kid_can, hf]
    exact bd_congr _ fun e g' => by rw [cats_can hf m (j + 1) e g']
theorem alts_can (hf : ∀ T i g, f T.can i g = f T i g) (i : Nat) (g : List Gft) : ∀ m j, alts f T.can i g m j = alts f T i g m j
  | 0, _ => rfl
  | m + 1, j => by rw [alts, alts, kid_can, hf, alts_can hf i g m (j + 1)]
theorem agn_can (hf : ∀ T i g, f T.can i g = f T i g) : ∀ m i g, agn f T.can m i g = agn f T m i g
  | 0, _, _ => rfl
  | m + 1, i, g => by
    rw [agn, agn, kid_can, hf]
    refine congrArg (fun z => put (wy i g) (put hs z)) (bd_congr _ fun e g' => ?_)
    rw [agn_can hf m e g']
end
theorem D_can : ∀ n T i g, D s R dg n (PT.can T) i g = D s R dg n T i g
  | 0, _, _, _ => rfl
  | n + 1, T, i, g => by
    have ih := D_can n
    have ho : onl s T.can i = onl s T i := by unfold onl; rw [can_k, can_t, can_n]
    rw [D, D, can_k, can_t, can_nm, can_len, kid_can, ih, cats_can T ih, alts_can T ih, agn_can T ih, ho]
end

theorem wrongR_simp {RL : List (ByteArray × PT)} {T U : PT} {s : ByteArray} {f : Int} (h : wrongR RL T s f = 0) (hU : U.wrong = 0) : wrongR RL U s f = 0 := by
  obtain ⟨q1, q2, q3, q4, q5⟩ := wrongR_ok h
  unfold wrongR
  rw [if_neg (by rw [hU]; simp), if_neg (by rw [q2]; simp), if_neg (by omega), if_neg (by omega)]
theorem frs_quick {c f : Nat} {p r : List Ev} (h : Fas c p r) : ∀ t t' d rest en en', t' + c ≤ t → t ≤ f → (frs p en f t d).k ≠ 10 →
    (∃ a g t1 t2 d1, frs p en f t d = ⟨3, a, g, t1, d1⟩ ∧ frs (r ++ rest) en' f t' d = ⟨3, a, g, t2, d1⟩ ∧ t2 ≤ t1 ∧ t1 ≤ f) ∨ (∃ t1 t2 d1, frs p en f t d = ⟨en, 0, [], t1, d1⟩ ∧ t1 = t + tks p ∧ t1 ≤ f ∧ t2 ≤ t1 ∧ frs (r ++ rest) en' f t' d = frs rest en' f t2 d1) := by
  refine fas_ind (P := fun c p r => ∀ t t' d rest en en', t' + c ≤ t → t ≤ f → (frs p en f t d).k ≠ 10 →
    (∃ a g t1 t2 d1, frs p en f t d = ⟨3, a, g, t1, d1⟩ ∧ frs (r ++ rest) en' f t' d = ⟨3, a, g, t2, d1⟩ ∧ t2 ≤ t1 ∧ t1 ≤ f) ∨ (∃ t1 t2 d1, frs p en f t d = ⟨en, 0, [], t1, d1⟩ ∧ t1 = t + tks p ∧ t1 ≤ f ∧ t2 ≤ t1 ∧ frs (r ++ rest) en' f t' d = frs rest en' f t2 d1)) ?_ ?_ ?_ ?_ ?_ ?_ _ p r c (Nat.le_refl _) h
  · intro c t t' d rest en en' h1 h2 _
    exact .inr ⟨t, t', d, rfl, rfl, h2, by omega, rfl⟩
  · intro c x p q hx ih t t' d rest en en' h1 h2 hk
    have e : frs (x :: p) en f t d = if t = f then ⟨10, 0, [], t, d⟩ else frs p en f (t + 1) d := by rw [frs, if_neg (by omega), if_pos hx]
    rw [e] at hk ⊢
    by_cases hf : t = f
    · rw [if_pos hf] at hk
      exact absurd rfl hk
    · rw [if_neg hf] at hk ⊢
      rcases ih (t + 1) t' d rest en en' (by omega) (by omega) hk with hl | ⟨t1, t2, d1, a1, a2, a3, a4, a5⟩
      · exact .inl hl
      · exact .inr ⟨t1, t2, d1, a1, by rw [tks_cons, if_pos hx]; omega, a3, a4, a5⟩
  · intro c x p q hx ih t t' d rest en en' h1 h2 hk
    have e : frs (x :: q ++ rest) en' f t' d = frs (q ++ rest) en' f (t' + 1) d := by
      rw [List.cons_append, frs, if_neg (by omega), if_pos hx, if_neg (by omega)]
    rw [e]
    exact ih t (t' + 1) d rest en en' (by omega) h2 hk
  · intro c x p q h0 hx ih t t' d rest en en' h1 h2 hk
    have h3 : ¬ x.w = 3 := fun h => by unfold vis at hx; rw [h] at hx; cases hx
    have h4 : ¬ x.w = 2 := fun h => by unfold vis at hx; rw [h] at hx; cases hx
    have e : frs (x :: p) en f t d = frs p en f t d := by rw [frs, if_neg h3, if_neg h0, if_neg h4]
    rw [e] at hk ⊢
    rcases ih t t' d rest en en' h1 h2 hk with hl | ⟨t1, t2, d1, a1, a2, a3, a4, a5⟩
    · exact .inl hl
    · exact .inr ⟨t1, t2, d1, a1, by rw [tks_cons, if_neg h0]; omega, a3, a4, a5⟩
  · intro c x p q h0 hx ih t t' d rest en en' h1 h2 hk
    have h3 : ¬ x.w = 3 := fun h => by unfold vis at hx; rw [h] at hx; cases hx
    have h4 : ¬ x.w = 2 := fun h => by unfold vis at hx; rw [h] at hx; cases hx
    have e : frs (x :: q ++ rest) en' f t' d = frs (q ++ rest) en' f t' d := by rw [List.cons_append, frs, if_neg h3, if_neg h0, if_neg h4]
    rw [e]
    exact ih t t' d rest en en' h1 h2 hk
  · intro c x p q hx ih t t' d rest en en' h1 h2 hk
    by_cases h3 : x.w = 3
    · exact .inl ⟨x.a, x.g, t, t', d, by rw [frs, if_pos h3], by rw [List.cons_append, frs, if_pos h3], by omega, h2⟩
    · have h0 := vis_ne hx
      have h4 : x.w = 2 := by
        unfold vis at hx
        rw [Bool.or_eq_true, beq_iff_eq, beq_iff_eq] at hx
        omega
      have e : frs (x :: p) en f t d = frs p en f t (d ++ x.g) := by rw [frs, if_neg h3, if_neg h0, if_pos h4]
      have e' : frs (x :: q ++ rest) en' f t' d = frs (q ++ rest) en' f t' (d ++ x.g) := by rw [List.cons_append, frs, if_neg h3, if_neg h0, if_pos h4]
      rw [e] at hk ⊢
      rw [e']
      rcases ih t t' (d ++ x.g) rest en en' h1 h2 hk with hl | ⟨t1, t2, d1, a1, a2, a3, a4, a5⟩
      · exact .inl hl
      · exact .inr ⟨t1, t2, d1, a1, by rw [tks_cons, if_neg h0]; omega, a3, a4, a5⟩
structure NoLater (a b : MR) : Prop where
  found : b.found = a.found
  fr : b.fr = a.fr
  til : b.to = a.to
  given : b.G = a.G
  told : b.told = a.told
  ticks : b.ticks ≤ a.ticks
  err : b.err = 0
theorem lk_quick {Q Q' : Nat → Sq} {f sz : Nat} (h : ∀ j, j ≤ sz → Qk 0 (Q j) (Q' j)) (h3 : ∀ j, (Q j).2 = 3 → f < tks (Q j).1) (he : ∀ j, (Q j).2 ≤ 3) : ∀ n j t t' d, j + n ≤ sz + 1 → t' ≤ t → t ≤ f → (lk Q f n j t d).err = 0 → NoLater (lk Q f n j t d) (lk Q' f n j t' d)
  | 0, _, _, _, _, _, ht, _, _ => ⟨rfl, rfl, rfl, rfl, rfl, ht, rfl⟩
  | n + 1, j, t, t', d, hj, ht, htf, hr => by
    obtain ⟨r, rest, e1, f1, g1⟩ := h j (by omega)
    have hk : (frs (Q j).1 (Q j).2 f t d).k ≠ 10 := fun h10 => by
      rw [lk, if_neg (by omega), if_neg (by omega), if_neg (by omega)] at hr
      exact absurd hr (by show ¬ (ite _ _ _ : Int) = 0; split <;> decide)
    have key := frs_quick f1 t t' d rest (Q j).2 (Q' j).2 (by omega) htf hk
    rw [← e1] at key
    rcases key with ⟨a, g, t1, t2, d1, a1, a2, a3, -⟩ | ⟨t1, t2, d1, a1, a2, a3, a4, a5⟩
    · rw [lk_found a1, lk_found a2]
      exact ⟨rfl, rfl, rfl, rfl, rfl, a3, rfl⟩
    · have hn3 : (Q j).2 ≠ 3 := fun q => by have := h3 j q; omega
      obtain ⟨rfl, hen⟩ := g1 hn3
      rw [hen] at a5
      have a6 : frs (Q' j).1 (Q' j).2 f t' d = ⟨(Q j).2, 0, [], t2, d1⟩ := by rw [hen]; exact a5
      have hle := he j
      have hcase : (Q j).2 = 0 ∨ (Q j).2 = 1 ∨ (Q j).2 = 2 := by omega
      rcases hcase with q | q | q
      · rw [q] at a1 a6
        have b1 : frs (Q j).1 (Q j).2 f t d = ⟨0, 0, [], t1, d1⟩ := by rw [q]; exact a1
        rw [lk_none b1] at hr ⊢
        rw [lk_none a6]
        exact lk_quick h h3 he n (j + 1) t1 t2 d1 (by omega) a4 a3 hr
      · rw [q] at a1 a6
        have b1 : frs (Q j).1 (Q j).2 f t d = ⟨1, 0, [], t1, d1⟩ := by rw [q]; exact a1
        rw [lk_shut b1, lk_shut a6]
        exact ⟨rfl, rfl, rfl, rfl, rfl, a4, rfl⟩
      · rw [q] at a1
        have b1 : frs (Q j).1 (Q j).2 f t d = ⟨2, 0, [], t1, d1⟩ := by rw [q]; exact a1
        rw [lk_lost b1] at hr
        exact absurd hr (by show ¬ (7 : Int) = 0; decide)
theorem match_simp {RL : List (ByteArray × PT)} {dg : Nat → ByteArray} {T U : PT} {s : ByteArray} {an : Bool} {f : Int} (hU : U.can = T.simp) (hUw : U.wrong = 0) (h : (matchSaid RL dg T s an f).err = 0) : NoLater (matchSaid RL dg T s an f) (matchSaid RL dg U s an f) := by
  by_cases hw : wrongR RL T s f = 0
  · have e : matchSaid RL dg T s an f = matchOf RL dg T s (if an = true then 0 else s.size) f.toNat := by unfold matchSaid; rw [if_neg (by rw [hw]; simp)]
    have e' : matchSaid RL dg U s an f = matchOf RL dg U s (if an = true then 0 else s.size) f.toNat := by unfold matchSaid; rw [if_neg (by rw [wrongR_simp hw hUw]; simp)]
    rw [e] at h
    rw [e, e']
    obtain ⟨q1, q2, q3, q4, q5⟩ := wrongR_ok hw
    refine lk_quick (sz := s.size) (fun j hj => ?_) (fun j hj => ?_) (fun j => D_end _ _ _ _) _ 0 0 0 [] (by split <;> omega) (Nat.le_refl _) (Nat.zero_le _) h
    · have hq := simp_quick (s := s) (R := fun nm => ruleOf nm RL) (dg := dg) T (right_of q1).1 (f.toNat + 1) j [] hj
      rw [← hU, D_can] at hq
      exact hq
    · have := D_dp s (fun nm => ruleOf nm RL) dg (f.toNat + 1) T j [] hj
      show f.toNat < _
      omega
  · have e : matchSaid RL dg T s an f = ⟨false, 0, 0, [], 0, [], wrongR RL T s f⟩ := by unfold matchSaid; rw [if_pos hw]
    rw [e] at h
    exact absurd h hw
end Go.Proofs.YtbmngbpillihaaaDoor
