/- What is written is read: a set's text read is the set. Plain lists, no Go text. -/
import Derived.Test.YtgamnhmkimonnaaRead
import Derived.Test.YtgamnhmkimonnaaPrint
import Derived.Test.YtgamnhmkimonnaaText
import Derived.Test.YtgamnhmkimonnaaOf
namespace Go.Proofs.Ytgamnhmkimonnaa

/-- The number at a place of a list of bytes; nought behind its end. -/
def cl (l : List UInt8) (i : Nat) : Nat := (l.getD i 0).toNat
theorem ch_mk (l : List UInt8) : ch ⟨l.toArray⟩ = cl l := by
  funext i
  unfold ch cl
  rfl
theorem cl_skip (a l : List UInt8) (i : Nat) : cl (a ++ l) (a.length + i) = cl l i := by
  unfold cl
  rw [List.getD_eq_getElem?_getD, List.getD_eq_getElem?_getD, List.getElem?_append_right (by omega)]
  congr 3
  omega
theorem cl_in (a l : List UInt8) (i : Nat) (h : i < a.length) : cl (a ++ l) i = cl a i := by
  unfold cl
  rw [List.getD_eq_getElem?_getD, List.getD_eq_getElem?_getD, List.getElem?_append_left h]
theorem hexDig_hex : ∀ n : Fin 16, hexN (hexDig n.val).toNat = true ∧ hexVal (hexDig n.val).toNat = n.val := by decide +kernel
theorem sp_pos (b : Nat) : 0 < (sp b).length := by
  unfold sp
  split <;> simp
/-- A byte that is written, read. -/
theorem rb_sp (pre rest : List UInt8) (b : Nat) (hb : b < 256) : rb (cl (pre ++ (sp b ++ rest))) pre.length = (true, b, pre.length + (sp b).length) := by
  have hk : ∀ j, cl (pre ++ (sp b ++ rest)) (pre.length + j) = cl (sp b ++ rest) j := fun j => cl_skip pre _ j
  have h0 := hk 0
  have h1 := hk 1
  have h2 := hk 2
  rw [Nat.add_zero] at h0
  cases hp : plainN b with
  | true =>
    have hs : sp b = [UInt8.ofNat b] := by unfold sp; rw [if_pos hp]
    have hc : cl (sp b ++ rest) 0 = b := by
      rw [hs]
      show (UInt8.ofNat b).toNat = b
      rw [UInt8.toNat_ofNat', Nat.mod_eq_of_lt hb]
    rw [hc] at h0
    unfold rb
    rw [h0, if_pos hp, hs]
    rfl
  | false =>
    have hs : sp b = [92, hexDig (b / 16), hexDig (b % 16)] := by unfold sp; rw [hp]; rfl
    have x0 : cl (sp b ++ rest) 0 = 92 := by rw [hs]; rfl
    have x1 : cl (sp b ++ rest) 1 = (hexDig (b / 16)).toNat := by rw [hs]; rfl
    have x2 : cl (sp b ++ rest) 2 = (hexDig (b % 16)).toNat := by rw [hs]; rfl
    rw [x0] at h0
    rw [x1] at h1
    rw [x2] at h2
    have d1 := hexDig_hex ⟨b / 16, by omega⟩
    have d2 := hexDig_hex ⟨b % 16, by omega⟩
    simp only at d1 d2
    unfold rb
    rw [h0, h1, h2, d1.1, d2.1, d1.2, d2.2, plain_92, if_neg (by decide), if_neg (by decide), if_neg (by decide), if_neg (by decide), hs]
    have : 16 * (b / 16) + b % 16 = b := by omega
    rw [this]
    rfl
/-- No byte is written with a sign ahead that means something else. -/
theorem sp_head (b : Nat) (rest : List UInt8) (hb : b < 256) : cl (sp b ++ rest) 0 ≠ 45 ∧ cl (sp b ++ rest) 0 ≠ 94 := by
  cases hp : plainN b with
  | true =>
    have hs : sp b = [UInt8.ofNat b] := by unfold sp; rw [if_pos hp]
    have hc : cl (sp b ++ rest) 0 = b := by
      rw [hs]
      show (UInt8.ofNat b).toNat = b
      rw [UInt8.toNat_ofNat', Nat.mod_eq_of_lt hb]
    rw [hc]
    have := of_decide_eq_true hp
    omega
  | false =>
    have hs : sp b = [92, hexDig (b / 16), hexDig (b % 16)] := by unfold sp; rw [hp]; rfl
    have x0 : cl (sp b ++ rest) 0 = 92 := by rw [hs]; rfl
    rw [x0]
    omega
/-- A byte alone, read as a run. -/
theorem rr_one (pre rest : List UInt8) (b : Nat) (hb : b < 256) (hr : cl rest 0 ≠ 45) : rr (cl (pre ++ (sp b ++ rest))) pre.length = (b, b, pre.length + (sp b).length, 0, 0) := by
  have h1 := rb_sp pre rest b hb
  have hn : cl (pre ++ (sp b ++ rest)) (pre.length + (sp b).length) = cl rest 0 := by
    rw [cl_skip, ← cl_skip (sp b) rest 0]
    rfl
  unfold rr
  rw [h1]
  simp only
  rw [if_neg (by decide), hn, if_pos hr]
/-- A run of two ends, read. -/
theorem rr_two (pre rest : List UInt8) (a z : Nat) (ha : a < 256) (hz : z < 256) (haz : a ≤ z) : rr (cl (pre ++ (sp a ++ ([45] ++ (sp z ++ rest))))) pre.length = (a, z, pre.length + (sp a ++ ([45] ++ sp z)).length, 0, 0) := by
  have h1 := rb_sp pre ([45] ++ (sp z ++ rest)) a ha
  have hn : cl (pre ++ (sp a ++ ([45] ++ (sp z ++ rest)))) (pre.length + (sp a).length) = 45 := by
    rw [cl_skip]
    have := cl_skip (sp a) ([45] ++ (sp z ++ rest)) 0
    rw [Nat.add_zero] at this
    rw [this]
    rfl
  have h2 := rb_sp (pre ++ (sp a ++ [45])) rest z hz
  have e1 : (pre ++ (sp a ++ [45])) ++ (sp z ++ rest) = pre ++ (sp a ++ ([45] ++ (sp z ++ rest))) := by simp
  have e2 : (pre ++ (sp a ++ [45])).length = pre.length + (sp a).length + 1 := by simp; omega
  rw [e1, e2] at h2
  unfold rr
  rw [h1]
  simp only
  rw [if_neg (by decide), hn, if_neg (by decide), h2]
  simp only
  rw [if_neg (by decide), if_neg (by omega)]
  have e3 : pre.length + (sp a).length + 1 + (sp z).length = pre.length + (sp a ++ ([45] ++ sp z)).length := by simp; omega
  rw [e3]
theorem len_app (a b : List UInt8) : (a ++ b).length = a.length + b.length := List.length_append
theorem pr_succ (p : Nat → Bool) (f b : Nat) : pr p (f + 1) b = if b < 256 then if p b then runT b (re p 256 b) ++ pr p f (re p 256 b + 1) else pr p f (b + 1) else [] := rfl
theorem re_all (p : Nat → Bool) : ∀ f b x, b < x → x ≤ re p f b → p x = true
  | 0, b, x, h1, h2 => by exact absurd h2 (by unfold re; omega)
  | f + 1, b, x, h1, h2 => by
    rw [re_succ] at h2
    split at h2
    · rename_i hc
      simp at hc
      by_cases e : x = b + 1
      · rw [e]; exact hc.2
      · exact re_all p f (b + 1) x (by omega) h2
    · omega
theorem pr_head (p : Nat → Bool) : ∀ f b, cl (pr p f b) 0 ≠ 45 ∧ cl (pr p f b) 0 ≠ 94
  | 0, b => by unfold pr cl; decide
  | f + 1, b => by
    unfold pr
    split
    · rename_i hb
      split
      · unfold runT
        rw [List.append_assoc]
        exact sp_head b _ hb
      · exact pr_head p f (b + 1)
    · unfold cl; decide
/-- One run read: the rest goes on behind it. -/
theorem rd_step (c : Nat → Nat) (n g i a z m : Nat) (q : Nat → Bool) (hr : rr c i = (a, z, m, 0, 0)) (hi : i < n) : rd c n (g + 1) i q = rd c n g m (fun x => q x || (decide (a ≤ x) && decide (x ≤ z))) := by
  conv => lhs; unfold rd
  rw [if_pos hi, hr]
  simp
theorem rd_pr (p : Nat → Bool) : ∀ (f b : Nat) (pre : List UInt8) (q : Nat → Bool) (g : Nat), 256 ≤ f + b → (∀ x, x < 256 → q x = (p x && decide (x < b))) → (pr p f b).length ≤ g →
    ∃ q', rd (cl (pre ++ pr p f b)) (pre ++ pr p f b).length g pre.length q = (0, 0, q') ∧ ∀ x, x < 256 → q' x = p x := by
  have done : ∀ (b : Nat) (pre : List UInt8) (q : Nat → Bool) (g : Nat), 256 ≤ b → (∀ x, x < 256 → q x = (p x && decide (x < b))) → ∃ q', rd (cl (pre ++ [])) (pre ++ []).length g pre.length q = (0, 0, q') ∧ ∀ x, x < 256 → q' x = p x := by
    intro b pre q g hb hq
    refine ⟨q, ?_, fun x hx => ?_⟩
    · rw [List.append_nil]
      exact rd_end _ _ _ _
    · rw [hq x hx, decide_eq_true (by omega), Bool.and_true]
  intro f
  induction f with
  | zero =>
    intro b pre q g hf hq _
    exact done b pre q g (by omega) hq
  | succ f ih =>
    intro b pre q g hf hq hg
    by_cases hb : b < 256
    · cases hp : p b with
      | false =>
        have e : pr p (f + 1) b = pr p f (b + 1) := by rw [pr_succ, if_pos hb, hp]; rfl
        rw [e] at hg ⊢
        refine ih (b + 1) pre q g (by omega) (fun x hx => ?_) hg
        rw [hq x hx]
        by_cases hxb : x = b
        · subst hxb; rw [hp]; rfl
        · have : decide (x < b + 1) = decide (x < b) := by simp only [decide_eq_decide]; omega
          rw [this]
      | true =>
        have e : pr p (f + 1) b = runT b (re p 256 b) ++ pr p f (re p 256 b + 1) := by rw [pr_succ, if_pos hb, hp]; rfl
        rw [e] at hg ⊢
        have hge := re_ge p 256 b
        have hlt := re_lt p 256 b hb
        have hall : ∀ x, b ≤ x → x ≤ re p 256 b → p x = true := fun x h1 h2 => by
          by_cases hx : x = b
          · rw [hx]; exact hp
          · exact re_all p 256 b x (by omega) h2
        generalize re p 256 b = z at *
        have hh := (pr_head p f (z + 1)).1
        generalize hrest : pr p f (z + 1) = rest at *
        have hadd : ∀ q1 : Nat → Bool, (∀ x, x < 256 → q1 x = (q x || (decide (b ≤ x) && decide (x ≤ z)))) → ∀ x, x < 256 → q1 x = (p x && decide (x < z + 1)) := by
          intro q1 h1 x hx
          rw [h1 x hx, hq x hx]
          by_cases c1 : b ≤ x
          · by_cases c2 : x ≤ z
            · rw [hall x c1 c2, decide_eq_true c1, decide_eq_true c2, decide_eq_true (show x < z + 1 by omega)]; simp
            · rw [decide_eq_false c2, decide_eq_false (show ¬ x < b by omega), decide_eq_false (show ¬ x < z + 1 by omega)]; simp
          · rw [decide_eq_false c1, decide_eq_true (show x < b by omega), decide_eq_true (show x < z + 1 by omega)]; simp
        by_cases hz0 : z = b
        · subst hz0
          have er : runT z z = sp z := by unfold runT; rw [if_neg (by omega), if_neg (by omega)]; simp
          rw [er] at hg ⊢
          have hs := sp_pos z
          rw [List.length_append] at hg
          obtain ⟨g, rfl⟩ : ∃ k, g = k + 1 := ⟨g - 1, by omega⟩
          rw [rd_step _ _ _ _ _ _ _ _ (rr_one pre rest z hb hh) (by simp; omega)]
          have k := ih (z + 1) (pre ++ sp z) (fun x => q x || (decide (z ≤ x) && decide (x ≤ z))) g (by omega) (hadd _ fun x _ => rfl)
          rw [hrest] at k
          have k2 := k (by omega)
          rw [List.append_assoc, len_app pre (sp z)] at k2
          exact k2
        · by_cases hz1 : z = b + 1
          · subst hz1
            have er : runT b (b + 1) = sp b ++ sp (b + 1) := by unfold runT; rw [if_neg (by omega), if_pos (by omega)]; simp
            rw [er] at hg ⊢
            have hs := sp_pos b
            have hs2 := sp_pos (b + 1)
            rw [List.length_append, List.length_append] at hg
            obtain ⟨g, rfl⟩ : ∃ k, g = k + 1 + 1 := ⟨g - 2, by omega⟩
            have h1 := rr_one pre (sp (b + 1) ++ rest) b hb (sp_head (b + 1) rest hlt).1
            rw [List.append_assoc, rd_step _ _ _ _ _ _ _ _ h1 (by simp; omega)]
            have h2 := rr_one (pre ++ sp b) rest (b + 1) hlt hh
            rw [List.append_assoc, len_app pre (sp b)] at h2
            rw [rd_step _ _ _ _ _ _ _ _ h2 (by simp; omega)]
            have k := ih (b + 1 + 1) ((pre ++ sp b) ++ sp (b + 1)) (fun x => (q x || (decide (b ≤ x) && decide (x ≤ b))) || (decide (b + 1 ≤ x) && decide (x ≤ b + 1))) g (by omega) (hadd _ fun x _ => by
              rw [Bool.or_assoc]
              congr 1
              by_cases c1 : x = b
              · subst c1; simp
              · by_cases c2 : x = b + 1
                · subst c2; simp
                · have d1 : (decide (b ≤ x) && decide (x ≤ b)) = false := by rw [Bool.and_eq_false_iff, decide_eq_false_iff_not, decide_eq_false_iff_not]; omega
                  have d2 : (decide (b + 1 ≤ x) && decide (x ≤ b + 1)) = false := by rw [Bool.and_eq_false_iff, decide_eq_false_iff_not, decide_eq_false_iff_not]; omega
                  have d3 : (decide (b ≤ x) && decide (x ≤ b + 1)) = false := by rw [Bool.and_eq_false_iff, decide_eq_false_iff_not, decide_eq_false_iff_not]; omega
                  rw [d1, d2, d3]; rfl)
            rw [hrest] at k
            have k2 := k (by omega)
            rw [List.append_assoc, List.append_assoc, len_app (pre ++ sp b) (sp (b + 1)), len_app pre (sp b)] at k2
            exact k2
          · have er : runT b z = sp b ++ ([45] ++ sp z) := by unfold runT; rw [if_pos (by omega), if_pos (by omega)]
            rw [er] at hg ⊢
            have hs := sp_pos b
            have e3 : (sp b ++ ([45] ++ sp z)) ++ rest = sp b ++ ([45] ++ (sp z ++ rest)) := by simp
            have hlen : 0 < (sp b ++ ([45] ++ sp z)).length := by rw [List.length_append]; omega
            have h1 := rr_two pre rest b z hb hlt hge
            rw [← e3] at h1
            generalize sp b ++ ([45] ++ sp z) = X at *
            rw [List.length_append] at hg
            obtain ⟨g, rfl⟩ : ∃ k, g = k + 1 := ⟨g - 1, by omega⟩
            rw [rd_step _ _ _ _ _ _ _ _ h1 (by simp; omega)]
            have k := ih (z + 1) (pre ++ X) (fun x => q x || (decide (b ≤ x) && decide (x ≤ z))) g (by omega) (hadd _ fun x _ => rfl)
            rw [hrest] at k
            have k2 := k (by omega)
            rw [List.append_assoc, len_app pre X] at k2
            exact k2
    · have e : pr p (f + 1) b = [] := by unfold pr; rw [if_neg hb]
      rw [e]
      exact done b pre q g (by omega) hq
end Go.Proofs.Ytgamnhmkimonnaa
