/- The document's Check is the checker's, plain. -/
import Derived.Test.YtpphjddljngkmaaDoorRefChP0M
import Derived.Test.YtpphjddljngkmaaDoorCkReachP
namespace Go.Proofs.YtpphjddljngkmaaDoor
open Go.RowKit

theorem by_eq {a b : ByteArray} : (a.toList == b.toList) = decide (a = b) := by
  by_cases h : a = b
  · subst h
    rw [decide_eq_true rfl]
    exact beq_self_eq_true _
  · rw [decide_eq_false h, beq_eq_false_iff_ne]
    intro e
    rw [ByteArray.toList_eq, ByteArray.toList_eq] at e
    exact h (ByteArray.ext (Array.toList_inj.1 e))
theorem rFst_le {f : SV → Bool} : ∀ (l : List SV) (k i : Nat) (S : SV), l[i]? = some S → f S = true → (k : Int) ≤ rFst f l k ∧ rFst f l k ≤ ((k + i : Nat) : Int)
  | [], _, _, _, h, _ => by simp at h
  | A :: l, k, i, S, h, hf => by
    rw [rFst]
    by_cases hA : f A = true
    · rw [if_pos hA]; omega
    · rw [if_neg hA]
      cases i with
      | zero => obtain rfl : A = S := by simpa using h
                exact absurd hf hA
      | succ i =>
        have := rFst_le l (k + 1) i S (by simpa using h) hf
        omega
theorem rFst_hit {f : SV → Bool} : ∀ (l : List SV) (k : Nat), rFst f l k = -1 ∨ ∃ (j : Nat) (S : SV), rFst f l k = ((k + j : Nat) : Int) ∧ l[j]? = some S ∧ f S = true
  | [], _ => .inl rfl
  | A :: l, k => by
    rw [rFst]
    by_cases hA : f A = true
    · rw [if_pos hA]; exact .inr ⟨0, A, rfl, rfl, hA⟩
    · rw [if_neg hA]
      rcases rFst_hit (f := f) l (k + 1) with h | ⟨j, S, h, h1, h2⟩
      · exact .inl h
      · exact .inr ⟨j + 1, S, by rw [h]; congr 1; omega, by simpa using h1, h2⟩
theorem rFst_at {f : SV → Bool} {P : List SV} (h : 0 ≤ rFst f P 0) : ∃ (n : Nat) (S : SV), rFst f P 0 = (n : Int) ∧ P[n]? = some S ∧ f S = true := by
  rcases rFst_hit (f := f) P 0 with e | ⟨j, S, e, h1, h2⟩
  · omega
  · exact ⟨j, S, by rw [e]; congr 1; omega, h1, h2⟩
/-- What is known of a program's first statements. -/
def mapAt (f : ByteArray → SV → Bool) (P : List SV) (i : Nat) (t : ByteArray) : Option Int := if 0 ≤ rFst (f t) P 0 ∧ rFst (f t) P 0 < (i : Int) then some (rFst (f t) P 0) else none
theorem mapAt_some (f : ByteArray → SV → Bool) (P : List SV) (i : Nat) (t : ByteArray) : (mapAt f P i t).isSome = decide (0 ≤ rFst (f t) P 0 ∧ rFst (f t) P 0 < (i : Int)) := by
  unfold mapAt
  split
  · rename_i h; rw [decide_eq_true h]; rfl
  · rename_i h; rw [decide_eq_false h]; rfl
theorem mapAt_none {f : ByteArray → SV → Bool} {P : List SV} {i : Nat} {S : SV} (hS : P[i]? = some S) (hn : ∀ t, f t S = false) : mapAt f P (i + 1) = mapAt f P i := by
  funext t
  unfold mapAt
  have hne : rFst (f t) P 0 ≠ (i : Int) := fun e => by
    obtain ⟨n, A, e1, h1, h2⟩ := rFst_at (f := f t) (P := P) (by omega)
    obtain rfl : n = i := by omega
    rw [hS] at h1
    obtain rfl : S = A := by simpa using h1
    rw [hn t] at h2
    cases h2
  by_cases h : 0 ≤ rFst (f t) P 0 ∧ rFst (f t) P 0 < (i : Int)
  · rw [if_pos h, if_pos (by omega)]
  · rw [if_neg h, if_neg (by omega)]
theorem mapAt_put {f : ByteArray → SV → Bool} {P : List SV} {i : Nat} {S : SV} {s : ByteArray} (hS : P[i]? = some S) (hn : ∀ t, f t S = decide (t = s)) (hf : rFst (f s) P 0 = (i : Int)) : mapAt f P (i + 1) = putF (mapAt f P i) s (i : Int) := by
  funext t
  unfold putF
  by_cases ht : t = s
  · rw [if_pos ht]
    unfold mapAt
    rw [ht, hf, if_pos (by omega)]
  · rw [if_neg ht]
    unfold mapAt
    have hne : rFst (f t) P 0 ≠ (i : Int) := fun e => by
      obtain ⟨n, A, e1, h1, h2⟩ := rFst_at (f := f t) (P := P) (by omega)
      obtain rfl : n = i := by omega
      rw [hS] at h1
      obtain rfl : S = A := by simpa using h1
      rw [hn t, decide_eq_false ht] at h2
      cases h2
    by_cases h : 0 ≤ rFst (f t) P 0 ∧ rFst (f t) P 0 < (i : Int)
    · rw [if_pos h, if_pos (by omega)]
    · rw [if_neg h, if_neg (by omega)]
theorem labF_dec (t : ByteArray) (S : SV) (h : S.lab.toList.isEmpty = false) : labF t S = decide (t = S.lab) := by
  unfold labF
  rw [by_eq]
  by_cases e : t = S.lab
  · subst e; rw [decide_eq_true rfl, h]; rfl
  · rw [decide_eq_false e, decide_eq_false (fun q => e q.symm)]; rfl
theorem labF_no (t : ByteArray) (S : SV) (h : S.lab.toList.isEmpty = true) : labF t S = false := by
  unfold labF
  rw [by_eq]
  by_cases e : S.lab = t
  · subst e; rw [h, Bool.not_true, Bool.and_false]
  · rw [decide_eq_false e]; rfl
theorem defF_dec (t : ByteArray) (S : SV) (h : S.k = 7) : defF t S = decide (t = S.nm) := by
  unfold defF
  rw [by_eq, h]
  by_cases e : t = S.nm
  · subst e; rw [decide_eq_true rfl]; rfl
  · rw [decide_eq_false e, decide_eq_false (fun q => e q.symm)]; rfl
theorem defF_no (t : ByteArray) (S : SV) (h : S.k ≠ 7) : defF t S = false := by
  unfold defF
  rw [show (S.k == 7) = false from bn h]
  rfl
/-- The first place of a text, and whether it is known already. -/
theorem first_known {f : ByteArray → SV → Bool} {P : List SV} {i : Nat} {S : SV} {s : ByteArray} (hS : P[i]? = some S) (hf : f s S = true) : (mapAt f P i s).isSome = (rFst (f s) P 0 != (i : Int)) := by
  have h := rFst_le (f := f s) P 0 i S hS hf
  rw [mapAt_some]
  by_cases e : rFst (f s) P 0 = (i : Int)
  · rw [decide_eq_false (by omega)]
    exact (bne_eq_false_iff_eq.2 e).symm
  · rw [decide_eq_true (by omega)]
    exact (bne_iff_ne.2 e).symm
theorem nmD_iff (L : List ByteArray) : ∀ n, nmD L n = true ↔ ∀ k t, k < n → L[k]? = some t → inOut t = false ∧ ∀ x ∈ L.take k, t ≠ x
  | 0 => ⟨fun _ k t h => by omega, fun _ => rfl⟩
  | n + 1 => by
    have ih := nmD_iff L n
    show (nmD L n && match L[n]? with | none => true | some t => _) = true ↔ _
    rw [Bool.and_eq_true, ih]
    constructor
    · rintro ⟨h1, h2⟩ k t hk ht
      rcases Nat.lt_or_ge k n with h | h
      · exact h1 k t h ht
      · obtain rfl : k = n := by omega
        rw [ht] at h2
        simp only [Bool.and_eq_true, Bool.not_eq_true', List.all_eq_true] at h2
        exact ⟨h2.1, fun x hx => by have := h2.2 x hx; rw [by_eq] at this; exact of_decide_eq_false this⟩
    · intro h
      refine ⟨fun k t hk ht => h k t (by omega) ht, ?_⟩
      cases ht : L[n]? with
      | none => rfl
      | some t =>
        have := h n t (by omega) ht
        simp only [Bool.and_eq_true, Bool.not_eq_true', List.all_eq_true]
        exact ⟨this.1, fun x hx => by rw [by_eq]; exact decide_eq_false (this.2 x hx)⟩
theorem clU_iff : ∀ (L T : List ByteArray), clU T L = false ↔ ∀ k t, L[k]? = some t → hasT T t = false ∧ ∀ x ∈ L.take k, t ≠ x
  | [], T => ⟨fun _ k t h => by simp at h, fun _ => rfl⟩
  | y :: L, T => by
    rw [clU, Bool.or_eq_false_iff, clU_iff L (y :: T)]
    constructor
    · rintro ⟨h1, h2⟩ k t ht
      cases k with
      | zero => obtain rfl : y = t := by simpa using ht
                exact ⟨h1, fun x hx => by simp at hx⟩
      | succ k =>
        have := h2 k t (by simpa using ht)
        have hy : hasT (y :: T) t = (decide (t = y) || hasT T t) := rfl
        rw [hy, Bool.or_eq_false_iff] at this
        refine ⟨this.1.2, fun x hx => ?_⟩
        rw [List.take_succ_cons] at hx
        rcases List.mem_cons.1 hx with rfl | hx
        · exact of_decide_eq_false this.1.1
        · exact this.2 x hx
    · intro h
      refine ⟨(h 0 y rfl).1, fun k t ht => ?_⟩
      have := h (k + 1) t (by simpa using ht)
      rw [List.take_succ_cons] at this
      have hy : hasT (y :: T) t = (decide (t = y) || hasT T t) := rfl
      rw [hy, Bool.or_eq_false_iff]
      exact ⟨⟨decide_eq_false (this.2 y (List.mem_cons_self ..)), this.1⟩, fun x hx => this.2 x (List.mem_cons_of_mem _ hx)⟩
theorem inOut_has (t : ByteArray) : inOut t = hasT [tOut, tIn] t := by
  have h1 : (t.toList == [73, 78, 80, 85, 84]) = decide (t = tIn) := by rw [← by_eq, show tIn.toList = [73, 78, 80, 85, 84] by rw [ByteArray.toList_eq]; rfl]
  have h2 : (t.toList == [79, 85, 84, 80, 85, 84]) = decide (t = tOut) := by rw [← by_eq, show tOut.toList = [79, 85, 84, 80, 85, 84] by rw [ByteArray.toList_eq]; rfl]
  unfold inOut
  rw [h1, h2]
  show _ = (decide (t = tOut) || (decide (t = tIn) || false))
  rw [Bool.or_false, Bool.or_comm]
theorem clE_nmD (S : SV) : S.clE = !nmD ([S.nm] ++ S.ps.l ++ S.ls.l) (1 + S.ps.l.length + S.ls.l.length) := by
  have h1 := clU_iff (S.nm :: (S.ps.l ++ S.ls.l)) [tOut, tIn]
  have h2 := nmD_iff ([S.nm] ++ S.ps.l ++ S.ls.l) (1 + S.ps.l.length + S.ls.l.length)
  have e : [S.nm] ++ S.ps.l ++ S.ls.l = S.nm :: (S.ps.l ++ S.ls.l) := by simp
  have hl : (S.nm :: (S.ps.l ++ S.ls.l)).length = 1 + S.ps.l.length + S.ls.l.length := by simp; omega
  rw [e] at h2 ⊢
  have h3 : S.clE = false ↔ nmD (S.nm :: (S.ps.l ++ S.ls.l)) (1 + S.ps.l.length + S.ls.l.length) = true := by
    rw [h2]
    refine h1.trans ⟨fun h k t _ ht => ⟨by rw [inOut_has]; exact (h k t ht).1, (h k t ht).2⟩, fun h k t ht => ?_⟩
    have := h k t (by rw [← hl]; exact (List.getElem?_eq_some_iff.1 ht).1) ht
    rw [inOut_has] at this
    exact this
  cases hc : S.clE
  · rw [h3.1 hc]; rfl
  · cases hd : nmD (S.nm :: (S.ps.l ++ S.ls.l)) (1 + S.ps.l.length + S.ls.l.length)
    · rfl
    · rw [h3.2 hd] at hc; cases hc
theorem blt_neg1 (s : ByteArray) : (!decide (blt s = -1)) = decide (0 ≤ blt s) := by
  by_cases h : blt s < 0
  · rw [blt_neg h]; rfl
  · rw [decide_eq_false (by omega), decide_eq_true (by omega)]; rfl
/-- What is known of a program's labels and functions, so far. -/
def Kn (P : List SV) (i : Nat) (c : CS) : Prop := c.fl = mapAt labF P i ∧ c.ff = mapAt defF P i
theorem tellIf_tell (c : CS) (b : Bool) (e i : Int) : c.tellIf b e i = c.tell (if b = true then e else 0) i := by
  unfold CS.tellIf
  cases b
  · rw [if_neg (by decide), if_neg (by decide), tell_zero]
  · rw [if_pos rfl, if_pos rfl]
theorem tell_of {c : CS} (h : c.er = 0) (h2 : c.at_ = 0) (e i : Int) : (c.tell e i).er = e ∧ (c.tell e i).at_ = (if e = 0 then 0 else i) := by
  refine ⟨if_pos h, ?_⟩
  show (if c.er = 0 ∧ e ≠ 0 then i else c.at_) = _
  by_cases he : e = 0
  · rw [if_neg (fun q => q.2 he), if_pos he, h2]
  · rw [if_pos ⟨h, he⟩, if_neg he]
theorem learn_at {P : List SV} {i : Nat} {S : SV} {c : CS} (hS : P[i]? = some S) (hG : Kn P i c) (h0 : c.er = 0) (h1 : c.at_ = 0) :
    (nmE' P i S = 0 → (c.learn (i : Int) S).er = 0 ∧ (c.learn (i : Int) S).at_ = 0 ∧ Kn P (i + 1) (c.learn (i : Int) S)) ∧ (nmE' P i S ≠ 0 → (c.learn (i : Int) S).er = nmE' P i S ∧ (c.learn (i : Int) S).at_ = (i : Int)) := by
  obtain ⟨hfl, hff⟩ := hG
  -- the label
  have hL : ∃ d, c.labS (i : Int) S = d ∧ d.ff = c.ff ∧ (nmB1 P i S = false → d.er = 0 ∧ d.at_ = 0 ∧ d.fl = mapAt labF P (i + 1)) ∧ (nmB1 P i S = true → d.er = 7 ∧ d.at_ = (i : Int)) := by
    refine ⟨_, rfl, ?_⟩
    unfold CS.labS
    cases he : S.lab.toList.isEmpty
    · rw [if_neg (by decide)]
      have hb : S.labB c.fl = nmB1 P i S := by
        unfold SV.labB nmB1
        rw [he, hfl, first_known hS (by rw [labF_dec _ _ he]; exact decide_eq_true rfl)]
        rfl
      rw [hb, tellIf_tell]
      have ht := tell_of h0 h1 (if nmB1 P i S = true then 7 else 0) (i : Int)
      refine ⟨rfl, fun hn => ?_, fun hn => ?_⟩
      · rw [hn, if_neg (by decide)] at ht ⊢
        refine ⟨ht.1, ht.2, ?_⟩
        show putF (c.tell 0 (i : Int)).fl S.lab (i : Int) = _
        rw [mapAt_put (s := S.lab) hS (fun t => labF_dec t S he) ?_]
        · rw [← hfl]; rfl
        · unfold nmB1 at hn
          rw [he] at hn
          simp only [Bool.not_false, Bool.true_and, Bool.or_eq_false_iff] at hn
          exact bne_eq_false_iff_eq.1 hn.2
      · rw [hn, if_pos rfl] at ht ⊢
        exact ⟨ht.1, ht.2⟩
    · rw [if_pos rfl]
      have hb : nmB1 P i S = false := by unfold nmB1; rw [he]; rfl
      exact ⟨rfl, fun _ => ⟨h0, h1, by rw [hfl, mapAt_none hS (fun t => labF_no t S he)]⟩, fun q => by rw [hb] at q; cases q⟩
  obtain ⟨d, hd, hdf, hd0, hd1⟩ := hL
  have hN : namedB P i S = if nmB1 P i S = true then false else if (S.k != 7) = true then true else if nmB2 P i S = true then false else nmD ([S.nm] ++ S.ps.l ++ S.ls.l) (1 + S.ps.l.length + S.ls.l.length) := rfl
  have hLN : c.learn (i : Int) S = d.defS (i : Int) S := by show (c.labS (i : Int) S).defS (i : Int) S = _; rw [hd]
  rw [hLN]
  unfold CS.defS nmE'
  by_cases hk : S.k = 7
  · rw [if_pos hk]
    have hk7 : (S.k != 7) = false := by rw [hk]; rfl
    rw [hk7, if_neg (by decide : ¬ false = true)] at hN
    have hb : S.defB d.ff = (nmB2 P i S || !nmD ([S.nm] ++ S.ps.l ++ S.ls.l) (1 + S.ps.l.length + S.ls.l.length)) := by
      unfold SV.defB nmB2
      rw [hdf, hff, first_known hS (by rw [defF_dec _ _ hk]; exact decide_eq_true rfl), clE_nmD, blt_neg1]
    rw [tellIf_tell, hb]
    generalize hn : nmD ([S.nm] ++ S.ps.l ++ S.ls.l) (1 + S.ps.l.length + S.ls.l.length) = nn at *
    cases hb1 : nmB1 P i S
    · rw [hb1, if_neg (by decide)] at hN
      obtain ⟨e0, e1, e2⟩ := hd0 hb1
      have ht := tell_of e0 e1 (if (nmB2 P i S || !nn) = true then 7 else 0) (i : Int)
      have hx : namedB P i S = !(nmB2 P i S || !nn) := by rw [hN]; cases nmB2 P i S <;> cases nn <;> rfl
      rw [hx]
      have hfk : (nmB2 P i S || !nn) = false → rFst (defF S.nm) P 0 = (i : Int) := fun q => by
        rw [Bool.or_eq_false_iff] at q
        have q := q.1
        unfold nmB2 at q
        rw [Bool.or_eq_false_iff] at q
        exact bne_eq_false_iff_eq.1 q.2
      generalize hz : (nmB2 P i S || !nn) = z at *
      cases z
      · refine ⟨fun _ => ⟨ht.1, ht.2, e2, ?_⟩, fun q => absurd rfl q⟩
        show putF (d.tell _ (i : Int)).ff S.nm (i : Int) = _
        rw [mapAt_put (s := S.nm) hS (fun t => defF_dec t S hk) (hfk rfl), ← hff, ← hdf]
        rfl
      · exact ⟨fun q => absurd q (by decide), fun _ => ⟨ht.1, ht.2⟩⟩
    · rw [hb1, if_pos rfl] at hN
      obtain ⟨e0, e1⟩ := hd1 hb1
      rw [hN]
      refine ⟨fun q => absurd q (by decide), fun _ => ?_⟩
      rw [tell_er _ _ _ (by rw [e0]; decide)]
      exact ⟨e0, e1⟩
  · rw [if_neg hk]
    have hk7 : (S.k != 7) = true := bne_iff_ne.2 hk
    rw [hk7, if_pos rfl] at hN
    cases hb1 : nmB1 P i S
    · rw [hb1, if_neg (by decide)] at hN
      rw [hN]
      obtain ⟨e0, e1, e2⟩ := hd0 hb1
      exact ⟨fun _ => ⟨e0, e1, e2, by rw [hdf, hff, mapAt_none hS (fun t => defF_no t S hk)]⟩, fun q => absurd rfl q⟩
    · rw [hb1, if_pos rfl] at hN
      obtain ⟨e0, e1⟩ := hd1 hb1
      rw [hN]
      exact ⟨fun q => absurd q (by decide), fun _ => ⟨e0, e1⟩⟩
/-- A round, by what each statement tells. -/
theorem rnd_fst {P : List SV} {step : CS → Int → SV → CS} {g : Nat → SV → Int} {G : Nat → CS → Prop}
    (hs : ∀ i S c, P[i]? = some S → G i c → c.er = 0 → c.at_ = 0 → (g i S = 0 → (step c (i : Int) S).er = 0 ∧ (step c (i : Int) S).at_ = 0 ∧ G (i + 1) (step c (i : Int) S)) ∧ (g i S ≠ 0 → (step c (i : Int) S).er = g i S ∧ (step c (i : Int) S).at_ = (i : Int))) :
    ∀ (l : List SV) (i : Nat) (c : CS), (∀ j S, l[j]? = some S → P[i + j]? = some S) → G i c → c.er = 0 → c.at_ = 0 → (rnd step l i c).er = (fstE g l i).1 ∧ (rnd step l i c).at_ = (fstE g l i).2 ∧ ((fstE g l i).1 = 0 → G (i + l.length) (rnd step l i c))
  | [], i, c, _, hG, h0, h1 => ⟨h0, h1, fun _ => hG⟩
  | S :: l, i, c, hl, hG, h0, h1 => by
    have hS := hl 0 S rfl
    rw [Nat.add_zero] at hS
    have h := hs i S c hS hG h0 h1
    have e1 : rnd step (S :: l) i c = rnd step l (i + 1) (step c (i : Int) S) := if_pos h0
    rw [e1, fstE]
    by_cases hg : g i S = 0
    · rw [if_pos hg]
      obtain ⟨a, b, d⟩ := h.1 hg
      have := rnd_fst hs l (i + 1) _ (fun j A hA => by have := hl (j + 1) A (by simpa using hA); rwa [show i + 1 + j = i + (j + 1) by omega]) d a b
      rw [List.length_cons, show i + (l.length + 1) = i + 1 + l.length by omega]
      exact this
    · rw [if_neg hg]
      obtain ⟨a, b⟩ := h.2 hg
      rw [rnd_stop _ _ _ (by rw [a]; exact hg)]
      exact ⟨a, b, fun q => absurd q hg⟩
theorem tell_tell (c : CS) (a b i : Int) : (c.tell a i).tell b i = c.tell (if a = 0 then b else a) i := by
  by_cases h : c.er = 0
  · by_cases ha : a = 0
    · subst ha; rw [tell_zero, if_pos rfl]
    · rw [if_neg ha, tell_er (c.tell a i) b i (by rw [show (c.tell a i).er = a from if_pos h]; exact ha)]
  · rw [tell_er c a i h, tell_er c b i h, tell_er c _ i h]
theorem fold_tell {α : Type} {f : CS → α → CS} {e : α → Int} {i : Int} {fl ff : ByteArray → Option Int} (hf : ∀ c x, c.fl = fl → c.ff = ff → f c x = c.tell (e x) i) : ∀ (l : List α) (c : CS), c.fl = fl → c.ff = ff → l.foldl f c = c.tell (fst0 (l.map e)) i
  | [], c, _, _ => (tell_zero c i).symm
  | x :: l, c, h1, h2 => by
    rw [List.foldl_cons, hf c x h1 h2, fold_tell hf l (c.tell (e x) i) h1 h2, tell_tell]
    rfl
theorem fst0_app : ∀ (a b : List Int), fst0 (a ++ b) = if fst0 a = 0 then fst0 b else fst0 a
  | [], b => (if_pos rfl).symm
  | x :: a, b => by
    show (if x = 0 then fst0 (a ++ b) else x) = if (if x = 0 then fst0 a else x) = 0 then fst0 b else (if x = 0 then fst0 a else x)
    by_cases h : x = 0
    · rw [if_pos h, if_pos h, fst0_app a b]
    · rw [if_neg h, if_neg h, if_neg h]
theorem fst0_flat {α β : Type} (g : α → List β) (e : β → Int) : ∀ l : List α, fst0 (l.map fun x => fst0 ((g x).map e)) = fst0 ((l.flatMap g).map e)
  | [] => rfl
  | x :: l => by
    rw [List.flatMap_cons, List.map_append, fst0_app, ← fst0_flat g e l]
    rfl
theorem fst0_filter {α : Type} (p : α → Bool) (e : α → Int) (h : ∀ x, p x = false → e x = 0) : ∀ l : List α, fst0 (l.map e) = fst0 ((l.filter p).map e)
  | [] => rfl
  | x :: l => by
    rw [List.filter_cons, List.map_cons]
    cases hp : p x
    · rw [if_neg (by decide)]
      show (if e x = 0 then fst0 (l.map e) else e x) = _
      rw [if_pos (h x hp)]
      exact fst0_filter p e h l
    · rw [if_pos rfl, List.map_cons]
      show (if e x = 0 then fst0 (l.map e) else e x) = if e x = 0 then _ else e x
      rw [fst0_filter p e h l]
theorem rFst_lt (f : SV → Bool) (P : List SV) : rFst f P 0 < (P.length : Int) := by
  rcases rFst_hit (f := f) P 0 with e | ⟨j, S, e, h1, -⟩
  · omega
  · have := (List.getElem?_eq_some_iff.1 h1).1
    omega
theorem calE_w {P : List SV} {c : CS} (hff : c.ff = mapAt defF P P.length) (T : PT) (h : isCal T = true) : calE P T = wCall P c.ff T := by
  have hk : T.k = 6 := of_decide_eq_true h
  unfold calE wCall
  rw [if_neg (fun q => q hk)]
  by_cases hb : 0 ≤ blt T.nm
  · rw [if_pos hb, if_pos (show blt T.nm ≠ -1 from fun q => by omega)]
    by_cases e : blt T.nm = (T.len : Int)
    · rw [if_pos e, if_pos e.symm]
    · rw [if_neg e, if_neg (fun q => e q.symm)]
  · have hbn : ¬ blt T.nm ≠ -1 := fun q => q (blt_neg (by omega))
    rw [if_neg hb, if_neg hbn, hff]
    unfold mapAt
    have hl := rFst_lt (defF T.nm) P
    by_cases hn : rFst (defF T.nm) P 0 < 0
    · rw [if_pos hn, if_neg (fun q => by omega)]
    · rw [if_neg hn, if_pos (show 0 ≤ rFst (defF T.nm) P 0 ∧ rFst (defF T.nm) P 0 < (P.length : Int) from ⟨by omega, hl⟩)]
      have : parR P (rFst (defF T.nm) P 0) = (parN P (rFst (defF T.nm) P 0) : Int) := by
        unfold parR parN
        cases P[(rFst (defF T.nm) P 0).toNat]? <;> rfl
      rw [this]
      by_cases hq : parN P (rFst (defF T.nm) P 0) < T.len
      · rw [if_pos (by omega)]; exact (if_pos hq).symm
      · rw [if_neg (by omega)]; exact (if_neg hq).symm
theorem lbB_bad {P : List SV} {c : CS} (hfl : c.fl = mapAt labF P P.length) (t : ByteArray) : lbB c.fl t = lbBad P t := by
  unfold lbB lbBad
  rw [hfl, mapAt_some, Bool.and_assoc]
  have hl := rFst_lt (labF t) P
  congr 2
  by_cases h : rFst (labF t) P 0 < 0
  · rw [decide_eq_false (by omega), decide_eq_true h]; rfl
  · rw [decide_eq_true (by omega), decide_eq_false h]; rfl
theorem fst_any {α : Type} (p : α → Bool) : ∀ l : List α, fst0 (l.map fun t => if p t = true then 6 else 0) = if l.any p = true then 6 else 0
  | [] => rfl
  | x :: l => by
    rw [List.map_cons, List.any_cons]
    show (if (if p x = true then (6 : Int) else 0) = 0 then fst0 (l.map fun t => if p t = true then 6 else 0) else (if p x = true then (6 : Int) else 0)) = _
    rw [fst_any p l]
    by_cases h : p x = true
    · rw [h]; rfl
    · rw [Bool.eq_false_iff.2 h]; rfl
theorem follow_tell {P : List SV} {i : Int} {S : SV} {c : CS} (hG : Kn P P.length c) : c.follow P i S = c.tell (usE P S) i := by
  obtain ⟨hfl, hff⟩ := hG
  have s1 : [S.al, S.ye, S.no].foldl (CS.folL i) c = c.tell (fst0 ([S.al, S.ye, S.no].map fun t => if lbBad P t = true then 6 else 0)) i :=
    fold_tell (fl := c.fl) (ff := c.ff) (fun d x h1 _ => by show d.tellIf (lbB d.fl x) 6 i = _; rw [h1, lbB_bad hfl, tellIf_tell]) _ c rfl rfl
  have s2 : ∀ d : CS, d.fl = c.fl → d.folD i S = d.tell (if S.k = 7 ∧ rFst (labF S.en) P 0 < 0 then 6 else 0) i := fun d hd => by
    unfold CS.folD
    rw [tellIf_tell, hd, hfl, mapAt_some]
    congr 1
    have hl := rFst_lt (labF S.en) P
    by_cases hk : S.k = 7
    · rw [decide_eq_true hk, Bool.true_and]
      by_cases h : rFst (labF S.en) P 0 < 0
      · rw [decide_eq_false (by omega), if_pos (show S.k = 7 ∧ rFst (labF S.en) P 0 < 0 from ⟨hk, h⟩)]; rfl
      · rw [decide_eq_true (by omega), if_neg (show ¬ (S.k = 7 ∧ rFst (labF S.en) P 0 < 0) from fun q => h q.2)]; rfl
    · rw [decide_eq_false hk, if_neg (show ¬ (S.k = 7 ∧ rFst (labF S.en) P 0 < 0) from fun q => hk q.1)]; rfl
  have s3 : ∀ d : CS, d.fl = c.fl → d.ff = c.ff → (callsL S.exs).foldl (CS.folC P i) d = d.tell (fst0 (S.exR.map fun x => fst0 (x.all.map (calE P)))) i := fun d h1 h2 => by
    rw [fold_tell (f := CS.folC P i) (e := wCall P c.ff) (i := i) (fl := c.fl) (ff := c.ff) (fun d x _ h2 => by show d.tell (wCall P d.ff x) i = _; rw [h2]) _ d h1 h2]
    congr 1
    rw [fst0_flat, fst0_filter isCal (calE P) (fun x hx => if_pos (fun q => by unfold isCal at hx; rw [decide_eq_true q] at hx; cases hx))]
    show fst0 ((callsL S.exs).map _) = fst0 ((callsL S.exs).map (calE P))
    congr 1
    exact List.map_congr_left fun T hT => (calE_w hff T (List.mem_filter.1 hT).2).symm
  have hA := fst_any (lbBad P) [S.al, S.ye, S.no]
  unfold CS.follow
  rw [s1, hA, s2 (c.tell _ i) rfl, s3 ((c.tell _ i).tell _ i) rfl rfl, tell_tell, tell_tell, usE_eq]
  congr 1
  by_cases h1 : [S.al, S.ye, S.no].any (lbBad P) = true
  · rw [if_pos h1, if_pos h1]; rfl
  · rw [if_neg h1, if_neg h1, if_pos rfl]
    by_cases h2 : S.k = 7 ∧ rFst (labF S.en) P 0 < 0
    · rw [if_pos h2, if_pos h2]; rfl
    · rw [if_neg h2, if_neg h2, if_pos rfl]
/-- All that the document's Check asks of a program that is right. -/
structure ChkOk (P : List SV) : Prop where
  len : P.length ≤ 1000
  wr : ∀ (i : Nat) S, P[i]? = some S → S.wrong = 0
  nm : ∀ (i : Nat) S, P[i]? = some S → namedB P i S = true
  us : ∀ (i : Nat) S, P[i]? = some S → usE P S = 0
theorem chk_ok {P : List SV} (h : (chkR P).1 = 0) : ChkOk P := by
  unfold chkR at h
  by_cases hl : 1000 < P.length
  · rw [if_pos hl] at h; exact absurd h (by decide)
  rw [if_neg hl] at h
  unfold orE at h
  by_cases h1 : (fstE wrE P 0).1 = 0
  · rw [if_pos h1] at h
    by_cases h2 : (fstE (nmE' P) P 0).1 = 0
    · rw [if_pos h2] at h
      refine ⟨by omega, fun i S hS => ?_, fun i S hS => ?_, fun i S hS => ?_⟩
      · have := (fstE_zero P 0 h1).2 i S hS; exact this
      · have := (fstE_zero P 0 h2).2 i S hS
        rw [Nat.zero_add] at this
        unfold nmE' at this
        cases hn : namedB P i S
        · rw [hn] at this; exact absurd this (by decide)
        · rfl
      · have := (fstE_zero P 0 h).2 i S hS; exact this
    · rw [if_neg h2] at h; exact absurd h h2
  · rw [if_neg h1] at h; exact absurd h h1
/-- The document's Check is the checker's. -/
theorem chk_look (P : List SV) : (lookS P).er = (chkR P).1 ∧ (lookS P).at_ = (chkR P).2 ∧ ((chkR P).1 = 0 → Kn P P.length (lookS P)) := by
  have hid : ∀ j S, P[j]? = some S → P[0 + j]? = some S := fun j S h => by rw [Nat.zero_add]; exact h
  unfold chkR
  by_cases hl : 1000 < P.length
  · rw [if_pos hl]
    have e0 : CS.start P = ⟨5, 0, fun _ => none, fun _ => none⟩ := by
      unfold CS.start CS.tellIf
      rw [decide_eq_true hl, if_pos rfl]
      rfl
    have e1 : look1 P = CS.start P := rnd_stop _ _ _ (by rw [e0]; decide)
    have e2 : look2 P = CS.start P := by unfold look2; rw [e1]; exact rnd_stop _ _ _ (by rw [e0]; decide)
    have e3 : lookS P = CS.start P := by unfold lookS; rw [e2]; exact rnd_stop _ _ _ (by rw [e0]; decide)
    rw [e3, e0]
    exact ⟨rfl, rfl, fun q => absurd q (by decide)⟩
  rw [if_neg hl]
  have e0 : CS.start P = ⟨0, 0, fun _ => none, fun _ => none⟩ := by
    unfold CS.start CS.tellIf
    rw [decide_eq_false hl, if_neg (by decide)]
  have hz : ∀ f : ByteArray → SV → Bool, (fun _ => none : ByteArray → Option Int) = mapAt f P 0 := fun f => by
    funext t
    unfold mapAt
    rw [if_neg (by omega)]
  have h1 := rnd_fst (P := P) (step := CS.alone) (g := wrE) (G := fun _ c => Kn P 0 c) (fun i S c hS hG h0 h1 => by
    have ht := tell_of h0 h1 S.wrong (i : Int)
    refine ⟨fun q => ?_, fun q => ?_⟩
    · have q : S.wrong = 0 := q
      refine ⟨ht.1.trans q, ?_, hG⟩
      show (c.tell S.wrong (i : Int)).at_ = 0
      rw [ht.2, if_pos q]
    · refine ⟨ht.1, ?_⟩
      have q : ¬ S.wrong = 0 := q
      show (c.tell S.wrong (i : Int)).at_ = (i : Int)
      rw [ht.2, if_neg q]) P 0 (CS.start P) hid (by rw [e0]; exact ⟨hz _, hz _⟩) (by rw [e0]) (by rw [e0])
  obtain ⟨a1, a2, a3⟩ := h1
  have a1 : (look1 P).er = _ := a1
  have a2 : (look1 P).at_ = _ := a2
  unfold orE
  by_cases q1 : (fstE wrE P 0).1 = 0
  · rw [if_pos q1]
    have a3 : Kn P 0 (look1 P) := a3 q1
    rw [q1] at a1
    rw [(fstE_zero P 0 q1).1] at a2
    have h2 := rnd_fst (P := P) (step := CS.learn) (g := nmE' P) (G := fun i c => Kn P i c) (fun i S c hS hG h0 h1 => learn_at hS hG h0 h1) P 0 (look1 P) hid a3 a1 a2
    obtain ⟨b1, b2, b3⟩ := h2
    have b1 : (look2 P).er = _ := b1
    have b2 : (look2 P).at_ = _ := b2
    by_cases q2 : (fstE (nmE' P) P 0).1 = 0
    · rw [if_pos q2]
      have b3 : Kn P (0 + P.length) (look2 P) := b3 q2
      rw [Nat.zero_add] at b3
      rw [q2] at b1
      rw [(fstE_zero P 0 q2).1] at b2
      have h3 := rnd_fst (P := P) (step := CS.follow P) (g := usE' P) (G := fun _ c => Kn P P.length c) (fun i S c hS hG h0 h1 => by
        rw [follow_tell hG]
        have ht := tell_of h0 h1 (usE P S) (i : Int)
        refine ⟨fun q => ?_, fun q => ?_⟩
        · have q : usE P S = 0 := q
          exact ⟨ht.1.trans q, by rw [ht.2, if_pos q], hG⟩
        · have q : ¬ usE P S = 0 := q
          exact ⟨ht.1, by rw [ht.2, if_neg q]⟩) P 0 (look2 P) hid b3 b1 b2
      exact ⟨h3.1, h3.2.1, fun q => h3.2.2 q⟩
    · rw [if_neg q2]
      have e3 : lookS P = look2 P := rnd_stop _ _ _ (by rw [b1]; exact q2)
      rw [e3]
      exact ⟨b1, b2, fun q => absurd q q2⟩
  · rw [if_neg q1]
    have e2 : look2 P = look1 P := rnd_stop _ _ _ (by rw [a1]; exact q1)
    have e3 : lookS P = look2 P := rnd_stop _ _ _ (by rw [e2, a1]; exact q1)
    rw [e3, e2]
    exact ⟨a1, a2, fun q => absurd q q1⟩
end Go.Proofs.YtpphjddljngkmaaDoor
