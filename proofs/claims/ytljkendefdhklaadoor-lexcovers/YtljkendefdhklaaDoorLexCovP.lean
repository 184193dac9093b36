/- What pats.Quote answers; where tokens end. -/
import Derived.Test.YtljkendefdhklaaDoorLexEq
namespace Go.Proofs.YtljkendefdhklaaDoor
open Go.RowKit

theorem rep_one (c : UInt8) (new : List UInt8) : ∀ s : List UInt8, Lib.replaceK [c] new (s.count c) s = s.flatMap fun x => if x = c then new else [x]
  | [] => rfl
  | b :: l => by
    have ih := rep_one c new l
    rw [List.flatMap_cons]
    by_cases hb : b = c
    · subst hb
      have h0 : Lib.index (b :: l) [b] = ((0 : Nat) : Int) := by simp [Lib.index]
      rw [List.count_cons_self, Lib.replaceK_hit [b] new _ _ 0 h0, if_pos rfl]
      show [] ++ new ++ Lib.replaceK [b] new (l.count b) l = _
      rw [ih]; rfl
    · rw [List.count_cons_of_ne hb, if_neg hb]
      cases hk : l.count c with
      | zero =>
        rw [hk] at ih
        show b :: l = [b] ++ _
        rw [← ih]; rfl
      | succ k =>
        obtain ⟨i, hi⟩ := Lib.index_of_count (s := l) (old := [c]) (by rw [Lib.count_one]; omega)
        have h1 : Lib.index (b :: l) [c] = ((i + 1 : Nat) : Int) := by
          have hp : [c].isPrefixOf (b :: l) = false := by simp [List.isPrefixOf]; exact fun e => hb e.symm
          rw [Lib.index, hp, hi]
          have : ((i : Int) == -1) = false := by rw [beq_eq_false_iff_ne]; omega
          simp [this]
        rw [Lib.replaceK_hit [c] new k _ _ h1]
        rw [hk, Lib.replaceK_hit [c] new k l i hi] at ih
        rw [← ih]
        rfl
theorem replace_quote (l : List UInt8) : Lib.replaceAll l [39] [39, 39] = l.flatMap fun c => if c = 39 then [39, 39] else [c] := by
  unfold Lib.replaceAll Lib.replace Lib.replaceNum
  rw [if_neg (by decide), if_pos (.inl (by decide)), Lib.count_one]
  exact rep_one 39 [39, 39] l

/-- A text in quotes. -/
def quoteL (l : List UInt8) : List UInt8 := [39] ++ (l.flatMap fun c => if c = 39 then [39, 39] else [c]) ++ [39]
theorem quoteL_len (l : List UInt8) : (quoteL l).length ≤ 2 * l.length + 2 := by
  have : (l.flatMap fun c => if c = 39 then [39, 39] else [c]).length ≤ 2 * l.length := by
    induction l with
    | nil => simp
    | cons x l ih =>
      rw [List.flatMap_cons, List.length_append, List.length_cons]
      have : (if x = 39 then [39, 39] else [x] : List UInt8).length ≤ 2 := by split <;> simp
      omega
  simp only [quoteL, List.length_append, List.length_cons, List.length_nil]
  omega
def quoteB (s : ByteArray) : ByteArray := ⟨(quoteL s.data.toList).toArray⟩
set_option maxHeartbeats 400000 in
theorem quote_any (s : ByteArray) (w : World) (hs : s.size ≤ 65536) (m : Int) (hm : w.cell? ⟨0, 0, none⟩ = some (.int .i64 m)) :
    Calls Tryd.prog 10 #[.string s] w fun e w' => e = .returned (.string (quoteB s)) ∧ Below w.heap.size w w' := by
  have hr := fun W hW => Tryd.strings_ReplaceAll s ⟨#[39]⟩ ⟨#[39, 39]⟩ m W (by omega) hW (by decide) (by have := Lib.countB_le ⟨#[39]⟩ (by decide) s.size s (Nat.le_refl _); show s.size + _ * 2 ≤ _; omega)
  have HR := hide hr
  have HM := hide hm
  clear hr hm
  go_enter Tryd.func10, Tryd.ntmps10
  go_wp2_with fail
  refine (unhide HR _ (unhide HM)).mono ?_
  rintro e w1 ⟨rfl, hb⟩
  obtain ⟨r, hrr⟩ : ∃ r, r = (⟨(Lib.replaceAll s.data.toList (⟨#[39]⟩ : ByteArray).data.toList (⟨#[39, 39]⟩ : ByteArray).data.toList).toArray⟩ : ByteArray) := ⟨_, rfl⟩
  rw [← hrr]
  have hq : quoteB s = ⟨#[39]⟩ ++ r ++ ⟨#[39]⟩ := by
    rw [hrr]
    show quoteB s = ⟨#[39]⟩ ++ ⟨(Lib.replaceAll s.data.toList [39] [39, 39]).toArray⟩ ++ ⟨#[39]⟩
    rw [replace_quote]
    apply ByteArray.ext
    apply Array.ext'
    simp [quoteB, quoteL]
  have hsz : (quoteB s).size = r.size + 2 := by rw [hq, ByteArray.size_append, ByteArray.size_append]; show 1 + r.size + 1 = _; omega
  have hsq : (quoteB s).size ≤ 131074 := by
    have h1 := quoteL_len s.data.toList
    have h2 : s.data.toList.length = s.size := by simp
    have h3 : (quoteB s).size = (quoteL s.data.toList).length := by simp [quoteB, ByteArray.size]
    omega
  have g1 : ¬ 9223372036854775807 < 1 + r.size := by omega
  have g2 : ¬ 9223372036854775807 < 1 + r.size + 1 := by omega
  have HQ := hide hq
  have HB := hide hb
  clear hrr hq hsz hsq hb
  go_wp2_with fail
  go_ret
  exact ⟨by rw [unhide HQ]; rfl, unhide HB⟩


def dblL (l : List UInt8) : List UInt8 := l.flatMap fun c => if c = 39 then [39, 39] else [c]
theorem quoteB_dbl (s : ByteArray) : (quoteB s).size = (dblL s.data.toList).length + 2 := by
  show (quoteL s.data.toList).toArray.size = _
  simp only [List.size_toArray, quoteL, dblL, List.length_append, List.length_cons, List.length_nil]
  omega
theorem ct_dbl (s : ByteArray) (i : Nat) (h : cq s i < s.size) : (dblL (ct s i)).length + i = cq s i :=
  cq_ind (P := fun i => cq s i < s.size → (dblL (ct s i)).length + i = cq s i) (fun i hi h => by rw [cq_end hi] at h; omega)
    (fun i hi hb ih h => by
      rw [cq_plain hi hb] at h ⊢
      have := ih h
      rw [ct_plain hi hb]
      unfold dblL at this ⊢
      rw [List.flatMap_cons, List.length_append]
      have hne : ¬ s.data.toList.getD i 0 = 39 := fun e => hb (by rw [← getD_bat, e]; rfl)
      rw [if_neg hne]
      simp only [List.length_cons, List.length_nil]
      omega)
    (fun i hb hc ih h => by
      rw [cq_two hb hc] at h ⊢
      have := ih h
      rw [ct_two hb hc]
      unfold dblL at this ⊢
      rw [List.flatMap_cons, List.length_append, if_pos rfl]
      simp only [List.length_cons, List.length_nil]
      omega)
    (fun i hb hc h => by rw [cq_here hb hc, ct_here hb hc]; simp [dblL]) s.size i (by omega) h
/-- How many bytes a token takes. -/
def ntk (x : Tk) : Nat := if x.k = 3 then (quoteB x.t).size else if x.k = 4 then x.t.size + 2 else x.t.size
/-- It begins as its kind does. -/
def Good (s : ByteArray) (x : Tk) : Prop := (x.k = 3 ∧ bat s x.a = 39) ∨ (x.k = 4 ∧ bat s x.a = 91) ∨ ((x.k = 1 ∨ x.k = 2 ∨ x.k = 5) ∧ x.t.size ≠ 0 ∧ x.a + x.t.size ≤ s.size ∧ s.extract x.a (x.a + x.t.size) = x.t)
theorem good_ext {s : ByteArray} {i e k : Nat} (hk : k = 1 ∨ k = 2 ∨ k = 5) (h1 : i < e) (h2 : e ≤ s.size) : Good s ⟨k, s.extract i e, i⟩ ∧ i + ntk ⟨k, s.extract i e, i⟩ = e := by
  have hz := extract_size s i e h2
  have hn : ntk ⟨k, s.extract i e, i⟩ = e - i := by unfold ntk; rw [if_neg (by show ¬ k = 3; omega), if_neg (by show ¬ k = 4; omega)]; exact hz
  refine ⟨.inr (.inr ⟨hk, by show (s.extract i e).size ≠ 0; omega, by show i + (s.extract i e).size ≤ s.size; omega, ?_⟩), by omega⟩
  show s.extract i (i + (s.extract i e).size) = s.extract i e
  rw [hz, show i + (e - i) = e by omega]
theorem tk_good (s : ByteArray) (i : Nat) (hi : i < s.size) (hk : (tk s i).1 ≠ 0) : Good s ⟨(tk s i).1, (tk s i).2.2, i⟩ ∧ i + ntk ⟨(tk s i).1, (tk s i).2.2, i⟩ = (tk s i).2.1 := by
  have hle := tk_le s i hi
  have hq := cq_le s (i + 1) (by omega)
  have hb := cb_le s (i + 1) (by omega)
  have h6 := hle.2.2.1 hk
  have h7 := hle.2.1
  clear hle
  unfold tk at hk h6 h7 ⊢
  split
  · rename_i h1
    rw [if_pos h1] at h6 h7
    exact good_ext (.inl rfl) h6 h7
  · rename_i h1
    rw [if_neg h1] at hk h6 h7
    split
    · rename_i h2
      rw [if_pos h2] at h6 h7
      exact good_ext (.inr (.inl rfl)) h6 h7
    · rename_i h2
      rw [if_neg h2] at hk h6 h7
      split
      · rename_i h3
        rw [if_pos h3] at hk h6 h7
        split
        · rename_i h4; rw [if_pos h4] at hk; exact absurd rfl hk
        · rename_i h4
          refine ⟨.inl ⟨rfl, h3⟩, ?_⟩
          have hd := ct_dbl s (i + 1) (by omega)
          show i + ntk _ = cq s (i + 1) + 1
          unfold ntk
          rw [if_pos rfl, quoteB_dbl]
          show i + ((dblL (ct s (i + 1)).toArray.toList).length + 2) = _
          rw [List.toList_toArray]
          omega
      · rename_i h3
        rw [if_neg h3] at hk h6 h7
        split
        · rename_i h4
          rw [if_pos h4] at hk h6 h7
          split
          · rename_i h5; rw [if_pos h5] at hk; exact absurd rfl hk
          · rename_i h5
            refine ⟨.inr (.inl ⟨rfl, h4⟩), ?_⟩
            show i + ntk _ = cb s (i + 1) + 1
            unfold ntk
            rw [if_neg (by show ¬ (4 : Nat) = 3; decide), if_pos rfl]
            show i + ((s.extract (i + 1) (cb s (i + 1))).size + 2) = _
            rw [extract_size s _ _ hb.2]
            omega
        · rename_i h4
          rw [if_neg h4] at hk h6 h7
          split
          · rename_i h5
            rw [if_pos h5] at h6 h7
            exact good_ext (.inr (.inr rfl)) h6 h7
          · rename_i h5
            rw [if_neg h5] at hk h6 h7
            split
            · rename_i h8
              rw [if_pos h8] at h6 h7
              exact good_ext (.inr (.inr rfl)) h6 h7
            · rename_i h8
              rw [if_neg h8] at hk
              exact absurd rfl hk
/-- Tokens in order, blanks alone between them. -/
def Cov (s : ByteArray) : Nat → List Tk → Prop
  | e, [] => e ≤ s.size ∧ ∀ j, e ≤ j → j < s.size → bat s j = 32
  | e, x :: r => e ≤ x.a ∧ x.a < s.size ∧ (∀ j, e ≤ j → j < x.a → bat s j = 32) ∧ Good s x ∧ x.a + ntk x ≤ s.size ∧ Cov s (x.a + ntk x) r
theorem ln_cov {s : ByteArray} {i : Nat} {l : List Tk} (hi : i ≤ s.size) : ∀ e, e ≤ i → (∀ j, e ≤ j → j < i → bat s j = 32) → (ln s i l).2.1 = 0 → ∃ r, (ln s i l).1 = l ++ r ∧ Cov s e r :=
  ln_ind (P := fun i l => ∀ e, e ≤ i → (∀ j, e ≤ j → j < i → bat s j = 32) → (ln s i l).2.1 = 0 → ∃ r, (ln s i l).1 = l ++ r ∧ Cov s e r)
    (fun l e he hb _ => ⟨[], by rw [ln_end]; simp, he, hb⟩)
    (fun i l hi hb ih e he hj h0 => by
      rw [ln_blank hi hb] at h0 ⊢
      exact ih e (by omega) (fun j h1 h2 => by
        by_cases h : j = i
        · rw [h]; exact hb
        · exact hj j h1 (by omega)) h0)
    (fun i l hi hb hk e he hj h0 => by rw [ln_bad hi hb hk] at h0; cases h0)
    (fun i l hi hb hk ih e he hj h0 => by
      rw [ln_tok hi hb hk] at h0 ⊢
      obtain ⟨r, h1, h2⟩ := ih (tk s i).2.1 (Nat.le_refl _) (fun j h1 h2 => by omega) h0
      obtain ⟨g1, g2⟩ := tk_good s i hi hk
      refine ⟨⟨(tk s i).1, (tk s i).2.2, i⟩ :: r, by rw [h1]; simp, he, hi, hj, g1, ?_, ?_⟩
      · show i + ntk _ ≤ s.size
        rw [g2]; exact (tk_le s i hi).2.1
      · show Cov s (i + ntk _) r
        rw [g2]; exact h2) s.size i l hi (by omega)
theorem line_cov (s : ByteArray) (h : (lineP s).2.1 = 0) : Cov s 0 (lineP s).1 := by
  unfold lineP at h ⊢
  split
  · rename_i hs; rw [if_pos hs] at h; cases h
  · rename_i hs
    rw [if_neg hs] at h
    obtain ⟨r, h1, h2⟩ := ln_cov (s := s) (i := 0) (l := []) (Nat.zero_le _) 0 (Nat.le_refl _) (fun j h1 h2 => by omega) h
    rw [h1]; exact h2
end Go.Proofs.YtljkendefdhklaaDoor
