/- Two lines, a blank between, plain. -/
import Derived.Test.YtljkendefdhklaaDoorLexEq
namespace Go.Proofs.YtljkendefdhklaaDoor
open Go.RowKit

/-- How a line is made of two, with a blank between. -/
structure Two (s t J : ByteArray) : Prop where
  size : J.size = s.size + 1 + t.size
  fst : ∀ i, i < s.size → J.data.toList.getD i 0 = s.data.toList.getD i 0
  mid : bat J s.size = 32
  snd : ∀ i, J.data.toList.getD (s.size + 1 + i) 0 = t.data.toList.getD i 0
  ext1 : ∀ i j, j ≤ s.size → J.extract i j = s.extract i j
  ext2 : ∀ i j, J.extract (s.size + 1 + i) (s.size + 1 + j) = t.extract i j
theorem two_of (s t : ByteArray) : Two s t (s ++ ⟨#[32]⟩ ++ t) := by
  have hd : (s ++ ⟨#[32]⟩ ++ t).data.toList = s.data.toList ++ (32 :: t.data.toList) := by simp
  have hl : s.data.toList.length = s.size := by simp
  refine ⟨by rw [ByteArray.size_append, ByteArray.size_append]; rfl, fun i hi => ?_, ?_, fun i => ?_, fun i j hj => ?_, fun i j => ?_⟩
  · rw [hd, List.getD, List.getD, List.getElem?_append_left (by omega)]
  · unfold bat
    rw [hd, List.getD, List.getElem?_append_right (by omega), hl, Nat.sub_self]; rfl
  · rw [hd, List.getD, List.getD, List.getElem?_append_right (by omega), hl, show s.size + 1 + i - s.size = i + 1 by omega, List.getElem?_cons_succ]
  · apply ByteArray.ext
    apply Array.ext'
    show ((s ++ ⟨#[32]⟩ ++ t).extract i j).data.toList = (s.extract i j).data.toList
    rw [sec_data, sec_data]
    unfold sec
    rw [hd, List.drop_append, List.take_append, List.length_drop, hl]
    have h1 : j - i - (s.size - i) = 0 := by omega
    rw [h1, List.take_zero, List.append_nil]
  · apply ByteArray.ext
    apply Array.ext'
    show ((s ++ ⟨#[32]⟩ ++ t).extract (s.size + 1 + i) (s.size + 1 + j)).data.toList = (t.extract i j).data.toList
    rw [sec_data, sec_data]
    unfold sec
    rw [hd, List.drop_append, List.drop_of_length_le (by omega), List.nil_append, hl, show s.size + 1 + i - s.size = i + 1 by omega, List.drop_succ_cons, show s.size + 1 + j - (s.size + 1 + i) = j - i by omega]
section
variable {s t J : ByteArray}
theorem Two.b1 (h : Two s t J) {i : Nat} (hi : i < s.size) : bat J i = bat s i := by unfold bat; rw [h.fst i hi]
theorem Two.b2 (h : Two s t J) (i : Nat) : bat J (s.size + 1 + i) = bat t i := by unfold bat; rw [h.snd i]
theorem pas_unique {s : ByteArray} {p : Nat → Bool} {i e : Nat} (h1 : i ≤ e) (h2 : e ≤ s.size) (h3 : ∀ j, i ≤ j → j < e → p (bat s j) = true) (h4 : e < s.size → p (bat s e) = false) : pas s p i = e := by
  have hle := pas_le s p i (by omega)
  rcases Nat.lt_trichotomy (pas s p i) e with h | h | h
  · have := pas_next (s := s) (p := p) (i := i) (by omega)
    rw [h3 _ hle.1 h] at this; cases this
  · exact h
  · have := pas_all (s := s) (p := p) (i := i) e h1 h
    rw [h4 (by omega)] at this; cases this
theorem Two.pas1 (h : Two s t J) {p : Nat → Bool} (hp : p 32 = false) {i : Nat} (hi : i ≤ s.size) : pas J p i = pas s p i := by
  have hle := pas_le s p i hi
  have hz := h.size
  refine pas_unique hle.1 (by omega) (fun j h1 h2 => ?_) (fun _ => ?_)
  · rw [h.b1 (by omega)]; exact pas_all j h1 h2
  · rcases Nat.lt_or_ge (pas s p i) s.size with q | q
    · rw [h.b1 q]; exact pas_next q
    · rw [show pas s p i = s.size by omega, h.mid]; exact hp
theorem Two.pas2 (h : Two s t J) {p : Nat → Bool} {i : Nat} (hi : i ≤ t.size) : pas J p (s.size + 1 + i) = s.size + 1 + pas t p i := by
  have hle := pas_le t p i hi
  have hz := h.size
  refine pas_unique (by omega) (by omega) (fun j h1 h2 => ?_) (fun q => ?_)
  · obtain ⟨q, rfl⟩ : ∃ q, j = s.size + 1 + q := ⟨j - (s.size + 1), by omega⟩
    rw [h.b2]; exact pas_all (i := i) q (by omega) (by omega)
  · rw [h.b2]; exact pas_next (by omega)
theorem Two.cq1 (h : Two s t J) {i : Nat} (hc : cq s i < s.size) : cq J i = cq s i ∧ ct J i = ct s i :=
  cq_ind (P := fun i => cq s i < s.size → cq J i = cq s i ∧ ct J i = ct s i) (fun i hi hc => by rw [cq_end hi] at hc; omega)
    (fun i hi hb ih hc => by
      have hz := h.size
      rw [cq_plain hi hb] at hc ⊢
      have hb' : bat J i ≠ 39 := by rw [h.b1 hi]; exact hb
      rw [cq_plain (by omega) hb', ct_plain (by omega) hb', ct_plain hi hb, h.fst i hi, (ih hc).1, (ih hc).2]
      exact ⟨rfl, rfl⟩)
    (fun i hb hd ih hc => by
      have h1 := bat_in (s := s) (i := i + 1) (by omega)
      rw [cq_two hb hd] at hc ⊢
      have hb' : bat J i = 39 := by rw [h.b1 (by omega)]; exact hb
      have hd' : bat J (i + 1) = 39 := by rw [h.b1 h1]; exact hd
      rw [cq_two hb' hd', ct_two hb' hd', ct_two hb hd, (ih hc).1, (ih hc).2]
      exact ⟨rfl, rfl⟩)
    (fun i hb hd hc => by
      have h1 := bat_in (s := s) (i := i) (by omega)
      have hb' : bat J i = 39 := by rw [h.b1 h1]; exact hb
      have hd' : bat J (i + 1) ≠ 39 := by
        rcases Nat.lt_or_ge (i + 1) s.size with q | q
        · rw [h.b1 q]; exact hd
        · rw [show i + 1 = s.size by omega, h.mid]; decide
      rw [cq_here hb' hd', cq_here hb hd, ct_here hb' hd', ct_here hb hd]
      exact ⟨rfl, rfl⟩) s.size i (by omega) hc
theorem Two.cq2 (h : Two s t J) (i : Nat) : cq J (s.size + 1 + i) = s.size + 1 + cq t i ∧ ct J (s.size + 1 + i) = ct t i :=
  cq_ind (P := fun i => cq J (s.size + 1 + i) = s.size + 1 + cq t i ∧ ct J (s.size + 1 + i) = ct t i) (fun i hi => by
      have hz := h.size
      rw [cq_end hi, ct_end hi, cq_end (by omega), ct_end (by omega)]; exact ⟨hz, rfl⟩)
    (fun i hi hb ih => by
      have hz := h.size
      have hb' : bat J (s.size + 1 + i) ≠ 39 := by rw [h.b2]; exact hb
      rw [cq_plain hi hb, ct_plain hi hb, cq_plain (by omega) hb', ct_plain (by omega) hb', h.snd i, Nat.add_assoc (s.size + 1) i 1, ih.1, ih.2]
      exact ⟨rfl, rfl⟩)
    (fun i hb hd ih => by
      have hb' : bat J (s.size + 1 + i) = 39 := by rw [h.b2]; exact hb
      have hd' : bat J (s.size + 1 + i + 1) = 39 := by rw [Nat.add_assoc, h.b2]; exact hd
      rw [cq_two hb hd, ct_two hb hd, cq_two hb' hd', ct_two hb' hd', Nat.add_assoc (s.size + 1) i 2, ih.1, ih.2]
      exact ⟨rfl, rfl⟩)
    (fun i hb hd => by
      have hb' : bat J (s.size + 1 + i) = 39 := by rw [h.b2]; exact hb
      have hd' : bat J (s.size + 1 + i + 1) ≠ 39 := by rw [Nat.add_assoc, h.b2]; exact hd
      rw [cq_here hb hd, ct_here hb hd, cq_here hb' hd', ct_here hb' hd']
      exact ⟨rfl, rfl⟩) t.size i (by omega)
theorem Two.cb1 (h : Two s t J) {i : Nat} (hc : cb s i < s.size) : cb J i = cb s i :=
  cb_ind (P := fun i => cb s i < s.size → cb J i = cb s i) (fun i hi hc => by rw [cb_end hi] at hc; omega)
    (fun i hi hb hd ih hc => by
      have hz := h.size
      rw [cb_plain hi hb hd] at hc ⊢
      rw [cb_plain (by omega) (by rw [h.b1 hi]; exact hb) (by rw [h.b1 hi]; exact hd)]
      exact ih hc)
    (fun i hi hb ih hc => by
      rw [cb_quote hb] at hc ⊢
      have hq : cq s (i + 1) < s.size := by
        have := cq_le s (i + 1) (by omega)
        rcases Nat.lt_or_ge (cq s (i + 1)) s.size with q | q
        · exact q
        · rw [cb_end (by omega)] at hc; omega
      rw [cb_quote (by rw [h.b1 hi]; exact hb), (h.cq1 hq).1]
      exact ih hc)
    (fun i hb hc => by
      rw [cb_here hb] at hc ⊢
      exact cb_here (by rw [h.b1 hc]; exact hb)) s.size i (by omega) hc
theorem Two.cb2 (h : Two s t J) (i : Nat) : cb J (s.size + 1 + i) = s.size + 1 + cb t i :=
  cb_ind (P := fun i => cb J (s.size + 1 + i) = s.size + 1 + cb t i) (fun i hi => by
      have hz := h.size
      rw [cb_end hi, cb_end (by omega)]; exact hz)
    (fun i hi hb hd ih => by
      have hz := h.size
      rw [cb_plain hi hb hd, cb_plain (by omega) (by rw [h.b2]; exact hb) (by rw [h.b2]; exact hd), Nat.add_assoc (s.size + 1) i 1]; exact ih)
    (fun i hi hb ih => by
      rw [cb_quote hb, cb_quote (by rw [h.b2]; exact hb), Nat.add_assoc (s.size + 1) i 1, (h.cq2 (i + 1)).1, Nat.add_assoc]; exact ih)
    (fun i hb => by rw [cb_here hb, cb_here (by rw [h.b2]; exact hb)]) t.size i (by omega)
theorem Two.tk1 (h : Two s t J) {i : Nat} (hi : i < s.size) (hk : (tk s i).1 ≠ 0) : tk J i = tk s i := by
  have hz := h.size
  have hq := cq_le s (i + 1) (by omega)
  have hb := cb_le s (i + 1) (by omega)
  unfold tk at hk ⊢
  rw [h.b1 hi, h.pas1 (p := wordN) rfl (by omega), h.pas1 (p := digitN) rfl (by omega), h.ext1 _ _ (pas_le s wordN i (by omega)).2, h.ext1 _ _ (pas_le s digitN i (by omega)).2]
  split
  · rfl
  · rename_i h1
    rw [if_neg h1] at hk
    split
    · rfl
    · rename_i h2
      rw [if_neg h2] at hk
      split
      · rename_i h3
        rw [if_pos h3] at hk
        by_cases hc : cq s (i + 1) = s.size
        · rw [if_pos hc] at hk; exact absurd rfl hk
        · have := h.cq1 (i := i + 1) (by omega)
          rw [if_neg hc, this.1, this.2, if_neg (by omega)]
      · rename_i h3
        rw [if_neg h3] at hk
        split
        · rename_i h4
          rw [if_pos h4] at hk
          by_cases hc : cb s (i + 1) = s.size
          · rw [if_pos hc] at hk; exact absurd rfl hk
          · have := h.cb1 (i := i + 1) (by omega)
            rw [if_neg hc, this, if_neg (by omega), h.ext1 _ _ hb.2]
        · have h61 : (bat s i = 58 ∧ bat J (i + 1) = 61) ↔ (bat s i = 58 ∧ bat s (i + 1) = 61) := by
            rcases Nat.lt_or_ge (i + 1) s.size with q | q
            · rw [h.b1 q]
            · have e1 : bat J (i + 1) = 32 := by rw [show i + 1 = s.size by omega]; exact h.mid
              have e2 := bat_end s (i + 1) q
              omega
          by_cases hg : bat s i = 58 ∧ bat s (i + 1) = 61
          · have := bat_in (s := s) (i := i + 1) (by omega)
            rw [if_pos hg, if_pos (h61.2 hg), h.ext1 _ _ (by omega)]
          · rw [if_neg hg, if_neg (fun k => hg (h61.1 k)), h.ext1 _ _ (by omega)]
theorem Two.tk2 (h : Two s t J) {i : Nat} (hi : i < t.size) : tk J (s.size + 1 + i) = ((tk t i).1, s.size + 1 + (tk t i).2.1, (tk t i).2.2) := by
  have hz := h.size
  have hq := cq_le t (i + 1) (by omega)
  have hb := cb_le t (i + 1) (by omega)
  have c2 := h.cq2 (i + 1)
  have b2 := h.cb2 (i + 1)
  rw [← Nat.add_assoc] at c2 b2
  unfold tk
  rw [h.b2, h.pas2 (p := wordN) (by omega), h.pas2 (p := digitN) (by omega), h.ext2, h.ext2, c2.1, c2.2, b2]
  split
  · rfl
  · split
    · rfl
    · split
      · by_cases hc : cq t (i + 1) = t.size
        · rw [if_pos hc, if_pos (by omega)]; dsimp only; rw [hz]
        · rw [if_neg hc, if_neg (by omega)]; rfl
      · split
        · by_cases hc : cb t (i + 1) = t.size
          · rw [if_pos hc, if_pos (by omega)]; dsimp only; rw [hz]
          · rw [if_neg hc, if_neg (by omega), Nat.add_assoc (s.size + 1) i 1, h.ext2]; rfl
        · rw [Nat.add_assoc (s.size + 1) i 1, h.b2, Nat.add_assoc (s.size + 1) i 2, h.ext2, h.ext2]
          split
          · rfl
          · split <;> rfl
def mv (d : Nat) (x : Tk) : Tk := ⟨x.k, x.t, x.a + d⟩
theorem Two.ln1 (h : Two s t J) {i : Nat} {l : List Tk} (hi : i ≤ s.size) : (ln s i l).2.1 = 0 → ln J i l = ln J s.size (ln s i l).1 :=
  ln_ind (P := fun i l => (ln s i l).2.1 = 0 → ln J i l = ln J s.size (ln s i l).1) (fun l _ => by rw [ln_end])
    (fun i l hi hb ih h0 => by
      have hz := h.size
      rw [ln_blank hi hb] at h0 ⊢
      rw [ln_blank (s := J) (by omega) (by rw [h.b1 hi]; exact hb)]; exact ih h0)
    (fun i l hi hb hk h0 => by rw [ln_bad hi hb hk] at h0; cases h0)
    (fun i l hi hb hk ih h0 => by
      have hz := h.size
      have ht := h.tk1 hi hk
      rw [ln_tok hi hb hk] at h0 ⊢
      rw [ln_tok (s := J) (by omega) (by rw [h.b1 hi]; exact hb) (by rw [ht]; exact hk), ht]; exact ih h0) s.size i l hi (by omega)
theorem Two.ln2 (h : Two s t J) {i : Nat} {l : List Tk} (hi : i ≤ t.size) (A : List Tk) : (ln t i l).2.1 = 0 → ln J (s.size + 1 + i) (A ++ l.map (mv (s.size + 1))) = (A ++ (ln t i l).1.map (mv (s.size + 1)), 0, 0) :=
  ln_ind (P := fun i l => (ln t i l).2.1 = 0 → ln J (s.size + 1 + i) (A ++ l.map (mv (s.size + 1))) = (A ++ (ln t i l).1.map (mv (s.size + 1)), 0, 0)) (fun l _ => by rw [ln_end, ← h.size, ln_end])
    (fun i l hi hb ih h0 => by
      have hz := h.size
      rw [ln_blank hi hb] at h0 ⊢
      rw [ln_blank (s := J) (by omega) (by rw [h.b2]; exact hb), Nat.add_assoc (s.size + 1) i 1]; exact ih h0)
    (fun i l hi hb hk h0 => by rw [ln_bad hi hb hk] at h0; cases h0)
    (fun i l hi hb hk ih h0 => by
      have hz := h.size
      have ht := h.tk2 hi
      rw [ln_tok hi hb hk] at h0 ⊢
      rw [ln_tok (s := J) (by omega) (by rw [h.b2]; exact hb) (by rw [ht]; exact hk), ht]
      have := ih h0
      rw [List.map_append, ← List.append_assoc] at this
      rw [← this]
      show ln J _ _ = ln J _ _
      congr 1
      show A ++ l.map (mv (s.size + 1)) ++ [⟨(tk t i).1, (tk t i).2.2, s.size + 1 + i⟩] = A ++ l.map (mv (s.size + 1)) ++ [⟨(tk t i).1, (tk t i).2.2, i + (s.size + 1)⟩]
      rw [Nat.add_comm i]) t.size i l hi (by omega)
theorem Two.line (h : Two s t J) (h1 : (lineP s).2.1 = 0) (h2 : (lineP t).2.1 = 0) (hz : s.size + t.size + 1 ≤ 2000) : lineP J = ((lineP s).1 ++ (lineP t).1.map (mv (s.size + 1)), 0, 0) := by
  have hJ := h.size
  have e1 : lineP s = ln s 0 [] := by unfold lineP; rw [if_neg (by omega)]
  have e2 : lineP t = ln t 0 [] := by unfold lineP; rw [if_neg (by omega)]
  have e3 : lineP J = ln J 0 [] := by unfold lineP; rw [if_neg (by omega)]
  rw [e1] at h1 ⊢
  rw [e2] at h2 ⊢
  rw [e3, h.ln1 (Nat.zero_le _) h1, ln_blank (by omega) h.mid]
  have := h.ln2 (i := 0) (l := []) (Nat.zero_le _) (ln s 0 []).1 h2
  simpa using this
end
end Go.Proofs.YtljkendefdhklaaDoor
