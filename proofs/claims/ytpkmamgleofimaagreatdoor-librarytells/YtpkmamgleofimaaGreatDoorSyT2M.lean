/- The reader of lines: the signs that stand between; tokens are small. The tokens of a line are small, and numbers have digits alone. -/
import Derived.Test.YtpkmamgleofimaaGreatDoorSySM
import Derived.Test.YtpkmamgleofimaaGreatDoorSyAM
namespace Go.Proofs.YtpkmamgleofimaaGreatDoor
open Go.RowKit

def btN : Nat → ByteArray → Option Int
  | 0 => fun _ => none
  | n + 1 => fun t => if t = signX ((8 + n : Nat) : Int) then some ((8 + n : Nat) : Int) else btN n t
theorem bt_all : btN 6 = btwF := by
  funext t
  have e : ∀ (k : Int) (b : UInt8), signX k = sgn b → (t = signX k ↔ t = sgn b) := fun k b h => by rw [h]
  unfold btwF btw
  simp only [btN, e _ 38 (show signX ((8 + 0 : Nat) : Int) = sgn 38 from rfl), e _ 43 (show signX ((8 + 1 : Nat) : Int) = sgn 43 from rfl), e _ 45 (show signX ((8 + 2 : Nat) : Int) = sgn 45 from rfl), e _ 42 (show signX ((8 + 3 : Nat) : Int) = sgn 42 from rfl), e _ 47 (show signX ((8 + 4 : Nat) : Int) = sgn 47 from rfl), e _ 37 (show signX ((8 + 5 : Nat) : Int) = sgn 37 from rfl)]
  by_cases h1 : t = sgn 38
  · subst h1; decide
  · by_cases h2 : t = sgn 43
    · subst h2; decide
    · by_cases h3 : t = sgn 45
      · subst h3; decide
      · by_cases h4 : t = sgn 42
        · subst h4; decide
        · by_cases h5 : t = sgn 47
          · subst h5; decide
          · by_cases h6 : t = sgn 37
            · subst h6; decide
            · simp only [h1, h2, h3, h4, h5, h6, if_false, if_true]
set_option maxRecDepth 100000 in
set_option maxHeartbeats 4000000 in
theorem sbetween_any (w : World) (hX : ShapesX w) : Calls Tryz.prog 34 #[] w fun e w' => e = .returned (.map (some w.heap.size)) ∧ MI w' w.heap.size 6 btwF ∧ Below w.heap.size w w' := by
  have hmm := @run_makeMap Tryz.prog
  have HX := hide hX
  have HB0 : Hid (Below w.heap.size w (w.alloc (.map #[] 0))) := hide (ba _)
  have HM0 := hide (MI.new (w := w))
  have hgl : (0 : Nat) < w.heap.size := World.block_lt_of_cell? _ _ (hX 8 (by decide) (by decide)).1
  clear hX
  go_enter Tryz.func34, Tryz.ntmps34
  go_wp2_with fail
  go_loopw [2] (fun v wr => ∃ n : Nat, n ≤ 6 ∧ v = .int .i64 ((8 + n : Nat) : Int) ∧ Hid (MI wr w.heap.size n (btN n) ∧ Below w.heap.size w wr)) (fun v _ => 14 - (intOf v).toNat)
  case atStart => exact ⟨0, by decide, rfl, unhide HM0, unhide HB0⟩
  case round =>
    obtain ⟨n, hn, rfl, HI⟩ := hrel
    rcases Nat.lt_or_ge n 6 with hlt | hge
    · obtain ⟨K, hK⟩ : ∃ K : Nat, K = 8 + n := ⟨_, rfl⟩
      have hsg := (unhide HX K (by omega) (by omega)).1
      have hsg2 := cell_later (unhide HI).2 hsg
      have HP : Hid ((fun t => if t = signX (K : Int) then some (K : Int) else btN n t) = btN (n + 1)) := hide (by rw [hK]; rfl)
      rw [← hK]
      have hK1 : (K : Int) ≤ 13 := by omega
      have hK8 : 8 ≤ K ∧ K ≤ 13 := by omega
      have HK := hide hK
      have hss : (signX (K : Int)).size ≤ maxLen := by
        have : K = 8 ∨ K = 9 ∨ K = 10 ∨ K = 11 ∨ K = 12 ∨ K = 13 := by omega
        unfold maxLen
        rcases this with rfl | rfl | rfl | rfl | rfl | rfl <;> decide
      have HSS := hide hss
      clear hsg hK hss
      generalize hsx : signX (K : Int) = sx at *
      go_wp2_with (first
        | (refine wpl_insert rfl _ _ _ (.inr rfl) rfl (unhide HI).1 (by omega) sx (K : Int) rfl rfl (unhide HSS) (by simp [Lit.wf, IntKind.min, IntKind.max, IntKind.signed, IntKind.bits]; omega) ?_; intro w6 hM6 hg6; rw [unhide HP] at hM6; have HZ : Hid (MI w6 w.heap.size (n + 1) (btN (n + 1)) ∧ Below w.heap.size w w6) := hide (⟨hM6, (unhide HI).2.trans ⟨hg6.os, hg6.tape, hg6.output, hg6.size, fun k hk => hg6.block k (Nat.lt_of_lt_of_le hk (unhide HI).2.size) (fun e => by injection e with e; omega)⟩⟩); clear hM6 hg6)
        | fail)
      have hk := unhide HK
      exact ⟨⟨n + 1, by omega, by rw [hk]; go_num, unhide HZ⟩, by simp [intOf]; omega⟩
    · obtain rfl : n = 6 := by omega
      go_wp2_with fail
      go_ret
      exact ⟨rfl, by rw [← bt_all]; exact (unhide HI).1, (unhide HI).2⟩
end Go.Proofs.YtpkmamgleofimaaGreatDoor

namespace Go.Proofs.YtpkmamgleofimaaGreatDoor
open Go.RowKit

theorem ct_lenS (s : ByteArray) (i : Nat) : (ct s i).length ≤ s.size - i :=
  cq_ind (P := fun i => (ct s i).length ≤ s.size - i) (fun i hi => by rw [ct_end hi]; exact Nat.zero_le _) (fun i hi hb ih => by rw [ct_plain hi hb, List.length_cons]; omega)
    (fun i hb hc ih => by rw [ct_two hb hc, List.length_cons]; have := bat_in (s := s) (i := i + 1) (by omega); omega) (fun i hb hc => by rw [ct_here hb hc]; exact Nat.zero_le _) s.size i (by omega)
theorem extS (s : ByteArray) (i j : Nat) : (s.extract i j).size ≤ s.size := by rw [ByteArray.size_extract]; omega
theorem tk_sizeS (s : ByteArray) (i : Nat) : (tk s i).2.2.size ≤ s.size := by
  unfold tk
  split
  · exact extS s _ _
  · split
    · exact extS s _ _
    · split
      · split
        · exact Nat.zero_le _
        · show (ct s (i + 1)).toArray.size ≤ s.size
          have := ct_lenS s (i + 1)
          simp only [List.size_toArray]; omega
      · split
        · split
          · exact Nat.zero_le _
          · exact extS s _ _
        · split
          · exact extS s _ _
          · split
            · exact extS s _ _
            · exact Nat.zero_le _
theorem dig_bytes (s : ByteArray) (i : Nat) : ∀ b ∈ (s.extract i (pas s digitN i)).data.toList, 48 ≤ b.toNat ∧ b.toNat ≤ 57 := fun b hb => by
  obtain ⟨m, hm⟩ := List.mem_iff_getElem?.1 hb
  have hlt := (List.getElem?_eq_some_iff.1 hm).1
  rw [ByteArray.data_extract, Array.length_toList, Array.size_extract] at hlt
  rw [ByteArray.data_extract, Array.getElem?_toList, Array.getElem?_extract, if_pos (by omega)] at hm
  have hd := pas_all (s := s) (p := digitN) (i := i) (i + m) (by omega) (by omega)
  have hb2 : bat s (i + m) = b.toNat := by
    unfold bat
    rw [List.getD_eq_getElem?_getD, Array.getElem?_toList, hm]; rfl
  rw [hb2] at hd
  exact digit_range hd
theorem tk_TkS {s : ByteArray} (hs : s.size ≤ 2000) {i : Nat} (hi : i < s.size) : TkS ⟨(tk s i).1, (tk s i).2.2, i⟩ := by
  refine ⟨(tk_le s i hi).2.2.2, Nat.le_trans (tk_sizeS s i) hs, (by show i ≤ 2000; omega), fun h2 => ?_⟩
  have h2 : (tk s i).1 = 2 := h2
  show (tk s i).2.2.size ≠ 0 ∧ ∀ b ∈ (tk s i).2.2.data.toList, 48 ≤ b.toNat ∧ b.toNat ≤ 57
  unfold tk at h2 ⊢
  split at h2
  · cases h2
  · split at h2
    · rename_i hl hd
      rw [if_neg hl, if_pos hd]
      refine ⟨?_, dig_bytes s i⟩
      show (s.extract i (pas s digitN i)).size ≠ 0
      have h1 := pas_le s digitN (i + 1) (by omega)
      rw [ByteArray.size_extract, pas_step hi hd]
      omega
    · split at h2
      · split at h2 <;> cases h2
      · split at h2
        · split at h2 <;> cases h2
        · split at h2
          · cases h2
          · split at h2 <;> cases h2
theorem line_TkS (s : ByteArray) : ∀ x ∈ (lineP s).1, TkS x := by
  unfold lineP
  split
  · intro x hx; cases hx
  · rename_i hs
    exact ln_ind (P := fun i l => (∀ x ∈ l, TkS x) → ∀ x ∈ (ln s i l).1, TkS x) (fun l h => by rw [ln_end]; exact h) (fun i l hi hb ih h => by rw [ln_blank hi hb]; exact ih h) (fun i l hi hb hk h => by rw [ln_bad hi hb hk]; intro x hx; cases hx)
      (fun i l hi hb hk ih h => by
        rw [ln_tok hi hb hk]
        refine ih fun x hx => ?_
        rcases List.mem_append.1 hx with q | q
        · exact h x q
        · rw [List.mem_singleton] at q
          subst q
          exact tk_TkS (by omega) hi) s.size 0 [] (Nat.zero_le _) (by omega) (fun x hx => by cases hx)
end Go.Proofs.YtpkmamgleofimaaGreatDoor
