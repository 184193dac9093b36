/- A set comes back from its text and from its bytes. -/
import Derived.Test.YtgamnhmkimonnaaRtPlain
namespace Go.Proofs.Ytgamnhmkimonnaa

theorem readSaid_list (l : List UInt8) (hl : l.length ≤ 65536) (q : Nat → Bool) (h : rd (cl l) l.length l.length (if cl l 0 = 94 then 1 else 0) (fun _ => false) = (0, 0, q)) :
    readSaid ⟨l.toArray⟩ = (0, 0, if cl l 0 = 94 then fun x => !q x else q) := by
  have hs : (⟨l.toArray⟩ : ByteArray).size = l.length := by show l.toArray.size = _; simp
  unfold readSaid readIn
  rw [hs, if_neg (by omega), ch_mk, h]
  simp
/-- What is written is read. -/
theorem read_print (p : Nat → Bool) : readV (readSaid ⟨(pr p 256 0).toArray⟩) = .tuple #[sv p, fv 0 0] := by
  have hl : (pr p 256 0).length ≤ 1792 := pr_len p 256 0
  have h94 := (pr_head p 256 0).2
  obtain ⟨q, h1, h2⟩ := rd_pr p 256 0 [] (fun _ => false) (pr p 256 0).length (by omega) (fun x _ => by rw [decide_eq_false (by omega), Bool.and_false]) (Nat.le_refl _)
  have := readSaid_list (pr p 256 0) (by omega) q (by rw [if_neg h94]; exact h1)
  rw [this, if_neg h94]
  unfold readV
  rw [sv_congr h2]
/-- With the sign ahead: all others. -/
theorem read_not (p : Nat → Bool) : readV (readSaid ⟨([94] ++ pr p 256 0).toArray⟩) = .tuple #[sv fun c => !p c, fv 0 0] := by
  have hl : (pr p 256 0).length ≤ 1792 := pr_len p 256 0
  have h94 : cl ([94] ++ pr p 256 0) 0 = 94 := rfl
  obtain ⟨q, h1, h2⟩ := rd_pr p 256 0 [94] (fun _ => false) ([94] ++ pr p 256 0).length (by omega) (fun x _ => by rw [decide_eq_false (by omega), Bool.and_false]) (by rw [List.length_append]; omega)
  have := readSaid_list ([94] ++ pr p 256 0) (by rw [List.length_append]; simp; omega) q (by rw [if_pos h94]; exact h1)
  rw [this, if_pos h94]
  unfold readV
  rw [sv_congr (p := fun x => !q x) (q := fun c => !p c) fun b hb => by rw [h2 b hb]]
theorem inT_any (t : ByteArray) (c : Nat) : ∀ k, k ≤ t.size → inT t k c = (t.data.toList.take k).any fun b => c == b.toNat
  | 0, _ => by simp [inT]
  | k + 1, h => by
    have hk : k < t.data.toList.length := by have : t.data.toList.length = t.size := by simp
                                             omega
    have ih := inT_any t c k (by omega)
    rw [List.take_succ_eq_append_getElem hk, List.any_append, ← ih]
    show (inT t k c || c == (t.data.toList.getD k 0).toNat) = _
    rw [List.getD_eq_getElem?_getD, List.getElem?_eq_getElem hk]
    simp
theorem tx_any (p : Nat → Bool) (c : Nat) (hc : c < 256) : ∀ k, k ≤ 256 → ((tx p k).any fun b => c == b.toNat) = (p c && decide (c < k))
  | 0, _ => by simp [tx]
  | k + 1, h => by
    have ih := tx_any p c hc k (by omega)
    show ((tx p k ++ if p k then [UInt8.ofNat k] else []).any fun b => c == b.toNat) = _
    rw [List.any_append, ih]
    have hkk : (UInt8.ofNat k).toNat = k := by rw [UInt8.toNat_ofNat', Nat.mod_eq_of_lt (by omega)]
    by_cases e : c = k
    · subst e
      cases hp : p c with
      | true => simp [hkk]
      | false => simp
    · have h1 : (c == k) = false := by rw [beq_eq_false_iff_ne]; exact e
      have h2 : decide (c < k + 1) = decide (c < k) := by simp only [decide_eq_decide]; omega
      rw [h2]
      cases hp : p k with
      | true => simp [hkk, h1]
      | false => simp
theorem of_text (p : Nat → Bool) : sv (inT ⟨(tx p 256).toArray⟩ (⟨(tx p 256).toArray⟩ : ByteArray).size) = sv p := by
  apply sv_congr
  intro c hc
  rw [inT_any _ _ _ (Nat.le_refl _)]
  have e : (⟨(tx p 256).toArray⟩ : ByteArray).data.toList.take (⟨(tx p 256).toArray⟩ : ByteArray).size = tx p 256 := by
    show List.take (tx p 256).toArray.size (tx p 256) = _
    rw [List.size_toArray, List.take_length]
  rw [e, tx_any p c hc 256 (Nat.le_refl _), decide_eq_true hc, Bool.and_true]
/-- What cannot be read gives no byte. -/
theorem readSaid_err (t : ByteArray) (h : (readSaid t).1 ≠ 0) : (readSaid t).2.2 = fun _ => false := by
  unfold readSaid at h ⊢
  split
  · rfl
  · rename_i h1
    rw [if_neg h1] at h
    split
    · rfl
    · rename_i h2
      rw [if_neg h2] at h
      exact absurd rfl h
end Go.Proofs.Ytgamnhmkimonnaa
