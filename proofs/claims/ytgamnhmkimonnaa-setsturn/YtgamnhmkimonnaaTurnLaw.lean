/- What the law SetsTurn answers, for every set and text: true. -/
import Derived.Test.YtgamnhmkimonnaaTurnErr
import Derived.Test.YtgamnhmkimonnaaTurnPlain
namespace Go.Proofs.Ytgamnhmkimonnaa
open Go.RowKit

theorem readSaid_ok (t : ByteArray) (h : (readSaid t).1 = 0) : readSaid t = (0, 0, (readSaid t).2.2) := by
  unfold readSaid at h ⊢
  split
  · rename_i h1; rw [if_pos h1] at h; simp at h
  · rename_i h1
    rw [if_neg h1] at h
    split
    · rename_i h2; rw [if_pos h2] at h; exact absurd h h2
    · rfl
theorem sv_none : sv (fun _ => false) = .agg #[.int .u64 0, .int .u64 0, .int .u64 0, .int .u64 0] := by
  unfold sv
  rw [← zerosS_eq]
  rfl
theorem size_list (l : List UInt8) : (⟨l.toArray⟩ : ByteArray).size = l.length := by show l.toArray.size = _; simp

theorem setsTurn_walk (p : Nat → Bool) (t : ByteArray) (ht : t.size ≤ maxLen) (w : World) :
    Calls Try.prog 6 #[sv p, .string t] w fun e w' => e = .returned (.bool true) ∧ Below w.heap.size w w' := by
  have hl : (pr p 256 0).length ≤ 1792 := pr_len p 256 0
  have hx : (tx p 256).length ≤ 256 := tx_le p 256
  have kr := fun W => read_any ⟨(pr p 256 0).toArray⟩ W (by rw [size_list]; unfold maxLen; omega)
  rw [read_print] at kr
  have kn := fun W => read_any ⟨([94] ++ pr p 256 0).toArray⟩ W (by rw [size_list, List.length_append]; unfold maxLen; simp; omega)
  rw [read_not] at kn
  have kf := fun W => of_any ⟨(tx p 256).toArray⟩ W (by rw [size_list]; unfold maxLen; omega)
  rw [of_text] at kf
  have hT : (⟨#[94]⟩ : ByteArray) ++ ⟨(pr p 256 0).toArray⟩ = ⟨([94] ++ pr p 256 0).toArray⟩ := by
    apply ByteArray.ext
    rw [ByteArray.data_append]
    simp
  have hTs : (⟨(pr p 256 0).toArray⟩ : ByteArray).size ≤ 65535 := by rw [size_list]; omega
  have rt := fun W => read_any t W ht
  by_cases he : (readSaid t).1 = 0
  · rw [readSaid_ok t he] at rt
    have hl2 : (pr (readSaid t).2.2 256 0).length ≤ 1792 := pr_len _ 256 0
    have rz := fun W => read_any ⟨(pr (readSaid t).2.2 256 0).toArray⟩ W (by rw [size_list]; unfold maxLen; omega)
    rw [read_print] at rz
    generalize (readSaid t).2.2 = z at *
    exact turn_ok (wd p 0) (wd p 1) (wd p 2) (wd p 3) (wd (fun c => !p c) 0) (wd (fun c => !p c) 1) (wd (fun c => !p c) 2) (wd (fun c => !p c) 3) (wd z 0) (wd z 1) (wd z 2) (wd z 3) _ _ _ t ⟨(pr z 256 0).toArray⟩ hT hTs
      (fun W => print_any p W) kr kn (fun W => not_any p W) (fun W => text_any p W) kf rt (fun W => eq_set p W) (fun W => eq_set _ W) (fun W => eq_set z W) (fun W => print_any z W) rz w
  · have hz := readSaid_err t he
    have hv : readV (readSaid t) = .tuple #[.agg #[.int .u64 0, .int .u64 0, .int .u64 0, .int .u64 0], .agg #[.int .i64 ((readSaid t).1 : Int), .int .i64 ((readSaid t).2.1 : Int)]] := by
      unfold readV
      rw [hz, sv_none]
      rfl
    rw [hv] at rt
    have ez : ∀ W, (Op.equalIn 10000 24 (.agg #[.int .u64 0, .int .u64 0, .int .u64 0, .int .u64 0]) (.agg #[.int .u64 0, .int .u64 0, .int .u64 0, .int .u64 0])).run Try.prog W = .ok true W := fun W => by
      have := eq_set (fun _ => false) W
      rw [sv_none] at this
      exact this
    exact turn_err (wd p 0) (wd p 1) (wd p 2) (wd p 3) (wd (fun c => !p c) 0) (wd (fun c => !p c) 1) (wd (fun c => !p c) 2) (wd (fun c => !p c) 3) (readSaid t).1 (readSaid t).2.1 _ _ _ t hT hTs
      (fun W => print_any p W) kr kn (fun W => not_any p W) (fun W => text_any p W) kf rt (fun W => eq_set p W) (fun W => eq_set _ W) ez (by rw [bne_iff_ne]; omega) w
end Go.Proofs.Ytgamnhmkimonnaa
