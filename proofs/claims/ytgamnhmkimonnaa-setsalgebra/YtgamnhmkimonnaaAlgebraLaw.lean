/- What the law SetsAlgebra answers, for every three sets: true. -/
import Derived.Test.YtgamnhmkimonnaaAlgebra
namespace Go.Proofs.Ytgamnhmkimonnaa
open Go.RowKit

theorem cnt_or_and (p q : Nat → Bool) : ∀ n, cnt p n + cnt q n = cnt (fun c => p c || q c) n + cnt (fun c => p c && q c) n
  | 0 => rfl
  | n + 1 => by
    have := cnt_or_and p q n
    cases h1 : p n <;> cases h2 : q n <;> simp [cnt, h1, h2] <;> omega
theorem cnt_not (p : Nat → Bool) : ∀ n, cnt (fun c => !p c) n = n - cnt p n
  | 0 => rfl
  | n + 1 => by
    have := cnt_not p n
    have := cnt_le p n
    cases h1 : p n <;> simp [cnt, h1] <;> omega

theorem setsAlgebra_walk (p q r : Nat → Bool) (w : World) :
    Calls Try.prog 5 #[sv p, sv q, sv r] w fun e w' => e = .returned (.bool true) ∧ Below w.heap.size w w' := by
  have E1 : sv (fun c => !p c && !q c) = sv (fun c => !(p c || q c)) := sv_congr fun c _ => by cases p c <;> cases q c <;> rfl
  have E2 : sv (fun c => !!p c) = sv p := sv_congr fun c _ => by cases p c <;> rfl
  have E3 : sv (fun c => (p c && q c) || (p c && r c)) = sv (fun c => p c && (q c || r c)) := sv_congr fun c _ => by cases p c <;> cases q c <;> cases r c <;> rfl
  have E4 : sv (fun c => (p c || q c) && (p c || r c)) = sv (fun c => p c || (q c && r c)) := sv_congr fun c _ => by cases p c <;> cases q c <;> cases r c <;> rfl
  have E5 : sv (fun c => (p c && !q c) || (p c && q c)) = sv p := sv_congr fun c _ => by cases p c <;> cases q c <;> rfl
  refine algebra_abs (wd p 0) (wd p 1) (wd p 2) (wd p 3) (wd q 0) (wd q 1) (wd q 2) (wd q 3) (wd r 0) (wd r 1) (wd r 2) (wd r 3) (cnt p 256) (cnt q 256) (cnt (fun c => p c || q c) 256) (cnt (fun c => p c && q c) 256) (cnt (fun c => !p c) 256)
    (sc fun c => p c || q c) (sc fun c => !(p c || q c)) (sc fun c => !p c) (sc fun c => !q c) (sc fun c => q c || r c) (sc fun c => p c && (q c || r c)) (sc fun c => p c && q c) (sc fun c => p c && r c) (sc fun c => q c && r c) (sc fun c => p c || (q c && r c)) (sc fun c => p c || r c) (sc fun c => p c && !q c)
    (fun W => union_any p q W) (fun W => not_any _ W) (fun W => not_any p W) (fun W => not_any q W) (fun W => ?_) (fun W => ?_) (fun W => union_any q r W) (fun W => meet_any p (fun c => q c || r c) W) (fun W => meet_any p q W) (fun W => meet_any p r W) (fun W => ?_) (fun W => meet_any q r W) (fun W => union_any p (fun c => q c && r c) W) (fun W => union_any p r W) (fun W => ?_) (fun W => less_any p q W) (fun W => ?_) (fun W => meet_any p (fun c => !q c) W)
    (fun W => size_any p W) (fun W => size_any q W) (fun W => size_any _ W) (fun W => size_any _ W) (fun W => size_any _ W)
    (fun W => eq_set _ W) (fun W => eq_set _ W) (fun W => eq_set _ W) (fun W => eq_set _ W) (fun W => eq_set p W)
    (cnt p 256 + cnt q 256) (by omega) (by have := cnt_or_and p q 256; omega) (by have := cnt_not p 256; have := cnt_le p 256; omega) (cnt_le _ _) (cnt_le _ _) (cnt_le _ _) (cnt_le _ _) w
  · have := meet_any (fun c => !p c) (fun c => !q c) W
    rw [E1] at this
    exact this
  · have := not_any (fun c => !p c) W
    rw [E2] at this
    exact this
  · have := union_any (fun c => p c && q c) (fun c => p c && r c) W
    rw [E3] at this
    exact this
  · have := meet_any (fun c => p c || q c) (fun c => p c || r c) W
    rw [E4] at this
    exact this
  · have := union_any (fun c => p c && !q c) (fun c => p c && q c) W
    rw [E5] at this
    exact this
end Go.Proofs.Ytgamnhmkimonnaa
