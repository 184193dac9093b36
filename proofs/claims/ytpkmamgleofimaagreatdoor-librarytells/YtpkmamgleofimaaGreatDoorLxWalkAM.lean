/- Lines of a program that are read, plain: what is left is no longer. The small functions of lex. -/
import Derived.Test.YtpkmamgleofimaaGreatDoorSyPlainM
namespace Go.Proofs.YtpkmamgleofimaaGreatDoor
open Go.RowKit

def Le {α : Type} (n : Nat) (R : Sy α) : Prop := ∀ x r, R = .ok (x, r) → r.length ≤ n
section
variable {α β : Type} {n : Nat}
theorem Le.err (e : Int × Nat) : Le (α := α) n (.error e) := fun _ _ h => by cases h
theorem Le.ok {x : α} {r : List Tk} (h : r.length ≤ n) : Le n (.ok (x, r)) := fun _ _ q => by injection q with q; injection q with _ q; rw [← q]; exact h
theorem Le.bind {R : Sy α} {f : α → List Tk → Sy β} (h : Le n R) (k : ∀ a j, j.length ≤ n → Le n (f a j)) : Le n (sbd R f) := fun x r q => by
  obtain ⟨a, j, h1, h2⟩ := sbd_some q
  exact k a j (h a j h1) x r h2
theorem Le.ite {c : Prop} [Decidable c] {a b : Sy α} (h : c → Le n a) (k : ¬ c → Le n b) : Le n (if c then a else b) := by
  split
  · exact h ‹_›
  · exact k ‹_›
theorem Le.mono {m : Nat} {R : Sy α} (h : Le n R) (hm : n ≤ m) : Le m R := fun x r q => Nat.le_trans (h x r q) hm
end
theorem tail_le (l : List Tk) : l.tail.length ≤ l.length := by rw [List.length_tail]; omega
section
variable {E : Nat}
theorem ndS_le (s : ByteArray) (l : List Tk) : Le l.length (ndS E s l) := Le.ite (fun _ => Le.ok (tail_le l)) fun _ => Le.err _
theorem nmS_le (l : List Tk) : Le l.length (nmS E l) := Le.ite (fun _ => Le.ite (fun _ => Le.ok (tail_le l)) fun _ => Le.err _) fun _ => Le.err _
theorem nuS_le (l : List Tk) : Le l.length (nuS E l) := Le.ite (fun _ => Le.err _) fun _ => Le.ite (fun _ => Le.err _) fun _ => Le.ok (tail_le l)
theorem tmS_le {α : Type} (n : Nat) (l : List Tk) : Le n (tmS (α := α) E l) := Le.err _
def LvLe (p : Option Lv) : Prop := ∀ q, p = some q → ∀ l : List Tk, Le l.length (q.sg l) ∧ Le l.length (q.pi l) ∧ Le l.length (q.xp l)
variable {p : Option Lv}
theorem xpO_le (h : LvLe p) (l : List Tk) : Le l.length (xpO E p l) := by
  unfold xpO
  split
  · exact Le.err _
  · exact (h _ rfl l).2.2
theorem piO_le (h : LvLe p) (l : List Tk) : Le l.length (piO E p l) := by
  unfold piO
  split
  · exact Le.err _
  · exact (h _ rfl l).2.1
theorem sgO_le (h : LvLe p) (l : List Tk) : Le l.length (sgO E p l) := by
  unfold sgO
  split
  · exact Le.err _
  · exact (h _ rfl l).1
theorem agF_le (h : LvLe p) : ∀ (f : Nat) (o : List PT) (l : List Tk), Le l.length (agF E p f o l)
  | 0, _, _ => Le.err _
  | f + 1, o, l => by
    unfold agF
    refine Le.ite (fun _ => tmS_le _ _) fun _ => Le.bind (xpO_le h l) fun x r hr => Le.ite (fun _ => (agF_le h f _ r.tail).mono (Nat.le_trans (tail_le r) hr)) fun _ => Le.bind ((ndS_le _ r).mono hr) fun _ q hq => Le.ok hq
theorem agS_le (h : LvLe p) (l : List Tk) : Le l.length (agS E p l) := Le.ite (fun _ => Le.ok (tail_le l)) fun _ => agF_le h _ _ l
theorem npS_le (h : LvLe p) (l : List Tk) : Le l.length (npS E p l) :=
  Le.bind (nmS_le l) fun _ r hr => Le.ite (fun _ => Le.bind ((xpO_le h r.tail).mono (Nat.le_trans (tail_le r) hr)) fun _ q hq => Le.bind ((ndS_le _ q).mono hq) fun _ _ hm => Le.ok hm)
    fun _ => Le.ite (fun _ => Le.bind ((agS_le h r.tail).mono (Nat.le_trans (tail_le r) hr)) fun _ _ hq => Le.ok hq) fun _ => Le.ok hr
theorem piS_le (h : LvLe p) (l : List Tk) : Le l.length (piS E p l) :=
  Le.ite (fun _ => npS_le h l) fun _ => Le.ite (fun _ => Le.bind (nuS_le l) fun _ _ hr => Le.ok hr) fun _ => Le.ite (fun _ => Le.ok (tail_le l)) fun _ =>
    Le.ite (fun _ => Le.bind ((piO_le h l.tail).mono (tail_le l)) fun _ _ hr => Le.ok hr) fun _ => Le.bind (ndS_le _ l) fun _ r hr => Le.bind ((xpO_le h r).mono hr) fun _ q hq => Le.bind ((ndS_le _ q).mono hq) fun _ _ hm => Le.ok hm
theorem sgS_le (h : LvLe p) (l : List Tk) : Le l.length (sgS E p l) := Le.ite (fun _ => Le.bind ((sgO_le h l.tail).mono (tail_le l)) fun _ _ hr => Le.ok hr) fun _ => piS_le h l
theorem rwF_le {lv : Nat} {N : List Tk → Sy PT} (hN : ∀ l, Le l.length (N l)) : ∀ (f : Nat) (x : PT) (l : List Tk), Le l.length (rwF E lv N f x l)
  | 0, _, _ => Le.err _
  | f + 1, x, l => by
    unfold rwF
    exact Le.ite (fun _ => Le.ok (Nat.le_refl _)) fun _ => Le.bind ((hN l.tail).mono (tail_le l)) fun y r hr => (rwF_le hN f _ r).mono hr
theorem rwS_le {lv : Nat} {N : List Tk → Sy PT} (hN : ∀ l, Le l.length (N l)) (l : List Tk) : Le l.length (rwS E lv N l) := Le.bind (hN l) fun x r hr => (rwF_le hN _ x r).mono hr
theorem rowS_le (h : LvLe p) (lv : Nat) (l : List Tk) : Le l.length (rowS E p lv l) := by
  unfold rowS
  split
  · exact rwS_le (rwS_le (rwS_le (sgS_le h))) l
  · split
    · exact rwS_le (rwS_le (sgS_le h)) l
    · split
      · exact rwS_le (sgS_le h) l
      · exact sgS_le h l
theorem lvO_le : ∀ d : Nat, LvLe (lvO E d)
  | 0 => fun q h => by cases h
  | d + 1 => fun q h l => by
    have := lvO_le d
    injection h with h
    subst h
    exact ⟨sgS_le this l, piS_le this l, rowS_le this 1 l⟩
theorem rwF_fuel {lv : Nat} {N : List Tk → Sy PT} (hN : ∀ l, Le l.length (N l)) : ∀ (f g : Nat) (x : PT) (l : List Tk), l.length < f → l.length < g → rwF E lv N f x l = rwF E lv N g x l
  | 0, _, _, _, h, _ => absurd h (Nat.not_lt_zero _)
  | _ + 1, 0, _, _, _, h => absurd h (Nat.not_lt_zero _)
  | f + 1, g + 1, x, l, h1, h2 => by
    unfold rwF
    by_cases hk : kbS lv (ahd E 0 l) = 0
    · rw [if_pos hk, if_pos hk]
    · rw [if_neg hk, if_neg hk]
      cases hq : N l.tail with
      | error e => rfl
      | ok v =>
        have hl : l ≠ [] := by
          rintro rfl
          exact hk rfl
        have h3 := hN l.tail v.1 v.2 hq
        have h4 : l.tail.length < l.length := by rw [List.length_tail]; have := List.length_pos_iff.2 hl; omega
        exact rwF_fuel hN f g _ v.2 (by omega) (by omega)
theorem rwF_step {lv : Nat} {N : List Tk → Sy PT} (hN : ∀ l, Le l.length (N l)) {x : PT} {l : List Tk} (hk : kbS lv (ahd E 0 l) ≠ 0) : rwF E lv N (l.length + 1) x l = sbd (N l.tail) fun y r => rwF E lv N (r.length + 1) (exE (kbS lv (ahd E 0 l)) [x, y]) r := by
  rw [rwF, if_neg hk]
  cases hq : N l.tail with
  | error e => rfl
  | ok v =>
    have hl : l ≠ [] := by
      rintro rfl
      exact hk rfl
    have h3 := hN l.tail v.1 v.2 hq
    have h4 : l.tail.length < l.length := by rw [List.length_tail]; have := List.length_pos_iff.2 hl; omega
    exact rwF_fuel hN _ _ _ v.2 (by omega) (by omega)
theorem rwF_stop {lv : Nat} {N : List Tk → Sy PT} {x : PT} {l : List Tk} (hk : kbS lv (ahd E 0 l) = 0) : rwF E lv N (l.length + 1) x l = .ok (x, l) := by rw [rwF, if_pos hk]
end
end Go.Proofs.YtpkmamgleofimaaGreatDoor

namespace Go.Proofs.YtpkmamgleofimaaGreatDoor
open Go.RowKit

set_option maxHeartbeats 400000 in
theorem lexBlank_any (b : Nat) (_hb : b < 256) (w : World) :
    Calls Tryz.prog 30 #[.int .u8 (b : Int)] w fun e w' => e = .returned (.bool (blankN b)) ∧ w' = w := by
  go_enter Tryz.func30, Tryz.ntmps30
  go_wp2
  go_ret
  exact ⟨ret_bool (by unfold blankN; rw [Bool.eq_iff_iff]; simp; omega), rfl⟩
set_option maxHeartbeats 400000 in
theorem lexLetter_any (b : Nat) (hb : b < 256) (w : World) :
    Calls Tryz.prog 54 #[.int .u8 (b : Int)] w fun e w' => e = .returned (.bool (letterN b)) ∧ w' = w := by
  have hc : (65 ≤ b ∧ b ≤ 90) ∨ b < 65 ∨ (65 ≤ b ∧ 90 < b) := by omega
  rcases hc with ⟨h1, h2⟩ | h | ⟨h1, h2⟩
  · rw [show letterN b = true from decide_eq_true (by omega)]
    go_enter Tryz.func54, Tryz.ntmps54
    go_wp2
    go_ret
    exact ⟨ret_bool (by simp; omega), rfl⟩
  · rw [show letterN b = false from decide_eq_false (by omega)]
    go_enter Tryz.func54, Tryz.ntmps54
    go_wp2
    go_ret
    exact ⟨rfl, rfl⟩
  · rw [show letterN b = false from decide_eq_false (by omega)]
    go_enter Tryz.func54, Tryz.ntmps54
    go_wp2
    go_ret
    exact ⟨ret_bool (by simp; omega), rfl⟩
set_option maxHeartbeats 400000 in
theorem lexDigit_any (b : Nat) (hb : b < 256) (w : World) :
    Calls Tryz.prog 56 #[.int .u8 (b : Int)] w fun e w' => e = .returned (.bool (digitN b)) ∧ w' = w := by
  have hc : (48 ≤ b ∧ b ≤ 57) ∨ b < 48 ∨ (48 ≤ b ∧ 57 < b) := by omega
  rcases hc with ⟨h1, h2⟩ | h | ⟨h1, h2⟩
  · rw [show digitN b = true from decide_eq_true (by omega)]
    go_enter Tryz.func56, Tryz.ntmps56
    go_wp2
    go_ret
    exact ⟨ret_bool (by simp; omega), rfl⟩
  · rw [show digitN b = false from decide_eq_false (by omega)]
    go_enter Tryz.func56, Tryz.ntmps56
    go_wp2
    go_ret
    exact ⟨rfl, rfl⟩
  · rw [show digitN b = false from decide_eq_false (by omega)]
    go_enter Tryz.func56, Tryz.ntmps56
    go_wp2
    go_ret
    exact ⟨ret_bool (by simp; omega), rfl⟩
set_option maxHeartbeats 400000 in
theorem lexWord_any (b : Nat) (hb : b < 256) (w : World) :
    Calls Tryz.prog 55 #[.int .u8 (b : Int)] w fun e w' => e = .returned (.bool (wordN b)) ∧ w' = w := by
  have H1 := hide (lexLetter_any b hb w)
  have H2 := hide (lexDigit_any b hb w)
  unfold wordN
  generalize letterN b = x at *
  generalize digitN b = y at *
  cases x
  · go_enter Tryz.func55, Tryz.ntmps55
    go_wp2_with (first | (go_at_call 54; refine (unhide H1).mono ?_; rintro e w ⟨rfl, rfl⟩) | (go_at_call 56; refine (unhide H2).mono ?_; rintro e w ⟨rfl, rfl⟩))
    go_ret
    exact ⟨rfl, rfl⟩
  · go_enter Tryz.func55, Tryz.ntmps55
    go_wp2_with (first | (go_at_call 54; refine (unhide H1).mono ?_; rintro e w ⟨rfl, rfl⟩))
    go_ret
    exact ⟨rfl, rfl⟩
set_option maxHeartbeats 400000 in
theorem passBlank_any (s : ByteArray) (i : Nat) (hs : s.size ≤ 2000) (hi : i ≤ s.size) (w : World) :
    Calls Tryz.prog 29 #[.string s, .int .i64 (i : Int), .func (.func 30) #[] #[]] w fun e w' => e = .returned (.int .i64 (pas s blankN i : Int)) ∧ w' = w := by
  go_enter Tryz.func29, Tryz.ntmps29
  go_wp2_with fail
  go_loop [1] (fun v => ∃ k : Nat, k ≤ s.size ∧ v = .int .i64 (k : Int) ∧ Hid (pas s blankN i = pas s blankN k)) (fun v => s.size - (intOf v).toNat)
  case atStart => exact ⟨i, hi, rfl, rfl⟩
  case round =>
    obtain ⟨k, hk, rfl, HU⟩ := hrel
    rcases Nat.lt_or_ge k s.size with hkt | hkt
    · have bk := bat_at s k hkt
      have Hk := hide bk
      clear bk
      have HS := hide (fun h => @pas_step s blankN k hkt h)
      have HT := hide (fun h => @pas_stop s blankN k h)
      have HC := hide (lexBlank_any (bat s k) (bat_lt _ _))
      generalize hq : blankN (bat s k) = q at *
      clear hq
      cases q
      · have HT2 := hide (unhide HT fun _ => rfl)
        clear HT HS
        go_wp2_with (rw [unhide Hk]; refine (unhide HC _).mono ?_; rintro e w ⟨rfl, rfl⟩)
        go_ret
        exact ⟨by rw [unhide HU, unhide HT2]; rfl, rfl⟩
      · have HS2 := hide (unhide HS rfl)
        clear HT HS
        go_wp2_with (rw [unhide Hk]; refine (unhide HC _).mono ?_; rintro e w ⟨rfl, rfl⟩)
        exact ⟨⟨k + 1, by omega, rfl, by rw [unhide HU]; exact unhide HS2⟩, by simp [intOf]; omega⟩
    · have hk' : k = s.size := by omega
      subst hk'
      have HT := hide (@pas_stop s blankN s.size (fun h => by omega))
      go_wp2_with fail
      go_ret
      exact ⟨by rw [unhide HU, unhide HT]; rfl, rfl⟩
set_option maxHeartbeats 400000 in
theorem passOfWord_any (s : ByteArray) (i : Nat) (hs : s.size ≤ 2000) (hi : i ≤ s.size) (w : World) :
    Calls Tryz.prog 29 #[.string s, .int .i64 (i : Int), .func (.func 55) #[] #[]] w fun e w' => e = .returned (.int .i64 (pas s wordN i : Int)) ∧ w' = w := by
  go_enter Tryz.func29, Tryz.ntmps29
  go_wp2_with fail
  go_loop [1] (fun v => ∃ k : Nat, k ≤ s.size ∧ v = .int .i64 (k : Int) ∧ Hid (pas s wordN i = pas s wordN k)) (fun v => s.size - (intOf v).toNat)
  case atStart => exact ⟨i, hi, rfl, rfl⟩
  case round =>
    obtain ⟨k, hk, rfl, HU⟩ := hrel
    rcases Nat.lt_or_ge k s.size with hkt | hkt
    · have bk := bat_at s k hkt
      have Hk := hide bk
      clear bk
      have HS := hide (fun h => @pas_step s wordN k hkt h)
      have HT := hide (fun h => @pas_stop s wordN k h)
      have HC := hide (lexWord_any (bat s k) (bat_lt _ _))
      generalize hq : wordN (bat s k) = q at *
      clear hq
      cases q
      · have HT2 := hide (unhide HT fun _ => rfl)
        clear HT HS
        go_wp2_with (rw [unhide Hk]; refine (unhide HC _).mono ?_; rintro e w ⟨rfl, rfl⟩)
        go_ret
        exact ⟨by rw [unhide HU, unhide HT2]; rfl, rfl⟩
      · have HS2 := hide (unhide HS rfl)
        clear HT HS
        go_wp2_with (rw [unhide Hk]; refine (unhide HC _).mono ?_; rintro e w ⟨rfl, rfl⟩)
        exact ⟨⟨k + 1, by omega, rfl, by rw [unhide HU]; exact unhide HS2⟩, by simp [intOf]; omega⟩
    · have hk' : k = s.size := by omega
      subst hk'
      have HT := hide (@pas_stop s wordN s.size (fun h => by omega))
      go_wp2_with fail
      go_ret
      exact ⟨by rw [unhide HU, unhide HT]; rfl, rfl⟩
set_option maxHeartbeats 400000 in
theorem passDigit_any (s : ByteArray) (i : Nat) (hs : s.size ≤ 2000) (hi : i ≤ s.size) (w : World) :
    Calls Tryz.prog 29 #[.string s, .int .i64 (i : Int), .func (.func 56) #[] #[]] w fun e w' => e = .returned (.int .i64 (pas s digitN i : Int)) ∧ w' = w := by
  go_enter Tryz.func29, Tryz.ntmps29
  go_wp2_with fail
  go_loop [1] (fun v => ∃ k : Nat, k ≤ s.size ∧ v = .int .i64 (k : Int) ∧ Hid (pas s digitN i = pas s digitN k)) (fun v => s.size - (intOf v).toNat)
  case atStart => exact ⟨i, hi, rfl, rfl⟩
  case round =>
    obtain ⟨k, hk, rfl, HU⟩ := hrel
    rcases Nat.lt_or_ge k s.size with hkt | hkt
    · have bk := bat_at s k hkt
      have Hk := hide bk
      clear bk
      have HS := hide (fun h => @pas_step s digitN k hkt h)
      have HT := hide (fun h => @pas_stop s digitN k h)
      have HC := hide (lexDigit_any (bat s k) (bat_lt _ _))
      generalize hq : digitN (bat s k) = q at *
      clear hq
      cases q
      · have HT2 := hide (unhide HT fun _ => rfl)
        clear HT HS
        go_wp2_with (rw [unhide Hk]; refine (unhide HC _).mono ?_; rintro e w ⟨rfl, rfl⟩)
        go_ret
        exact ⟨by rw [unhide HU, unhide HT2]; rfl, rfl⟩
      · have HS2 := hide (unhide HS rfl)
        clear HT HS
        go_wp2_with (rw [unhide Hk]; refine (unhide HC _).mono ?_; rintro e w ⟨rfl, rfl⟩)
        exact ⟨⟨k + 1, by omega, rfl, by rw [unhide HU]; exact unhide HS2⟩, by simp [intOf]; omega⟩
    · have hk' : k = s.size := by omega
      subst hk'
      have HT := hide (@pas_stop s digitN s.size (fun h => by omega))
      go_wp2_with fail
      go_ret
      exact ⟨by rw [unhide HU, unhide HT]; rfl, rfl⟩
set_option maxHeartbeats 400000 in
theorem closed_any (s : ByteArray) (k c : Nat) (hs : s.size ≤ 2000) (hc : c ≤ s.size) (w : World) :
    Calls Tryz.prog 57 #[.string s, .int .i64 (k : Int), .int .i64 (c : Int)] w fun e w' => e = .returned (.tuple #[.int .i64 ((if c = s.size then 0 else k : Nat) : Int), .int .i64 ((if c = s.size then s.size else c + 1 : Nat) : Int)]) ∧ w' = w := by
  by_cases h : c = s.size
  · subst h
    rw [if_pos rfl, if_pos rfl]
    go_enter Tryz.func57, Tryz.ntmps57
    go_wp2
    go_ret2
    exact ⟨rfl, rfl⟩
  · rw [if_neg h, if_neg h]
    have h1 : ((c : Int) == (s.size : Int)) = false := bn
    go_enter Tryz.func57, Tryz.ntmps57
    go_wp2
    go_ret2
    exact ⟨rfl, rfl⟩
end Go.Proofs.YtpkmamgleofimaaGreatDoor
