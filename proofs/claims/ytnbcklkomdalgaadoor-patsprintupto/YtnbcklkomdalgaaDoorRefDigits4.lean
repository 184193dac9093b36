/- What the document's Digits does. -/
import Derived.Test.YtnbcklkomdalgaaDoorPrintPlain4
import Derived.Laws.Runes
namespace Go.Proofs.YtnbcklkomdalgaaDoor
open Go.RowKit

theorem digit_str (u : Nat) (h : u < 10) : Utf8.encode (48 + (u : Int)) = (⟨#[UInt8.ofNat (48 + u)]⟩ : ByteArray) := by
  have : u = 0 ∨ u = 1 ∨ u = 2 ∨ u = 3 ∨ u = 4 ∨ u = 5 ∨ u = 6 ∨ u = 7 ∨ u = 8 ∨ u = 9 := by omega
  rcases this with rfl | rfl | rfl | rfl | rfl | rfl | rfl | rfl | rfl | rfl <;> rfl

theorem decDigits_len : ∀ u : Nat, (Lib.decDigits u).length ≤ u + 1 := by
  intro u
  induction u using Nat.strongRecOn with
  | ind u ih =>
    rw [Lib.decDigits]
    split
    · simp
    · rename_i h
      have := ih (u / 10) (by omega)
      rw [List.length_append, List.length_singleton]
      omega

def DigSays (k : Nat) : Prop := ∀ (n : Nat) (w : World), n < k → n ≤ 1000000 → Calls Tryd.prog 34 #[.int .i64 (n : Int)] w fun e w' => e = .returned (.string ⟨(Lib.decDigits n).toArray⟩) ∧ w' = w
set_option maxRecDepth 100000 in
set_option maxHeartbeats 400000 in
theorem digits_step (k : Nat) (ih : DigSays k) : DigSays (k + 1) := by
  intro n w hn hb
  by_cases h : n < 10
  · have HD := hide (show Lib.decDigits n = [UInt8.ofNat (48 + n)] by rw [Lib.decDigits, dif_pos h])
    have h1 : (n : Int) < 10 := by omega
    have HE := hide (digit_str n h)
    go_enter Tryd.func34, Tryd.ntmps34
    go_wp2_with fail
    go_ret
    exact ⟨by rw [unhide HD]; exact congrArg (fun x => Ending.returned (Value.string x)) (unhide HE), rfl⟩
  · have HD := hide (show Lib.decDigits n = Lib.decDigits (n / 10) ++ [UInt8.ofNat (48 + n % 10)] by rw [Lib.decDigits, dif_neg h])
    have h1 : ¬ (n : Int) < 10 := by omega
    have HE := hide (digit_str (n % 10) (by omega))
    have HI := hide (ih (n / 10) w (by omega) (by omega))
    go_enter Tryd.func34, Tryd.ntmps34
    go_wp2_with fail
    rw [show ((n : Int) / 10) = ((n / 10 : Nat) : Int) from rfl]
    refine (unhide HI).mono ?_
    rintro e w ⟨rfl, rfl⟩
    obtain ⟨d, hd⟩ : ∃ d, d = (⟨(Lib.decDigits (n / 10)).toArray⟩ : ByteArray) := ⟨_, rfl⟩
    rw [← hd]
    have hds : d.size ≤ 1000000 := by
      have := decDigits_len (n / 10)
      rw [hd]
      show (Lib.decDigits (n / 10)).toArray.size ≤ _
      rw [List.size_toArray]; omega
    have HDD := hide hd
    clear hd
    have hen : Utf8.encode (48 + (n : Int) % 10) = (⟨#[UInt8.ofNat (48 + n % 10)]⟩ : ByteArray) := unhide HE
    have HH := hide hen
    obtain ⟨c, hc⟩ : ∃ c, Utf8.encode (48 + (n : Int) % 10) = c := ⟨_, rfl⟩
    have hcs : c.size = 1 := by rw [← hc, hen]; rfl
    have HC := hide hc
    have hg : ¬ 9223372036854775807 < d.size + c.size := by omega
    have HS := hide hcs
    clear hen hcs HE HI
    go_wp2_with fail
    go_ret
    refine ⟨congrArg (fun x => Ending.returned (Value.string x)) (?_ : d ++ c = _), rfl⟩
    rw [unhide HD, unhide HDD, ← unhide HC, unhide HH]
    apply ByteArray.ext
    apply Array.ext'
    simp
theorem digits_all : ∀ k, DigSays k
  | 0 => fun n _ h => absurd h (Nat.not_lt_zero n)
  | k + 1 => digits_step k (digits_all k)
def digB (n : Int) : ByteArray := ⟨(Lib.itoa n).toArray⟩
theorem digits_any (n : Int) (w : World) (h0 : 0 ≤ n) (h1 : n ≤ 65536) : Calls Tryd.prog 34 #[.int .i64 n] w fun e w' => e = .returned (.string (digB n)) ∧ w' = w := by
  obtain ⟨m, rfl⟩ := Int.eq_ofNat_of_zero_le h0
  have h := digits_all (m + 1) m w (by omega) (by omega)
  have e : digB (m : Int) = ⟨(Lib.decDigits m).toArray⟩ := by
    unfold digB Lib.itoa
    rw [if_neg (by omega)]
    rfl
  rw [e]
  exact h
end Go.Proofs.YtnbcklkomdalgaaDoor
