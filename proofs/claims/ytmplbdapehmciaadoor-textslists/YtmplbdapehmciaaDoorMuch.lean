/- What the document's own look at too long texts answers. -/
import Derived.Test.YtmplbdapehmciaaDoorLong
namespace Go.Proofs.YtmplbdapehmciaaDoor
open Go.RowKit

set_option maxHeartbeats 400000 in
theorem much_any (ts : List ByteArray) (b : Nat) (w : World) (hn : ts.length ≤ 1000) (hs : ∀ j, j < ts.length → (ts.getD j ByteArray.empty).size ≤ maxLen)
    (hc : ∀ j, j < ts.length → w.cell? ⟨b, j, none⟩ = some (.string (ts.getD j ByteArray.empty))) :
    Calls Tryd.prog 12 #[.slice (some ⟨b, 0, none⟩) ts.length ts.length] w fun e w' => e = .returned (.bool (anyLong ts)) ∧ w' = w := by
  have H0 : Hid (∀ j, j < ts.length → w.cell? ⟨b, j, none⟩ = some (.string (ts.getD j ByteArray.empty))) := hc
  have H1 : Hid (∀ j, j < ts.length → (ts.getD j ByteArray.empty).size ≤ maxLen) := hs
  clear hc hs
  go_enter Tryd.func12, Tryd.ntmps12
  go_wp2
  go_loop [7] (fun i => ∃ k : Nat, k ≤ ts.length ∧ i = .int .i64 k ∧ Hid (∀ j, j < k → ((ts.getD j ByteArray.empty).size : Int) ≤ 65536)) (fun i => ts.length - (intOf i).toNat)
  case atStart => exact ⟨0, Nat.zero_le _, rfl, fun j hj => absurd hj (Nat.not_lt_zero _)⟩
  case round =>
    obtain ⟨k, hk, rfl, hb⟩ := hrel
    by_cases hlt : k < ts.length
    · have hcell := H0.out k hlt
      have hsz := H1.out k hlt
      obtain ⟨t, ht⟩ : ∃ t, t = ts.getD k ByteArray.empty := ⟨_, rfl⟩
      rw [← ht] at hcell hsz
      unfold maxLen at hsz
      have HT : Hid (t = ts.getD k ByteArray.empty) := ht
      clear ht
      by_cases hl : 65536 < (t.size : Int)
      · have e1 : anyLong ts = true := anyLong_of ts k hlt (by rw [← HT.out]; exact hl)
        have HE : Hid (anyLong ts = true) := e1
        clear e1
        go_wp2
        go_ret
        exact ⟨by rw [HE.out]; rfl, rfl⟩
      · go_wp2
        go_round
        case rel => 
          refine ⟨k + 1, by omega, by go_num, fun j hj => ?_⟩
          by_cases e : j = k
          · subst e; rw [← HT.out]; omega
          · exact hb.out j (by omega)
        case measure => simp [intOf]; omega
    · have e1 : anyLong ts = false := anyLong_no ts (fun j hj => hb.out j (by omega))
      have HE : Hid (anyLong ts = false) := e1
      clear e1
      go_wp2
      go_ret
      exact ⟨by rw [HE.out]; rfl, rfl⟩

theorem much_one (t : ByteArray) (b : Nat) (w : World) (hs : t.size ≤ maxLen) (hc : w.cell? ⟨b, 0, none⟩ = some (.string t)) :
    Calls Tryd.prog 12 #[.slice (some ⟨b, 0, none⟩) 1 1] w fun e w' => e = .returned (.bool (anyLong [t])) ∧ w' = w := by
  refine much_any [t] b w (by simp) ?_ ?_
  · intro j hj
    obtain rfl : j = 0 := by simp at hj; omega
    exact hs
  · intro j hj
    obtain rfl : j = 0 := by simp at hj; omega
    exact hc
theorem much_two (t u : ByteArray) (b : Nat) (w : World) (ht : t.size ≤ maxLen) (hu : u.size ≤ maxLen) (hc : w.cell? ⟨b, 0, none⟩ = some (.string t)) (hd : w.cell? ⟨b, 1, none⟩ = some (.string u)) :
    Calls Tryd.prog 12 #[.slice (some ⟨b, 0, none⟩) 2 2] w fun e w' => e = .returned (.bool (anyLong [t, u])) ∧ w' = w := by
  refine much_any [t, u] b w (by simp) ?_ ?_
  · intro j hj
    match j, hj with
    | 0, _ => exact ht
    | 1, _ => exact hu
    | n + 2, hj => exact absurd hj (by simp)
  · intro j hj
    match j, hj with
    | 0, _ => exact hc
    | 1, _ => exact hd
    | n + 2, hj => exact absurd hj (by simp)
theorem much_three (t u v : ByteArray) (b : Nat) (w : World) (ht : t.size ≤ maxLen) (hu : u.size ≤ maxLen) (hv : v.size ≤ maxLen) (hc : w.cell? ⟨b, 0, none⟩ = some (.string t)) (hd : w.cell? ⟨b, 1, none⟩ = some (.string u)) (he : w.cell? ⟨b, 2, none⟩ = some (.string v)) :
    Calls Tryd.prog 12 #[.slice (some ⟨b, 0, none⟩) 3 3] w fun e w' => e = .returned (.bool (anyLong [t, u, v])) ∧ w' = w := by
  refine much_any [t, u, v] b w (by simp) ?_ ?_
  · intro j hj
    match j, hj with
    | 0, _ => exact ht
    | 1, _ => exact hu
    | 2, _ => exact hv
    | n + 3, hj => exact absurd hj (by simp)
  · intro j hj
    match j, hj with
    | 0, _ => exact hc
    | 1, _ => exact hd
    | 2, _ => exact he
    | n + 3, hj => exact absurd hj (by simp)

end Go.Proofs.YtmplbdapehmciaaDoor
