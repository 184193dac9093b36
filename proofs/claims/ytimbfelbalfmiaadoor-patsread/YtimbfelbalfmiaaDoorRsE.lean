/- The document's walk over signs: comes, number. -/
import Derived.Test.YtimbfelbalfmiaaDoorRsD
namespace Go.Proofs.YtimbfelbalfmiaaDoor
open Go.RowKit

/-- Does a byte stand for a sign of a kind? -/
def cmN (c k : Nat) : Bool := (decide (k = c) && !decide (c = 65)) || (decide (c = 39) && (decide (k = 302) || decide (k = 301))) || (decide (c = 65) && decide (k = 303))
def cmU (t : ByteArray) (k : Nat) : Nat → Bool
  | 0 => false
  | n + 1 => cmU t k n || cmN (bat t n) k
theorem cmU_step (t : ByteArray) (k n : Nat) : cmU t k (n + 1) = (cmU t k n || cmN (bat t n) k) := rfl
theorem cmU_stays (t : ByteArray) (k : Nat) : ∀ n m, n ≤ m → cmU t k n = true → cmU t k m = true
  | n, 0, h, q => by have : n = 0 := by omega
                     subst this; exact q
  | n, m + 1, h, q => by
    rcases Nat.lt_or_ge m n with a | a
    · have : n = m + 1 := by omega
      subst this; exact q
    · rw [cmU_step, cmU_stays t k n m a q]; rfl
set_option maxHeartbeats 8000000 in
theorem comes_any {w : World} {z : Nat} {s : ByteArray} {x : Sg} {r : List Sg} {d er a : Int} (t : ByteArray) (ht : t.size ≤ 100) (hx : x.k ≤ 1000) (h : Wk w z s (x :: r) d er a) :
    Calls Tryd.prog 18 #[.pointer (some ⟨z, 0, none⟩), .string t] w fun e w' => e = .returned (.bool (cmU t x.k t.size)) ∧ Below w.heap.size w w' := by
  obtain ⟨g, o, cap, h⟩ := h
  obtain ⟨K, hK⟩ : ∃ K, x.k = K := ⟨_, rfl⟩
  rw [hK] at hx ⊢
  have HK := hide hK
  clear hK
  have hz := h.lt
  have hgl : g < w.heap.size := Nat.lt_trans h.gz h.lt
  have hcap := h.fit
  have hmax := h.max
  unfold maxLen at hmax
  simp only [List.length_cons] at hcap
  have H0 := hide h
  clear h
  have hcv := fun W => run_bytes_of_string (P := Tryd.prog) W 9 51 5 t Tryd.underlying9 Tryd.underlying51 Tryd.underlying5
  go_enter Tryd.func18, Tryd.ntmps18
  go_wp2_with fail
  generalize grownCap w t.size 0 5 = G
  obtain ⟨W0, hW0⟩ : ∃ W0, W0 = (w.alloc (.cells (bytesRow t G) 5 ((bytesRow t G).size, (bytesRow t G).size + 1))).drew := ⟨_, rfl⟩
  rw [← hW0]
  have q2 : W0.heap[w.heap.size]? = some (.cells (bytesRow t G) 5 ((bytesRow t G).size, (bytesRow t G).size + 1)) := by rw [hW0, heap_drew]; exact at_new rfl
  have hbel : Below w.heap.size w W0 := by rw [hW0]; exact ((Below.refl _ _).alloc (Nat.le_refl _) _).drew
  have QB := hide hbel
  have HB := hide (bytesRow_at t G)
  have h0 := (unhide H0).below hbel
  obtain ⟨c0, c1, c2, c3, c4⟩ := h0.cells
  obtain ⟨x0, -, -, -⟩ := h0.sgs 0 x rfl
  simp only [Nat.zero_mul, Nat.add_zero] at x0
  rw [unhide HK] at x0
  simp only [List.length_cons] at c0
  clear hW0 hcv h0 hbel c1 c2 c3 c4
  generalize bytesRow t G = R at *
  have Q2 := hide q2
  clear q2
  go_loop [11] (fun i => ∃ k : Nat, k ≤ t.size ∧ i = .int .i64 (k : Int) ∧ cmU t K k = false) (fun i => t.size - (intOf i).toNat)
  case atStart => exact ⟨0, by omega, rfl, rfl⟩
  case round =>
    obtain ⟨k, hk, rfl, hu⟩ := hrel
    have HU := hide hu
    clear hu
    rcases Nat.lt_or_ge k t.size with hlt | hge
    · have b2 : W0.cell? ⟨w.heap.size, k, none⟩ = some (.int .u8 (bat t k : Int)) := by rw [cell_of_row W0 _ _ _ _ _ (unhide Q2), unhide HB k hlt, ← bat_at t k hlt]; rfl
      have hb := bat_lt t k
      have HY := hide (fun (q : cmN (bat t k) K = true) => cmU_stays t K (k + 1) t.size hlt (by rw [cmU_step, q, Bool.or_true]))
      have HN := hide (fun (q : cmN (bat t k) K = false) => (show cmU t K (k + 1) = false by rw [cmU_step, q, unhide HU]; rfl))
      generalize bat t k = b at *
      have hw : wrap64 (b : Int) = (b : Int) := IntWalk.wrap64_in _ (by omega)
      have hc : (K = b ∧ b ≠ 65) ∨ (b = 39 ∧ K = 302) ∨ (b = 39 ∧ K = 301) ∨ (b = 65 ∧ K = 303) ∨ (b = 65 ∧ K = 65) ∨ (b = 65 ∧ K ≠ 65 ∧ K ≠ 303) ∨ (b = 39 ∧ K ≠ 39 ∧ K ≠ 302 ∧ K ≠ 301) ∨ (b ≠ 39 ∧ b ≠ 65 ∧ K ≠ b) := by omega
      rcases hc with ⟨h1, h2⟩ | ⟨rfl, rfl⟩ | ⟨rfl, rfl⟩ | ⟨rfl, rfl⟩ | ⟨rfl, rfl⟩ | ⟨rfl, h1, h2⟩ | ⟨rfl, h1, h2, h3⟩ | ⟨h1, h2, h3⟩
      · have HQ := hide (unhide HY (by simp [cmN, h1, h2]))
        have e0 : (((K : Int)) == ((b : Int))) = true := by rw [beq_iff_eq]; omega
        have e1 : (((b : Int)) == ((65 : Int))) = false := by rw [beq_eq_false_iff_ne]; omega
        clear HY HN h1 h2
        go_wp2_with fail
        go_ret
        exact ⟨by rw [unhide HQ]; rfl, unhide QB⟩
      · have HQ := hide (unhide HY (by decide))
        clear HY HN hw
        go_wp2_with fail
        go_ret
        exact ⟨by rw [unhide HQ]; rfl, unhide QB⟩
      · have HQ := hide (unhide HY (by decide))
        clear HY HN hw
        go_wp2_with fail
        go_ret
        exact ⟨by rw [unhide HQ]; rfl, unhide QB⟩
      · have HQ := hide (unhide HY (by decide))
        clear HY HN hw
        go_wp2_with fail
        go_ret
        exact ⟨by rw [unhide HQ]; rfl, unhide QB⟩
      · have HQ := hide (unhide HN (by decide))
        clear HY HN hw
        go_wp2_with fail
        exact ⟨⟨k + 1, by omega, rfl, unhide HQ⟩, by simp [intOf]; omega⟩
      · have HQ := hide (unhide HN (by simp [cmN, h1, h2]))
        have e0 : (((K : Int)) == ((65 : Int))) = false := by rw [beq_eq_false_iff_ne]; omega
        have e1 : (((K : Int)) == ((303 : Int))) = false := by rw [beq_eq_false_iff_ne]; omega
        clear HY HN hw h1 h2
        go_wp2_with fail
        exact ⟨⟨k + 1, by omega, rfl, unhide HQ⟩, by simp [intOf]; omega⟩
      · have HQ := hide (unhide HN (by simp [cmN, h1, h2, h3]))
        have e0 : (((K : Int)) == ((39 : Int))) = false := by rw [beq_eq_false_iff_ne]; omega
        have e1 : (((K : Int)) == ((302 : Int))) = false := by rw [beq_eq_false_iff_ne]; omega
        have e2 : (((K : Int)) == ((301 : Int))) = false := by rw [beq_eq_false_iff_ne]; omega
        clear HY HN hw h1 h2 h3
        go_wp2_with fail
        exact ⟨⟨k + 1, by omega, rfl, unhide HQ⟩, by simp [intOf]; omega⟩
      · have HQ := hide (unhide HN (by simp [cmN, h1, h2, h3]))
        have e0 : (((K : Int)) == ((b : Int))) = false := by rw [beq_eq_false_iff_ne]; omega
        have e1 : (((b : Int)) == ((39 : Int))) = false := by rw [beq_eq_false_iff_ne]; omega
        have e2 : (((b : Int)) == ((65 : Int))) = false := by rw [beq_eq_false_iff_ne]; omega
        clear HY HN h1 h2 h3
        go_wp2_with fail
        exact ⟨⟨k + 1, by omega, rfl, unhide HQ⟩, by simp [intOf]; omega⟩
    · obtain rfl : k = t.size := by omega
      go_wp2_with fail
      go_ret
      exact ⟨by rw [unhide HU]; rfl, unhide QB⟩
end Go.Proofs.YtimbfelbalfmiaaDoor
