/- The document's Kept, and a statement's expressions. The document's Args: how many arguments a function of the language takes. -/
import Derived.Test.YtpphjddljngkmaaDoorCkBP
import Derived.Test.YtpphjddljngkmaaDoorRefExNP
import Derived.Test.YtpphjddljngkmaaDoorStBM
import Derived.Test.YtpphjddljngkmaaDoorStCP
namespace Go.Proofs.YtpphjddljngkmaaDoor
open Go.RowKit

set_option maxRecDepth 100000 in
set_option maxHeartbeats 4000000 in
theorem refKept_any (s : ByteArray) (w : World) : Calls Tryd.prog 29 #[.string s] w fun e w' => e = .returned (.bool (lout s)) ∧ w' = w := by
  by_cases h0 : s = ⟨#[69, 78, 68]⟩
  · subst h0
    go_enter Tryd.func29, Tryd.ntmps29
    go_wp2_with fail
    go_ret
    exact ⟨rfl, rfl⟩
  · have q0 := neL h0
    by_cases h1 : s = ⟨#[82, 69, 84, 85, 82, 78]⟩
    · subst h1
      clear h0
      go_enter Tryd.func29, Tryd.ntmps29
      go_wp2_with fail
      go_ret
      exact ⟨rfl, rfl⟩
    · have q1 := neL h1
      by_cases h2 : s = ⟨#[70, 82, 69, 84, 85, 82, 78]⟩
      · subst h2
        clear h0 h1
        go_enter Tryd.func29, Tryd.ntmps29
        go_wp2_with fail
        go_ret
        exact ⟨rfl, rfl⟩
      · have q2 := neL h2
        have HE : Hid (lout s = false) := hide (by unfold lout tEnd tRet tFre; rw [decide_eq_false h0, decide_eq_false h1, decide_eq_false h2]; rfl)
        clear h0 h1 h2
        go_enter Tryd.func29, Tryd.ntmps29
        go_wp2_with fail
        go_ret
        exact ⟨by rw [unhide HE]; rfl, rfl⟩
end Go.Proofs.YtpphjddljngkmaaDoor

namespace Go.Proofs.YtpphjddljngkmaaDoor
open Go.RowKit

def argL (k : Nat) : List ByteArray := if k = 1 then [⟨#[83, 73, 90, 69]⟩, ⟨#[84, 82, 73, 77]⟩, ⟨#[82, 69, 86, 69, 82, 83, 69]⟩, ⟨#[82, 79, 79, 84]⟩, ⟨#[73, 78, 84, 69, 71, 69, 82]⟩] else if k = 2 then [⟨#[68, 85, 80, 76]⟩, ⟨#[82, 79, 84, 65, 84, 69]⟩, ⟨#[67, 79, 85, 78, 84]⟩, ⟨#[69, 81]⟩, ⟨#[78, 69]⟩, ⟨#[76, 84]⟩, ⟨#[76, 69]⟩, ⟨#[71, 84]⟩, ⟨#[71, 69]⟩, ⟨#[73, 68, 69, 78, 84]⟩, ⟨#[68, 73, 70, 70, 69, 82]⟩, ⟨#[76, 71, 84]⟩, ⟨#[82, 69, 77, 68, 82]⟩, ⟨#[80, 79, 87, 69, 82]⟩, ⟨#[71, 67, 68]⟩, ⟨#[66, 65, 83, 69]⟩, ⟨#[85, 78, 66, 65, 83, 69]⟩] else if k = 3 then [⟨#[82, 69, 80, 76, 65, 67, 69]⟩, ⟨#[83, 85, 66, 83, 84, 82]⟩, ⟨#[76, 80, 65, 68]⟩, ⟨#[82, 80, 65, 68]⟩] else []
theorem blt_in {s : ByteArray} {k : Nat} (h : s ∈ argL k) : blt s = (k : Int) := by
  unfold argL at h
  split at h
  · simp only [List.mem_cons, List.not_mem_nil, or_false] at h
    rename_i e; subst e
    rcases h with rfl | rfl | rfl | rfl | rfl <;> rfl
  · split at h
    · simp only [List.mem_cons, List.not_mem_nil, or_false] at h
      rename_i e; subst e
      rcases h with rfl | rfl | rfl | rfl | rfl | rfl | rfl | rfl | rfl | rfl | rfl | rfl | rfl | rfl | rfl | rfl | rfl <;> rfl
    · split at h
      · simp only [List.mem_cons, List.not_mem_nil, or_false] at h
        rename_i e; subst e
        rcases h with rfl | rfl | rfl | rfl <;> rfl
      · simp at h
theorem blt_out {s : ByteArray} (h : ∀ k, k < 4 → s ∉ argL k) : blt s = -1 := by
  have n0 : s ≠ ⟨#[83, 73, 90, 69]⟩ := fun e => h 1 (by omega) (by rw [e]; simp [argL])
  have n1 : s ≠ ⟨#[84, 82, 73, 77]⟩ := fun e => h 1 (by omega) (by rw [e]; simp [argL])
  have n2 : s ≠ ⟨#[82, 69, 86, 69, 82, 83, 69]⟩ := fun e => h 1 (by omega) (by rw [e]; simp [argL])
  have n3 : s ≠ ⟨#[82, 79, 79, 84]⟩ := fun e => h 1 (by omega) (by rw [e]; simp [argL])
  have n4 : s ≠ ⟨#[73, 78, 84, 69, 71, 69, 82]⟩ := fun e => h 1 (by omega) (by rw [e]; simp [argL])
  have n5 : s ≠ ⟨#[68, 85, 80, 76]⟩ := fun e => h 2 (by omega) (by rw [e]; simp [argL])
  have n6 : s ≠ ⟨#[82, 79, 84, 65, 84, 69]⟩ := fun e => h 2 (by omega) (by rw [e]; simp [argL])
  have n7 : s ≠ ⟨#[67, 79, 85, 78, 84]⟩ := fun e => h 2 (by omega) (by rw [e]; simp [argL])
  have n8 : s ≠ ⟨#[69, 81]⟩ := fun e => h 2 (by omega) (by rw [e]; simp [argL])
  have n9 : s ≠ ⟨#[78, 69]⟩ := fun e => h 2 (by omega) (by rw [e]; simp [argL])
  have n10 : s ≠ ⟨#[76, 84]⟩ := fun e => h 2 (by omega) (by rw [e]; simp [argL])
  have n11 : s ≠ ⟨#[76, 69]⟩ := fun e => h 2 (by omega) (by rw [e]; simp [argL])
  have n12 : s ≠ ⟨#[71, 84]⟩ := fun e => h 2 (by omega) (by rw [e]; simp [argL])
  have n13 : s ≠ ⟨#[71, 69]⟩ := fun e => h 2 (by omega) (by rw [e]; simp [argL])
  have n14 : s ≠ ⟨#[73, 68, 69, 78, 84]⟩ := fun e => h 2 (by omega) (by rw [e]; simp [argL])
  have n15 : s ≠ ⟨#[68, 73, 70, 70, 69, 82]⟩ := fun e => h 2 (by omega) (by rw [e]; simp [argL])
  have n16 : s ≠ ⟨#[76, 71, 84]⟩ := fun e => h 2 (by omega) (by rw [e]; simp [argL])
  have n17 : s ≠ ⟨#[82, 69, 77, 68, 82]⟩ := fun e => h 2 (by omega) (by rw [e]; simp [argL])
  have n18 : s ≠ ⟨#[80, 79, 87, 69, 82]⟩ := fun e => h 2 (by omega) (by rw [e]; simp [argL])
  have n19 : s ≠ ⟨#[71, 67, 68]⟩ := fun e => h 2 (by omega) (by rw [e]; simp [argL])
  have n20 : s ≠ ⟨#[66, 65, 83, 69]⟩ := fun e => h 2 (by omega) (by rw [e]; simp [argL])
  have n21 : s ≠ ⟨#[85, 78, 66, 65, 83, 69]⟩ := fun e => h 2 (by omega) (by rw [e]; simp [argL])
  have n22 : s ≠ ⟨#[82, 69, 80, 76, 65, 67, 69]⟩ := fun e => h 3 (by omega) (by rw [e]; simp [argL])
  have n23 : s ≠ ⟨#[83, 85, 66, 83, 84, 82]⟩ := fun e => h 3 (by omega) (by rw [e]; simp [argL])
  have n24 : s ≠ ⟨#[76, 80, 65, 68]⟩ := fun e => h 3 (by omega) (by rw [e]; simp [argL])
  have n25 : s ≠ ⟨#[82, 80, 65, 68]⟩ := fun e => h 3 (by omega) (by rw [e]; simp [argL])
  unfold blt
  rw [if_neg n0, if_neg n1, if_neg n2, if_neg n3, if_neg n4, if_neg n5, if_neg n6, if_neg n7, if_neg n8, if_neg n9, if_neg n10, if_neg n11, if_neg n12, if_neg n13, if_neg n14, if_neg n15, if_neg n16, if_neg n17, if_neg n18, if_neg n19, if_neg n20, if_neg n21, if_neg n22, if_neg n23, if_neg n24, if_neg n25]
theorem size_slR : (Tryd.prog.info? 47).map (·.size) = some 1 := by kernel_rfl
set_option maxRecDepth 100000 in
set_option maxHeartbeats 4000000 in
theorem refArgs_any (s : ByteArray) (w : World) : Calls Tryd.prog 7 #[.string s] w fun e w' => e = .returned (.int .i64 (blt s)) ∧ Below w.heap.size w w' := by
  go_enter Tryd.func7, Tryd.ntmps7
  go_wp2_with fail
  obtain ⟨w4, hw4⟩ : ∃ w4, w4 = (((w.alloc (.cells #[.string ⟨#[83, 73, 90, 69]⟩, .string ⟨#[84, 82, 73, 77]⟩, .string ⟨#[82, 69, 86, 69, 82, 83, 69]⟩, .string ⟨#[82, 79, 79, 84]⟩, .string ⟨#[73, 78, 84, 69, 71, 69, 82]⟩] 9)).alloc (.cells #[.string ⟨#[68, 85, 80, 76]⟩, .string ⟨#[82, 79, 84, 65, 84, 69]⟩, .string ⟨#[67, 79, 85, 78, 84]⟩, .string ⟨#[69, 81]⟩, .string ⟨#[78, 69]⟩, .string ⟨#[76, 84]⟩, .string ⟨#[76, 69]⟩, .string ⟨#[71, 84]⟩, .string ⟨#[71, 69]⟩, .string ⟨#[73, 68, 69, 78, 84]⟩, .string ⟨#[68, 73, 70, 70, 69, 82]⟩, .string ⟨#[76, 71, 84]⟩, .string ⟨#[82, 69, 77, 68, 82]⟩, .string ⟨#[80, 79, 87, 69, 82]⟩, .string ⟨#[71, 67, 68]⟩, .string ⟨#[66, 65, 83, 69]⟩, .string ⟨#[85, 78, 66, 65, 83, 69]⟩] 9)).alloc (.cells #[.string ⟨#[82, 69, 80, 76, 65, 67, 69]⟩, .string ⟨#[83, 85, 66, 83, 84, 82]⟩, .string ⟨#[76, 80, 65, 68]⟩, .string ⟨#[82, 80, 65, 68]⟩] 9)).alloc (.cells #[.slice none 0 0, .slice (some ⟨w.heap.size, 0, none⟩) 5 5, .slice (some ⟨w.heap.size + 1, 0, none⟩) 17 17, .slice (some ⟨w.heap.size + 2, 0, none⟩) 4 4] 47) := ⟨_, rfl⟩
  rw [← hw4]
  have h1 : w4.heap[w.heap.size]? = some (.cells ((argL 1).map Value.string).toArray 9 (0, 0)) := by
    rw [hw4]; exact at_old (by simp only [World.size_alloc]; omega) (at_old (by simp only [World.size_alloc]; omega) (at_old (by simp only [World.size_alloc]; omega) (at_new rfl)))
  have h2 : w4.heap[w.heap.size + 1]? = some (.cells ((argL 2).map Value.string).toArray 9 (0, 0)) := by
    rw [hw4]; exact at_old (by simp only [World.size_alloc]; omega) (at_old (by simp only [World.size_alloc]; omega) (at_new (by simp only [World.size_alloc])))
  have h3 : w4.heap[w.heap.size + 2]? = some (.cells ((argL 3).map Value.string).toArray 9 (0, 0)) := by
    rw [hw4]; exact at_old (by simp only [World.size_alloc]; omega) (at_new (by simp only [World.size_alloc]))
  have h4 : w4.heap[w.heap.size + 3]? = some (.cells #[.slice none 0 0, .slice (some ⟨w.heap.size, 0, none⟩) 5 5, .slice (some ⟨w.heap.size + 1, 0, none⟩) 17 17, .slice (some ⟨w.heap.size + 2, 0, none⟩) 4 4] 47 (0, 0)) := by
    rw [hw4]; exact at_new (by simp only [World.size_alloc])
  have HB := hide (show Below w.heap.size w w4 by
    rw [hw4]
    exact (((ba _).alloc (by simp only [World.size_alloc]; omega) _).alloc (by simp only [World.size_alloc]; omega) _).alloc (by simp only [World.size_alloc]; omega) _)
  have HT := hide (show ∀ k, k < 4 → ∃ xa g, w4.cell? ⟨w.heap.size + 3, k, none⟩ = some (.slice xa (argL k).length (argL k).length) ∧ (0 < (argL k).length → xa = some ⟨g, 0, none⟩) ∧ ∀ j t, (argL k)[j]? = some t → w4.cell? ⟨g, j, none⟩ = some (.string t) from fun k hk => by
    have hc : ∀ {g : Nat} {l : List ByteArray}, w4.heap[g]? = some (.cells (l.map Value.string).toArray 9 (0, 0)) → ∀ j t, l[j]? = some t → w4.cell? ⟨g, j, none⟩ = some (.string t) := fun {g l} h j t ht => by
      rw [cell_of_row _ _ _ _ _ _ h]
      simp [ht]
    rcases (show k = 0 ∨ k = 1 ∨ k = 2 ∨ k = 3 by omega) with rfl | rfl | rfl | rfl
    · exact ⟨none, 0, by rw [cell_of_row _ _ _ _ _ _ h4]; rfl, fun h => absurd h (by decide), fun j t ht => by simp [argL] at ht⟩
    · exact ⟨_, w.heap.size, by rw [cell_of_row _ _ _ _ _ _ h4]; rfl, fun _ => rfl, hc h1⟩
    · exact ⟨_, w.heap.size + 1, by rw [cell_of_row _ _ _ _ _ _ h4]; rfl, fun _ => rfl, hc h2⟩
    · exact ⟨_, w.heap.size + 2, by rw [cell_of_row _ _ _ _ _ _ h4]; rfl, fun _ => rfl, hc h3⟩)
  clear h1 h2 h3 h4 hw4
  go_loop [12] (fun i => ∃ k : Nat, k ≤ 4 ∧ i = .int .i64 (k : Int) ∧ Hid (∀ m, m < k → s ∉ argL m)) (fun i => 4 - (intOf i).toNat)
  case atStart => exact ⟨0, by omega, rfl, fun m h => by omega⟩
  case round =>
    obtain ⟨k, hk, rfl, HN⟩ := hrel
    rcases Nat.lt_or_ge k 4 with hlt | hge
    · obtain ⟨xa, g, ct, hxa, hcl⟩ := unhide HT k hlt
      have HCL := hide hcl
      have hix := sl_idx (g := w.heap.size + 3) (o := 0) (cap := 4) (i := k) (n := 4) Tryd.underlying53 size_slR hlt
      rw [Nat.zero_add] at hix
      have hkk : (k : Int) < 4 := by omega
      have HIN := hide (fun (h : s ∈ argL k) => blt_in h)
      have HOU := hide (show s ∉ argL k → ∀ m, m < k + 1 → s ∉ argL m from fun h m hm => by
        rcases Nat.lt_or_ge m k with h1 | h1
        · exact unhide HN m h1
        · obtain rfl : m = k := by omega
          exact h)
      have hln : (argL k).length ≤ 17 := by unfold argL; split; decide; split; decide; split; decide; decide
      generalize argL k = LK at *
      clear hcl HN
      go_wp2_with fail
      go_loop [19] (fun i => ∃ j : Nat, j ≤ LK.length ∧ i = .int .i64 (j : Int) ∧ Hid (s ∉ LK.take j)) (fun i => LK.length - (intOf i).toNat)
      case atStart => exact ⟨0, by omega, rfl, by show s ∉ LK.take 0; simp⟩
      case round =>
        obtain ⟨j, hj, rfl, HM⟩ := hrel
        rcases Nat.lt_or_ge j LK.length with hjt | hjge
        · obtain ⟨t, ht⟩ : ∃ t, LK[j]? = some t := ⟨LK[j], List.getElem?_eq_getElem hjt⟩
          have ctt := unhide HCL j t ht
          have hxx := hxa (by omega)
          have hit := sl_idx (g := g) (o := 0) (cap := LK.length) (i := j) (n := LK.length) Tryd.underlying47 size_strS hjt
          rw [Nat.zero_add, ← hxx] at hit
          have hjj : (j : Int) < (LK.length : Int) := by omega
          have HMM := hide (List.mem_of_getElem? ht)
          have HTK := hide (show t ≠ s → s ∉ LK.take (j + 1) from fun h hm => by
            rw [List.take_add_one, ht, List.mem_append] at hm
            rcases hm with hm | hm
            · exact unhide HM hm
            · simp at hm
              exact h hm.symm)
          clear ht hxx
          cases hq : t.toList == s.toList
          · have HA := hide (unhide HTK (fun e => by rw [e, beq_self_eq_true] at hq; cases hq))
            clear HTK HM
            go_wp2_with fail
            exact ⟨⟨j + 1, by omega, by go_num, HA⟩, by simp [intOf]; omega⟩
          · have HE := hide (unhide HIN (by
              have h := eq_of_beq hq
              have : t = s := by
                rw [ByteArray.toList_eq, ByteArray.toList_eq] at h
                exact ByteArray.ext (Array.toList_inj.1 h)
              rw [← this]
              exact unhide HMM))
            clear HTK HM
            go_wp2_with fail
            go_ret
            exact ⟨by rw [unhide HE]; rfl, unhide HB⟩
        · obtain rfl : j = LK.length := by omega
          have HA := hide (unhide HOU (by have h := unhide HM; rw [List.take_length] at h; exact h))
          clear HM
          go_wp2_with fail
          exact ⟨⟨k + 1, by omega, by go_num, HA⟩, by simp [intOf]; omega⟩
    · obtain rfl : k = 4 := by omega
      have HE := hide (blt_out (unhide HN))
      clear HN
      go_wp2_with fail
      go_ret
      exact ⟨by rw [unhide HE]; rfl, unhide HB⟩
end Go.Proofs.YtpphjddljngkmaaDoor
