/- What only does: where the way of a node ends that has one at most (the kinds that look for no byte of a text). -/
import Derived.Test.YtkggmodabpjobaaDoorScanRep
import Derived.Deep.QuietTactic
import Derived.BigQuiet
namespace Go.Proofs.YtkggmodabpjobaaDoor
open Go.RowKit

/-- What only answers. -/
def OnlPost (s : ByteArray) (T : PT) (i : Nat) (w : World) (e : Ending) (w' : World) : Prop :=
  ∃ (to : Int) (ok : Bool), e = .returned (.tuple #[.int .i64 to, .bool ok]) ∧ (ok = true → ∃ x : Nat, to = (x : Int) ∧ onl s T i = some x) ∧ (ok = false → onl s T i = none) ∧ Below w.heap.size w w'

set_option maxRecDepth 100000 in
set_option maxHeartbeats 1000000 in
theorem only_len {w : World} {g gn o : Nat} {s : ByteArray} {T : PT} {i : Nat} (c0 : w.cell? ⟨g, 0, none⟩ = some (.string s)) (k0 : w.cell? ⟨gn, o, none⟩ = some (.int .i64 T.k)) (k2 : w.cell? ⟨gn, o + 2, none⟩ = some (.int .i64 T.n)) (_hs : s.size ≤ 65536) (_hi : i ≤ s.size) (hk : T.k = 2) (hn : 0 ≤ T.n ∧ T.n ≤ 65536) :
    Calls Tryd.prog 34 #[.pointer (some ⟨g, 0, none⟩), .pointer (some ⟨gn, o, none⟩), .int .i64 (i : Int)] w fun e w' => OnlPost s T i w e w' := by
  have HO := hide (show onl s T i = if i + T.n.toNat ≤ s.size then some (i + T.n.toNat) else none by unfold onl; simp [hk])
  obtain ⟨n, hN⟩ : ∃ n : Nat, T.n = (n : Int) := ⟨T.n.toNat, by omega⟩
  have hnT : T.n.toNat = n := by omega
  rw [hnT] at HO
  rw [hk] at k0
  rw [hN] at k2 hn
  clear hk hnT
  rcases Classical.em (i + n ≤ s.size) with h | h
  · have h1 : (n : Int) ≤ (s.size : Int) - (i : Int) := by omega
    go_enter Tryd.func34, Tryd.ntmps34
    go_wp2_with fail
    go_quiet (fail)
    go_wp2_with fail
    go_ret2
    refine ⟨_, _, rfl, ?_, ?_, below_drewN (Below.refl _ _) _⟩
    · intro _; exact ⟨i + n, by omega, by rw [unhide HO]; rw [if_pos h]⟩
    · intro h; (first | (simp at h; done) | (simp at h; omega))
  · have h1 : ¬ (n : Int) ≤ (s.size : Int) - (i : Int) := by omega
    go_enter Tryd.func34, Tryd.ntmps34
    go_wp2_with fail
    go_quiet (fail)
    go_wp2_with fail
    go_ret2
    refine ⟨_, _, rfl, ?_, ?_, below_drewN (Below.refl _ _) _⟩
    · intro h; (first | (simp at h; done) | (simp at h; omega))
    · intro _; rw [unhide HO]; rw [if_neg h]

set_option maxRecDepth 100000 in
set_option maxHeartbeats 1000000 in
theorem only_rtab {w : World} {g gn o : Nat} {s : ByteArray} {T : PT} {i : Nat} (c0 : w.cell? ⟨g, 0, none⟩ = some (.string s)) (k0 : w.cell? ⟨gn, o, none⟩ = some (.int .i64 T.k)) (k2 : w.cell? ⟨gn, o + 2, none⟩ = some (.int .i64 T.n)) (_hs : s.size ≤ 65536) (_hi : i ≤ s.size) (hk : T.k = 9) (hn : 0 ≤ T.n ∧ T.n ≤ 65536) :
    Calls Tryd.prog 34 #[.pointer (some ⟨g, 0, none⟩), .pointer (some ⟨gn, o, none⟩), .int .i64 (i : Int)] w fun e w' => OnlPost s T i w e w' := by
  have HO := hide (show onl s T i = if i + T.n.toNat ≤ s.size then some (s.size - T.n.toNat) else none by unfold onl; simp [hk])
  obtain ⟨n, hN⟩ : ∃ n : Nat, T.n = (n : Int) := ⟨T.n.toNat, by omega⟩
  have hnT : T.n.toNat = n := by omega
  rw [hnT] at HO
  rw [hk] at k0
  rw [hN] at k2 hn
  clear hk hnT
  rcases Classical.em (i + n ≤ s.size) with h | h
  · have h1 : (i : Int) ≤ (s.size : Int) - (n : Int) := by omega
    go_enter Tryd.func34, Tryd.ntmps34
    go_wp2_with fail
    go_quiet (fail)
    go_wp2_with fail
    go_ret2
    refine ⟨_, _, rfl, ?_, ?_, below_drewN (Below.refl _ _) _⟩
    · intro _; exact ⟨s.size - n, by omega, by rw [unhide HO]; rw [if_pos h]⟩
    · intro h; (first | (simp at h; done) | (simp at h; omega))
  · have h1 : ¬ (i : Int) ≤ (s.size : Int) - (n : Int) := by omega
    go_enter Tryd.func34, Tryd.ntmps34
    go_wp2_with fail
    go_quiet (fail)
    go_wp2_with fail
    go_ret2
    refine ⟨_, _, rfl, ?_, ?_, below_drewN (Below.refl _ _) _⟩
    · intro h; (first | (simp at h; done) | (simp at h; omega))
    · intro _; rw [unhide HO]; rw [if_neg h]

set_option maxRecDepth 100000 in
set_option maxHeartbeats 1000000 in
theorem only_pos {w : World} {g gn o : Nat} {s : ByteArray} {T : PT} {i : Nat} (c0 : w.cell? ⟨g, 0, none⟩ = some (.string s)) (k0 : w.cell? ⟨gn, o, none⟩ = some (.int .i64 T.k)) (k2 : w.cell? ⟨gn, o + 2, none⟩ = some (.int .i64 T.n)) (_hs : s.size ≤ 65536) (_hi : i ≤ s.size) (hk : T.k = 10) (hn : 0 ≤ T.n ∧ T.n ≤ 65536) :
    Calls Tryd.prog 34 #[.pointer (some ⟨g, 0, none⟩), .pointer (some ⟨gn, o, none⟩), .int .i64 (i : Int)] w fun e w' => OnlPost s T i w e w' := by
  have HO := hide (show onl s T i = if i = T.n.toNat then some i else none by unfold onl; simp [hk])
  obtain ⟨n, hN⟩ : ∃ n : Nat, T.n = (n : Int) := ⟨T.n.toNat, by omega⟩
  have hnT : T.n.toNat = n := by omega
  rw [hnT] at HO
  rw [hk] at k0
  rw [hN] at k2 hn
  clear hk hnT
  rcases Classical.em (i = n) with h | h
  · have h1 : ((i : Int) == (n : Int)) = true := by rw [beq_iff_eq]; omega
    go_enter Tryd.func34, Tryd.ntmps34
    go_wp2_with fail
    go_quiet (fail)
    go_wp2_with fail
    go_ret2
    refine ⟨_, _, rfl, ?_, ?_, below_drewN (Below.refl _ _) _⟩
    · intro _; exact ⟨i, by omega, by rw [unhide HO]; rw [if_pos h]⟩
    · intro h; (first | (simp at h; done) | (simp at h; omega))
  · have h1 : ((i : Int) == (n : Int)) = false := by rw [beq_eq_false_iff_ne]; omega
    go_enter Tryd.func34, Tryd.ntmps34
    go_wp2_with fail
    go_quiet (fail)
    go_wp2_with fail
    go_ret2
    refine ⟨_, _, rfl, ?_, ?_, below_drewN (Below.refl _ _) _⟩
    · intro h; (first | (simp at h; done) | (simp at h; omega))
    · intro _; rw [unhide HO]; rw [if_neg h]

set_option maxRecDepth 100000 in
set_option maxHeartbeats 1000000 in
theorem only_rpos {w : World} {g gn o : Nat} {s : ByteArray} {T : PT} {i : Nat} (c0 : w.cell? ⟨g, 0, none⟩ = some (.string s)) (k0 : w.cell? ⟨gn, o, none⟩ = some (.int .i64 T.k)) (k2 : w.cell? ⟨gn, o + 2, none⟩ = some (.int .i64 T.n)) (_hs : s.size ≤ 65536) (_hi : i ≤ s.size) (hk : T.k = 11) (hn : 0 ≤ T.n ∧ T.n ≤ 65536) :
    Calls Tryd.prog 34 #[.pointer (some ⟨g, 0, none⟩), .pointer (some ⟨gn, o, none⟩), .int .i64 (i : Int)] w fun e w' => OnlPost s T i w e w' := by
  have HO := hide (show onl s T i = if i + T.n.toNat = s.size then some i else none by unfold onl; simp [hk])
  obtain ⟨n, hN⟩ : ∃ n : Nat, T.n = (n : Int) := ⟨T.n.toNat, by omega⟩
  have hnT : T.n.toNat = n := by omega
  rw [hnT] at HO
  rw [hk] at k0
  rw [hN] at k2 hn
  clear hk hnT
  rcases Classical.em (i + n = s.size) with h | h
  · have h1 : ((i : Int) == (s.size : Int) - (n : Int)) = true := by rw [beq_iff_eq]; omega
    go_enter Tryd.func34, Tryd.ntmps34
    go_wp2_with fail
    go_quiet (fail)
    go_wp2_with fail
    go_ret2
    refine ⟨_, _, rfl, ?_, ?_, below_drewN (Below.refl _ _) _⟩
    · intro _; exact ⟨i, by omega, by rw [unhide HO]; rw [if_pos h]⟩
    · intro h; (first | (simp at h; done) | (simp at h; omega))
  · have h1 : ((i : Int) == (s.size : Int) - (n : Int)) = false := by rw [beq_eq_false_iff_ne]; omega
    go_enter Tryd.func34, Tryd.ntmps34
    go_wp2_with fail
    go_quiet (fail)
    go_wp2_with fail
    go_ret2
    refine ⟨_, _, rfl, ?_, ?_, below_drewN (Below.refl _ _) _⟩
    · intro h; (first | (simp at h; done) | (simp at h; omega))
    · intro _; rw [unhide HO]; rw [if_neg h]

set_option maxRecDepth 100000 in
set_option maxHeartbeats 1000000 in
theorem only_rem {w : World} {g gn o : Nat} {s : ByteArray} {T : PT} {i : Nat} (c0 : w.cell? ⟨g, 0, none⟩ = some (.string s)) (k0 : w.cell? ⟨gn, o, none⟩ = some (.int .i64 T.k)) (_hs : s.size ≤ 65536) (_hi : i ≤ s.size) (hk : T.k = 12) :
    Calls Tryd.prog 34 #[.pointer (some ⟨g, 0, none⟩), .pointer (some ⟨gn, o, none⟩), .int .i64 (i : Int)] w fun e w' => OnlPost s T i w e w' := by
  have HO := hide (show onl s T i = some s.size by unfold onl; simp [hk])
  rw [hk] at k0
  clear hk
  · skip
    go_enter Tryd.func34, Tryd.ntmps34
    go_wp2_with fail
    go_ret2
    refine ⟨_, _, rfl, ?_, ?_, Below.refl _ _⟩
    · intro _; exact ⟨s.size, by omega, by rw [unhide HO]; (try rfl)⟩
    · intro h; (first | (simp at h; done) | (simp at h; omega))

set_option maxRecDepth 100000 in
set_option maxHeartbeats 1000000 in
theorem only_tab {w : World} {g gn o : Nat} {s : ByteArray} {T : PT} {i : Nat} (c0 : w.cell? ⟨g, 0, none⟩ = some (.string s)) (k0 : w.cell? ⟨gn, o, none⟩ = some (.int .i64 T.k)) (k2 : w.cell? ⟨gn, o + 2, none⟩ = some (.int .i64 T.n)) (_hs : s.size ≤ 65536) (_hi : i ≤ s.size) (hk : T.k = 8) (hn : 0 ≤ T.n ∧ T.n ≤ 65536) :
    Calls Tryd.prog 34 #[.pointer (some ⟨g, 0, none⟩), .pointer (some ⟨gn, o, none⟩), .int .i64 (i : Int)] w fun e w' => OnlPost s T i w e w' := by
  have HO := hide (show onl s T i = if i ≤ T.n.toNat ∧ T.n.toNat ≤ s.size then some T.n.toNat else none by unfold onl; simp [hk])
  obtain ⟨n, hN⟩ : ∃ n : Nat, T.n = (n : Int) := ⟨T.n.toNat, by omega⟩
  have hnT : T.n.toNat = n := by omega
  rw [hnT] at HO
  rw [hk] at k0
  rw [hN] at k2 hn
  clear hk hnT
  rcases (show (i ≤ n ∧ n ≤ s.size) ∨ ¬ i ≤ n ∨ (i ≤ n ∧ ¬ n ≤ s.size) by omega) with h | h | h
  · have h1 : (i : Int) ≤ (n : Int) := by omega
    have h2 : (n : Int) ≤ (s.size : Int) := by omega
    go_enter Tryd.func34, Tryd.ntmps34
    go_wp2_with fail
    go_quiet (fail)
    go_wp2_with fail
    go_ret2
    refine ⟨_, _, rfl, ?_, ?_, below_drewN (Below.refl _ _) _⟩
    · intro _; exact ⟨n, by omega, by rw [unhide HO]; rw [if_pos h]⟩
    · intro h; (first | (simp at h; done) | (simp at h; omega))
  · have h1 : decide ((i : Int) ≤ (n : Int)) = false := by simp; omega
    go_enter Tryd.func34, Tryd.ntmps34
    go_wp2_with fail
    go_quiet (fail)
    go_wp2_with fail
    go_ret2
    refine ⟨_, _, rfl, ?_, ?_, below_drewN (Below.refl _ _) _⟩
    · intro h; (first | (simp at h; done) | (simp at h; omega))
    · intro _; rw [unhide HO]; rw [if_neg (by omega)]
  · have h1 : (i : Int) ≤ (n : Int) := by omega
    have h2 : ¬ (n : Int) ≤ (s.size : Int) := by omega
    go_enter Tryd.func34, Tryd.ntmps34
    go_wp2_with fail
    go_quiet (fail)
    go_wp2_with fail
    go_ret2
    refine ⟨_, _, rfl, ?_, ?_, below_drewN (Below.refl _ _) _⟩
    · intro h; (first | (simp at h; done) | (simp at h; omega))
    · intro _; rw [unhide HO]; rw [if_neg (by omega)]

set_option maxRecDepth 100000 in
set_option maxHeartbeats 1000000 in
theorem only_fail {w : World} {g gn o : Nat} {s : ByteArray} {T : PT} {i : Nat} (c0 : w.cell? ⟨g, 0, none⟩ = some (.string s)) (k0 : w.cell? ⟨gn, o, none⟩ = some (.int .i64 T.k)) (_hs : s.size ≤ 65536) (_hi : i ≤ s.size) (hk : T.k = 15) :
    Calls Tryd.prog 34 #[.pointer (some ⟨g, 0, none⟩), .pointer (some ⟨gn, o, none⟩), .int .i64 (i : Int)] w fun e w' => OnlPost s T i w e w' := by
  have HO := hide (show onl s T i = none by unfold onl; simp [hk])
  rw [hk] at k0
  clear hk
  · skip
    go_enter Tryd.func34, Tryd.ntmps34
    go_wp2_with fail
    go_ret2
    refine ⟨_, _, rfl, ?_, ?_, Below.refl _ _⟩
    · intro h; (first | (simp at h; done) | (simp at h; omega))
    · intro _; rw [unhide HO]; (try rfl)

end Go.Proofs.YtkggmodabpjobaaDoor
