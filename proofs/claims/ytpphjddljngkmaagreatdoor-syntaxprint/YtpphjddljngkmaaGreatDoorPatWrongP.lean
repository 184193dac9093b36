/- What pats.wrongNode, wrongBelow and Wrong do, for every pattern. -/
import Derived.Test.YtpphjddljngkmaaGreatDoorPatSizeP
namespace Go.Proofs.YtpphjddljngkmaaGreatDoor
open Go.RowKit

/-- The table of kinds as the program's text lays it. -/
def shapeWords : List ByteArray := [⟨#[]⟩, ⟨#[]⟩, ⟨#[76, 69, 78]⟩, ⟨#[65, 78, 89]⟩, ⟨#[78, 79, 84, 65, 78, 89]⟩, ⟨#[83, 80, 65, 78]⟩, ⟨#[66, 82, 69, 65, 75]⟩, ⟨#[66, 82, 69, 65, 75, 88]⟩, ⟨#[84, 65, 66]⟩, ⟨#[82, 84, 65, 66]⟩, ⟨#[80, 79, 83]⟩, ⟨#[82, 80, 79, 83]⟩, ⟨#[82, 69, 77]⟩, ⟨#[65, 82, 66]⟩, ⟨#[66, 65, 76]⟩, ⟨#[70, 65, 73, 76]⟩, ⟨#[70, 69, 78, 67, 69]⟩, ⟨#[65, 66, 79, 82, 84]⟩, ⟨#[]⟩, ⟨#[]⟩, ⟨#[65, 82, 66, 78, 79]⟩, ⟨#[]⟩, ⟨#[]⟩, ⟨#[]⟩, ⟨#[]⟩]
def wordK (K : Nat) : ByteArray := shapeWords.getD K ByteArray.empty
def Shapes (w : World) : Prop := ∀ K, 1 ≤ K → K ≤ 24 → w.cell? ⟨1, K * 4, none⟩ = some (.string (wordK K)) ∧ w.cell? ⟨1, K * 4 + 1, none⟩ = some (.int .i64 (hasK K)) ∧ w.cell? ⟨1, K * 4 + 2, none⟩ = some (.int .i64 (leastK K)) ∧ w.cell? ⟨1, K * 4 + 3, none⟩ = some (.int .i64 (mostK K))
theorem Shapes.later {w w' : World} (h : Shapes w) (hb : Below w.heap.size w w') : Shapes w' := fun K h1 h2 => by
  obtain ⟨a, b, c, d⟩ := h K h1 h2
  exact ⟨cell_later hb a, cell_later hb b, cell_later hb c, cell_later hb d⟩
theorem hasK_four (K : Int) : hasK K = 0 ∨ hasK K = 1 ∨ hasK K = 2 ∨ hasK K = 3 := by unfold hasK; split <;> (try split) <;> (try split) <;> simp
set_option maxRecDepth 100000 in
set_option maxHeartbeats 1000000 in
theorem node_kind (T : PT) (w : World) (h : T.k < 1 ∨ 24 < T.k) :
    Calls Tryz.prog 51 #[pv T] w fun e w' => e = .returned (.int .i64 (errN T)) ∧ Below w.heap.size w w' := by
  unfold pv
  have HE : Hid (errN T = 1) := hide (by unfold errN; rw [if_pos h])
  rw [unhide HE]
  rcases h with h | h
  · go_enter Tryz.func51, Tryz.ntmps51
    go_wp2_with fail
    go_ret
    exact ⟨rfl, ba _⟩
  · have h1 : ¬ T.k < 1 := by omega
    go_enter Tryz.func51, Tryz.ntmps51
    go_wp2_with fail
    go_ret
    exact ⟨rfl, ba _⟩
set_option maxRecDepth 100000 in
set_option maxHeartbeats 1000000 in
theorem node_text (T : PT) (w : World) (hS : Shapes w) (h : ¬ (T.k < 1 ∨ 24 < T.k)) (hh : hasK T.k = 1) (hl : 65536 < T.t.size) :
    Calls Tryz.prog 51 #[pv T] w fun e w' => e = .returned (.int .i64 (errN T)) ∧ Below w.heap.size w w' := by
  unfold pv
  have HE : Hid (errN T = 4) := hide (by unfold errN; rw [if_neg h, if_pos ⟨hh, hl⟩])
  rw [unhide HE]
  obtain ⟨K, hK⟩ : ∃ K : Nat, T.k = (K : Int) := ⟨T.k.toNat, by omega⟩
  obtain ⟨s0, s1, s2, s3⟩ := hS K (by omega) (by omega)
  have hz : 1 < w.heap.size := World.block_lt_of_cell? _ _ s0
  have hz' : ¬ w.heap.size = 1 := by omega
  rw [← hK, hh] at s1
  rw [← hK] at s2 s3
  have h1 : ¬ (K : Int) < 1 := by omega
  have h2 : ¬ 24 < (K : Int) := by omega
  have h3 : 65536 < (T.t.size : Int) := by omega
  clear hS h hh HE
  generalize leastK T.k = least at *
  generalize mostK T.k = most at *
  rw [hK]
  clear hK
  go_enter Tryz.func51, Tryz.ntmps51
  go_wp2_with fail
  go_ret
  exact ⟨rfl, (ba _).alloc (by simp) _⟩
set_option maxRecDepth 100000 in
set_option maxHeartbeats 1000000 in
theorem node_empty (T : PT) (w : World) (hS : Shapes w) (h : ¬ (T.k < 1 ∨ 24 < T.k)) (hh : hasK T.k = 1) (hk : T.k ≠ 1) (hl : T.t.size = 0) :
    Calls Tryz.prog 51 #[pv T] w fun e w' => e = .returned (.int .i64 (errN T)) ∧ Below w.heap.size w w' := by
  unfold pv
  have HE : Hid (errN T = 8) := hide (by unfold errN; rw [if_neg h, if_neg (by omega), if_pos ⟨hh, hk, hl⟩])
  rw [unhide HE]
  obtain ⟨K, hK⟩ : ∃ K : Nat, T.k = (K : Int) := ⟨T.k.toNat, by omega⟩
  obtain ⟨s0, s1, s2, s3⟩ := hS K (by omega) (by omega)
  have hz : 1 < w.heap.size := World.block_lt_of_cell? _ _ s0
  have hz' : ¬ w.heap.size = 1 := by omega
  rw [← hK, hh] at s1
  rw [← hK] at s2 s3
  have h1 : ¬ (K : Int) < 1 := by omega
  have h2 : ¬ 24 < (K : Int) := by omega
  have h3 : ¬ 65536 < (T.t.size : Int) := by omega
  have h4 := isEmpty_true T.t hl
  have h5 : ((K : Int) != 1) = true := by rw [bne_iff_ne]; omega
  rw [hK] at hk
  clear hS h hh HE
  generalize leastK T.k = least at *
  generalize mostK T.k = most at *
  rw [hK]
  clear hK
  go_enter Tryz.func51, Tryz.ntmps51
  go_wp2_with fail
  go_ret
  exact ⟨rfl, (ba _).alloc (by simp) _⟩
set_option maxRecDepth 100000 in
set_option maxHeartbeats 1000000 in
theorem node_low (T : PT) (w : World) (hS : Shapes w) (h : ¬ (T.k < 1 ∨ 24 < T.k)) (hh : hasK T.k = 2) (hl : T.n < 0) :
    Calls Tryz.prog 51 #[pv T] w fun e w' => e = .returned (.int .i64 (errN T)) ∧ Below w.heap.size w w' := by
  unfold pv
  have HE : Hid (errN T = 3) := hide (by unfold errN; rw [if_neg h, if_neg (by omega), if_neg (by omega), if_pos ⟨hh, .inl hl⟩])
  rw [unhide HE]
  obtain ⟨K, hK⟩ : ∃ K : Nat, T.k = (K : Int) := ⟨T.k.toNat, by omega⟩
  obtain ⟨s0, s1, s2, s3⟩ := hS K (by omega) (by omega)
  have hz : 1 < w.heap.size := World.block_lt_of_cell? _ _ s0
  have hz' : ¬ w.heap.size = 1 := by omega
  rw [← hK, hh] at s1
  rw [← hK] at s2 s3
  have h1 : ¬ (K : Int) < 1 := by omega
  have h2 : ¬ 24 < (K : Int) := by omega
  have h3 : T.n < 0 := hl
  clear hS h hh HE
  generalize leastK T.k = least at *
  generalize mostK T.k = most at *
  rw [hK]
  clear hK
  go_enter Tryz.func51, Tryz.ntmps51
  go_wp2_with fail
  go_ret
  exact ⟨rfl, (ba _).alloc (by simp) _⟩
set_option maxRecDepth 100000 in
set_option maxHeartbeats 1000000 in
theorem node_high (T : PT) (w : World) (hS : Shapes w) (h : ¬ (T.k < 1 ∨ 24 < T.k)) (hh : hasK T.k = 2) (hl : 65536 < T.n) :
    Calls Tryz.prog 51 #[pv T] w fun e w' => e = .returned (.int .i64 (errN T)) ∧ Below w.heap.size w w' := by
  unfold pv
  have HE : Hid (errN T = 3) := hide (by unfold errN; rw [if_neg h, if_neg (by omega), if_neg (by omega), if_pos ⟨hh, .inr hl⟩])
  rw [unhide HE]
  obtain ⟨K, hK⟩ : ∃ K : Nat, T.k = (K : Int) := ⟨T.k.toNat, by omega⟩
  obtain ⟨s0, s1, s2, s3⟩ := hS K (by omega) (by omega)
  have hz : 1 < w.heap.size := World.block_lt_of_cell? _ _ s0
  have hz' : ¬ w.heap.size = 1 := by omega
  rw [← hK, hh] at s1
  rw [← hK] at s2 s3
  have h1 : ¬ (K : Int) < 1 := by omega
  have h2 : ¬ 24 < (K : Int) := by omega
  have h3 : ¬ T.n < 0 := by omega
  clear hS h hh HE
  generalize leastK T.k = least at *
  generalize mostK T.k = most at *
  rw [hK]
  clear hK
  go_enter Tryz.func51, Tryz.ntmps51
  go_wp2_with fail
  go_ret
  exact ⟨rfl, (ba _).alloc (by simp) _⟩
set_option maxRecDepth 100000 in
set_option maxHeartbeats 1000000 in
theorem node_name (T : PT) (w : World) (hS : Shapes w) (h : ¬ (T.k < 1 ∨ 24 < T.k)) (hh : hasK T.k = 3) (hN : T.nm.size ≤ maxLen) (hl : named T.nm = false) :
    Calls Tryz.prog 51 #[pv T] w fun e w' => e = .returned (.int .i64 (errN T)) ∧ Below w.heap.size w w' := by
  unfold pv
  have HE : Hid (errN T = 7) := hide (by unfold errN; rw [if_neg h, if_neg (by omega), if_neg (by omega), if_neg (by omega), if_pos ⟨hh, hl⟩])
  rw [unhide HE]
  obtain ⟨K, hK⟩ : ∃ K : Nat, T.k = (K : Int) := ⟨T.k.toNat, by omega⟩
  obtain ⟨s0, s1, s2, s3⟩ := hS K (by omega) (by omega)
  have hz : 1 < w.heap.size := World.block_lt_of_cell? _ _ s0
  have hz' : ¬ w.heap.size = 1 := by omega
  rw [← hK, hh] at s1
  rw [← hK] at s2 s3
  have h1 : ¬ (K : Int) < 1 := by omega
  have h2 : ¬ 24 < (K : Int) := by omega
  have HN := hide (And.intro hN hl)
  clear hN hl
  clear hS h hh HE
  generalize leastK T.k = least at *
  generalize mostK T.k = most at *
  rw [hK]
  clear hK
  go_enter Tryz.func51, Tryz.ntmps51
  go_wp2_with (go_at_call 16; refine (named_any _ _ (unhide HN).1).mono ?_; rintro e w1 ⟨rfl, rfl⟩; rw [(unhide HN).2])
  go_ret
  exact ⟨rfl, (ba _).alloc (by simp) _⟩
set_option maxRecDepth 100000 in
set_option maxHeartbeats 1000000 in
theorem node_lit_lt (T : PT) (w : World) (hS : Shapes w) (h : ¬ (T.k < 1 ∨ 24 < T.k)) (hh : hasK T.k = 1) (hl : T.t.size ≤ 65536) (hk : T.k = 1) (hn : (T.len : Int) < leastK T.k) :
    Calls Tryz.prog 51 #[pv T] w fun e w' => e = .returned (.int .i64 (errN T)) ∧ Below w.heap.size w w' := by
  unfold pv
  have HE : Hid (errN T = 5) := hide (by unfold errN; rw [if_neg h, if_neg (by omega), if_neg (by omega), if_neg (by omega), if_neg (by omega), if_pos (.inl hn)])
  rw [unhide HE]
  obtain ⟨K, hK⟩ : ∃ K : Nat, T.k = (K : Int) := ⟨T.k.toNat, by omega⟩
  obtain ⟨s0, s1, s2, s3⟩ := hS K (by omega) (by omega)
  have hz : 1 < w.heap.size := World.block_lt_of_cell? _ _ s0
  have hz' : ¬ w.heap.size = 1 := by omega
  rw [← hK, hh] at s1
  rw [← hK] at s2 s3
  have h1 : ¬ (K : Int) < 1 := by omega
  have h2 : ¬ 24 < (K : Int) := by omega
  have h3 : ¬ 65536 < (T.t.size : Int) := by omega
  have h5 : ((K : Int) != 1) = false := by rw [bne_eq_false_iff_eq]; omega
  clear hk
  clear hS h hh HE
  generalize leastK T.k = least at *
  generalize mostK T.k = most at *
  rw [hK]
  clear hK
  go_enter Tryz.func51, Tryz.ntmps51
  go_wp2_with fail
  go_ret
  exact ⟨rfl, (ba _).alloc (by simp) _⟩
set_option maxRecDepth 100000 in
set_option maxHeartbeats 1000000 in
theorem node_lit_gt (T : PT) (w : World) (hS : Shapes w) (h : ¬ (T.k < 1 ∨ 24 < T.k)) (hh : hasK T.k = 1) (hl : T.t.size ≤ 65536) (hk : T.k = 1) (hm : ¬ (T.len : Int) < leastK T.k) (hn : mostK T.k < (T.len : Int)) :
    Calls Tryz.prog 51 #[pv T] w fun e w' => e = .returned (.int .i64 (errN T)) ∧ Below w.heap.size w w' := by
  unfold pv
  have HE : Hid (errN T = 5) := hide (by unfold errN; rw [if_neg h, if_neg (by omega), if_neg (by omega), if_neg (by omega), if_neg (by omega), if_pos (.inr hn)])
  rw [unhide HE]
  obtain ⟨K, hK⟩ : ∃ K : Nat, T.k = (K : Int) := ⟨T.k.toNat, by omega⟩
  obtain ⟨s0, s1, s2, s3⟩ := hS K (by omega) (by omega)
  have hz : 1 < w.heap.size := World.block_lt_of_cell? _ _ s0
  have hz' : ¬ w.heap.size = 1 := by omega
  rw [← hK, hh] at s1
  rw [← hK] at s2 s3
  have h1 : ¬ (K : Int) < 1 := by omega
  have h2 : ¬ 24 < (K : Int) := by omega
  have h3 : ¬ 65536 < (T.t.size : Int) := by omega
  have h5 : ((K : Int) != 1) = false := by rw [bne_eq_false_iff_eq]; omega
  clear hk
  clear hS h hh HE
  generalize leastK T.k = least at *
  generalize mostK T.k = most at *
  rw [hK]
  clear hK
  go_enter Tryz.func51, Tryz.ntmps51
  go_wp2_with fail
  go_ret
  exact ⟨rfl, (ba _).alloc (by simp) _⟩
set_option maxRecDepth 100000 in
set_option maxHeartbeats 1000000 in
theorem node_lit_ok (T : PT) (w : World) (hS : Shapes w) (h : ¬ (T.k < 1 ∨ 24 < T.k)) (hh : hasK T.k = 1) (hl : T.t.size ≤ 65536) (hk : T.k = 1) (hm : ¬ (T.len : Int) < leastK T.k) (hn : ¬ mostK T.k < (T.len : Int)) :
    Calls Tryz.prog 51 #[pv T] w fun e w' => e = .returned (.int .i64 (errN T)) ∧ Below w.heap.size w w' := by
  unfold pv
  have HE : Hid (errN T = 0) := hide (by unfold errN; rw [if_neg h, if_neg (by omega), if_neg (by omega), if_neg (by omega), if_neg (by omega), if_neg (fun h => h.elim hm hn)])
  rw [unhide HE]
  obtain ⟨K, hK⟩ : ∃ K : Nat, T.k = (K : Int) := ⟨T.k.toNat, by omega⟩
  obtain ⟨s0, s1, s2, s3⟩ := hS K (by omega) (by omega)
  have hz : 1 < w.heap.size := World.block_lt_of_cell? _ _ s0
  have hz' : ¬ w.heap.size = 1 := by omega
  rw [← hK, hh] at s1
  rw [← hK] at s2 s3
  have h1 : ¬ (K : Int) < 1 := by omega
  have h2 : ¬ 24 < (K : Int) := by omega
  have h3 : ¬ 65536 < (T.t.size : Int) := by omega
  have h5 : ((K : Int) != 1) = false := by rw [bne_eq_false_iff_eq]; omega
  clear hk
  clear hS h hh HE
  generalize leastK T.k = least at *
  generalize mostK T.k = most at *
  rw [hK]
  clear hK
  go_enter Tryz.func51, Tryz.ntmps51
  go_wp2_with fail
  go_ret
  exact ⟨rfl, (ba _).alloc (by simp) _⟩
set_option maxRecDepth 100000 in
set_option maxHeartbeats 1000000 in
theorem node_full_lt (T : PT) (w : World) (hS : Shapes w) (h : ¬ (T.k < 1 ∨ 24 < T.k)) (hh : hasK T.k = 1) (hl : T.t.size ≤ 65536) (hk : T.k ≠ 1) (h0 : T.t.size ≠ 0) (hn : (T.len : Int) < leastK T.k) :
    Calls Tryz.prog 51 #[pv T] w fun e w' => e = .returned (.int .i64 (errN T)) ∧ Below w.heap.size w w' := by
  unfold pv
  have HE : Hid (errN T = 5) := hide (by unfold errN; rw [if_neg h, if_neg (by omega), if_neg (by omega), if_neg (by omega), if_neg (by omega), if_pos (.inl hn)])
  rw [unhide HE]
  obtain ⟨K, hK⟩ : ∃ K : Nat, T.k = (K : Int) := ⟨T.k.toNat, by omega⟩
  obtain ⟨s0, s1, s2, s3⟩ := hS K (by omega) (by omega)
  have hz : 1 < w.heap.size := World.block_lt_of_cell? _ _ s0
  have hz' : ¬ w.heap.size = 1 := by omega
  rw [← hK, hh] at s1
  rw [← hK] at s2 s3
  have h1 : ¬ (K : Int) < 1 := by omega
  have h2 : ¬ 24 < (K : Int) := by omega
  have h3 : ¬ 65536 < (T.t.size : Int) := by omega
  have h4 := isEmpty_false T.t h0
  have h5 : ((K : Int) != 1) = true := by rw [bne_iff_ne]; omega
  clear hk
  clear hS h hh HE
  generalize leastK T.k = least at *
  generalize mostK T.k = most at *
  rw [hK]
  clear hK
  go_enter Tryz.func51, Tryz.ntmps51
  go_wp2_with fail
  go_ret
  exact ⟨rfl, (ba _).alloc (by simp) _⟩
set_option maxRecDepth 100000 in
set_option maxHeartbeats 1000000 in
theorem node_full_gt (T : PT) (w : World) (hS : Shapes w) (h : ¬ (T.k < 1 ∨ 24 < T.k)) (hh : hasK T.k = 1) (hl : T.t.size ≤ 65536) (hk : T.k ≠ 1) (h0 : T.t.size ≠ 0) (hm : ¬ (T.len : Int) < leastK T.k) (hn : mostK T.k < (T.len : Int)) :
    Calls Tryz.prog 51 #[pv T] w fun e w' => e = .returned (.int .i64 (errN T)) ∧ Below w.heap.size w w' := by
  unfold pv
  have HE : Hid (errN T = 5) := hide (by unfold errN; rw [if_neg h, if_neg (by omega), if_neg (by omega), if_neg (by omega), if_neg (by omega), if_pos (.inr hn)])
  rw [unhide HE]
  obtain ⟨K, hK⟩ : ∃ K : Nat, T.k = (K : Int) := ⟨T.k.toNat, by omega⟩
  obtain ⟨s0, s1, s2, s3⟩ := hS K (by omega) (by omega)
  have hz : 1 < w.heap.size := World.block_lt_of_cell? _ _ s0
  have hz' : ¬ w.heap.size = 1 := by omega
  rw [← hK, hh] at s1
  rw [← hK] at s2 s3
  have h1 : ¬ (K : Int) < 1 := by omega
  have h2 : ¬ 24 < (K : Int) := by omega
  have h3 : ¬ 65536 < (T.t.size : Int) := by omega
  have h4 := isEmpty_false T.t h0
  have h5 : ((K : Int) != 1) = true := by rw [bne_iff_ne]; omega
  clear hk
  clear hS h hh HE
  generalize leastK T.k = least at *
  generalize mostK T.k = most at *
  rw [hK]
  clear hK
  go_enter Tryz.func51, Tryz.ntmps51
  go_wp2_with fail
  go_ret
  exact ⟨rfl, (ba _).alloc (by simp) _⟩
set_option maxRecDepth 100000 in
set_option maxHeartbeats 1000000 in
theorem node_full_ok (T : PT) (w : World) (hS : Shapes w) (h : ¬ (T.k < 1 ∨ 24 < T.k)) (hh : hasK T.k = 1) (hl : T.t.size ≤ 65536) (hk : T.k ≠ 1) (h0 : T.t.size ≠ 0) (hm : ¬ (T.len : Int) < leastK T.k) (hn : ¬ mostK T.k < (T.len : Int)) :
    Calls Tryz.prog 51 #[pv T] w fun e w' => e = .returned (.int .i64 (errN T)) ∧ Below w.heap.size w w' := by
  unfold pv
  have HE : Hid (errN T = 0) := hide (by unfold errN; rw [if_neg h, if_neg (by omega), if_neg (by omega), if_neg (by omega), if_neg (by omega), if_neg (fun h => h.elim hm hn)])
  rw [unhide HE]
  obtain ⟨K, hK⟩ : ∃ K : Nat, T.k = (K : Int) := ⟨T.k.toNat, by omega⟩
  obtain ⟨s0, s1, s2, s3⟩ := hS K (by omega) (by omega)
  have hz : 1 < w.heap.size := World.block_lt_of_cell? _ _ s0
  have hz' : ¬ w.heap.size = 1 := by omega
  rw [← hK, hh] at s1
  rw [← hK] at s2 s3
  have h1 : ¬ (K : Int) < 1 := by omega
  have h2 : ¬ 24 < (K : Int) := by omega
  have h3 : ¬ 65536 < (T.t.size : Int) := by omega
  have h4 := isEmpty_false T.t h0
  have h5 : ((K : Int) != 1) = true := by rw [bne_iff_ne]; omega
  clear hk
  clear hS h hh HE
  generalize leastK T.k = least at *
  generalize mostK T.k = most at *
  rw [hK]
  clear hK
  go_enter Tryz.func51, Tryz.ntmps51
  go_wp2_with fail
  go_ret
  exact ⟨rfl, (ba _).alloc (by simp) _⟩
set_option maxRecDepth 100000 in
set_option maxHeartbeats 1000000 in
theorem node_num_lt (T : PT) (w : World) (hS : Shapes w) (h : ¬ (T.k < 1 ∨ 24 < T.k)) (hh : hasK T.k = 2) (hl : 0 ≤ T.n) (hk : T.n ≤ 65536) (hn : (T.len : Int) < leastK T.k) :
    Calls Tryz.prog 51 #[pv T] w fun e w' => e = .returned (.int .i64 (errN T)) ∧ Below w.heap.size w w' := by
  unfold pv
  have HE : Hid (errN T = 5) := hide (by unfold errN; rw [if_neg h, if_neg (by omega), if_neg (by omega), if_neg (by omega), if_neg (by omega), if_pos (.inl hn)])
  rw [unhide HE]
  obtain ⟨K, hK⟩ : ∃ K : Nat, T.k = (K : Int) := ⟨T.k.toNat, by omega⟩
  obtain ⟨s0, s1, s2, s3⟩ := hS K (by omega) (by omega)
  have hz : 1 < w.heap.size := World.block_lt_of_cell? _ _ s0
  have hz' : ¬ w.heap.size = 1 := by omega
  rw [← hK, hh] at s1
  rw [← hK] at s2 s3
  have h1 : ¬ (K : Int) < 1 := by omega
  have h2 : ¬ 24 < (K : Int) := by omega
  have h3 : ¬ T.n < 0 := by omega
  have h4 : ¬ 65536 < T.n := by omega
  clear hS h hh HE
  generalize leastK T.k = least at *
  generalize mostK T.k = most at *
  rw [hK]
  clear hK
  go_enter Tryz.func51, Tryz.ntmps51
  go_wp2_with fail
  go_ret
  exact ⟨rfl, (ba _).alloc (by simp) _⟩
set_option maxRecDepth 100000 in
set_option maxHeartbeats 1000000 in
theorem node_num_gt (T : PT) (w : World) (hS : Shapes w) (h : ¬ (T.k < 1 ∨ 24 < T.k)) (hh : hasK T.k = 2) (hl : 0 ≤ T.n) (hk : T.n ≤ 65536) (hm : ¬ (T.len : Int) < leastK T.k) (hn : mostK T.k < (T.len : Int)) :
    Calls Tryz.prog 51 #[pv T] w fun e w' => e = .returned (.int .i64 (errN T)) ∧ Below w.heap.size w w' := by
  unfold pv
  have HE : Hid (errN T = 5) := hide (by unfold errN; rw [if_neg h, if_neg (by omega), if_neg (by omega), if_neg (by omega), if_neg (by omega), if_pos (.inr hn)])
  rw [unhide HE]
  obtain ⟨K, hK⟩ : ∃ K : Nat, T.k = (K : Int) := ⟨T.k.toNat, by omega⟩
  obtain ⟨s0, s1, s2, s3⟩ := hS K (by omega) (by omega)
  have hz : 1 < w.heap.size := World.block_lt_of_cell? _ _ s0
  have hz' : ¬ w.heap.size = 1 := by omega
  rw [← hK, hh] at s1
  rw [← hK] at s2 s3
  have h1 : ¬ (K : Int) < 1 := by omega
  have h2 : ¬ 24 < (K : Int) := by omega
  have h3 : ¬ T.n < 0 := by omega
  have h4 : ¬ 65536 < T.n := by omega
  clear hS h hh HE
  generalize leastK T.k = least at *
  generalize mostK T.k = most at *
  rw [hK]
  clear hK
  go_enter Tryz.func51, Tryz.ntmps51
  go_wp2_with fail
  go_ret
  exact ⟨rfl, (ba _).alloc (by simp) _⟩
set_option maxRecDepth 100000 in
set_option maxHeartbeats 1000000 in
theorem node_num_ok (T : PT) (w : World) (hS : Shapes w) (h : ¬ (T.k < 1 ∨ 24 < T.k)) (hh : hasK T.k = 2) (hl : 0 ≤ T.n) (hk : T.n ≤ 65536) (hm : ¬ (T.len : Int) < leastK T.k) (hn : ¬ mostK T.k < (T.len : Int)) :
    Calls Tryz.prog 51 #[pv T] w fun e w' => e = .returned (.int .i64 (errN T)) ∧ Below w.heap.size w w' := by
  unfold pv
  have HE : Hid (errN T = 0) := hide (by unfold errN; rw [if_neg h, if_neg (by omega), if_neg (by omega), if_neg (by omega), if_neg (by omega), if_neg (fun h => h.elim hm hn)])
  rw [unhide HE]
  obtain ⟨K, hK⟩ : ∃ K : Nat, T.k = (K : Int) := ⟨T.k.toNat, by omega⟩
  obtain ⟨s0, s1, s2, s3⟩ := hS K (by omega) (by omega)
  have hz : 1 < w.heap.size := World.block_lt_of_cell? _ _ s0
  have hz' : ¬ w.heap.size = 1 := by omega
  rw [← hK, hh] at s1
  rw [← hK] at s2 s3
  have h1 : ¬ (K : Int) < 1 := by omega
  have h2 : ¬ 24 < (K : Int) := by omega
  have h3 : ¬ T.n < 0 := by omega
  have h4 : ¬ 65536 < T.n := by omega
  clear hS h hh HE
  generalize leastK T.k = least at *
  generalize mostK T.k = most at *
  rw [hK]
  clear hK
  go_enter Tryz.func51, Tryz.ntmps51
  go_wp2_with fail
  go_ret
  exact ⟨rfl, (ba _).alloc (by simp) _⟩
set_option maxRecDepth 100000 in
set_option maxHeartbeats 1000000 in
theorem node_nam_lt (T : PT) (w : World) (hS : Shapes w) (h : ¬ (T.k < 1 ∨ 24 < T.k)) (hh : hasK T.k = 3) (hN : T.nm.size ≤ maxLen) (hl : named T.nm = true) (hn : (T.len : Int) < leastK T.k) :
    Calls Tryz.prog 51 #[pv T] w fun e w' => e = .returned (.int .i64 (errN T)) ∧ Below w.heap.size w w' := by
  unfold pv
  have HE : Hid (errN T = 5) := hide (by unfold errN; rw [if_neg h, if_neg (by omega), if_neg (by omega), if_neg (by omega), if_neg (by rw [hl]; simp), if_pos (.inl hn)])
  rw [unhide HE]
  obtain ⟨K, hK⟩ : ∃ K : Nat, T.k = (K : Int) := ⟨T.k.toNat, by omega⟩
  obtain ⟨s0, s1, s2, s3⟩ := hS K (by omega) (by omega)
  have hz : 1 < w.heap.size := World.block_lt_of_cell? _ _ s0
  have hz' : ¬ w.heap.size = 1 := by omega
  rw [← hK, hh] at s1
  rw [← hK] at s2 s3
  have h1 : ¬ (K : Int) < 1 := by omega
  have h2 : ¬ 24 < (K : Int) := by omega
  have HN := hide (And.intro hN hl)
  clear hN hl
  clear hS h hh HE
  generalize leastK T.k = least at *
  generalize mostK T.k = most at *
  rw [hK]
  clear hK
  go_enter Tryz.func51, Tryz.ntmps51
  go_wp2_with (go_at_call 16; refine (named_any _ _ (unhide HN).1).mono ?_; rintro e w1 ⟨rfl, rfl⟩; rw [(unhide HN).2])
  go_ret
  exact ⟨rfl, (ba _).alloc (by simp) _⟩
set_option maxRecDepth 100000 in
set_option maxHeartbeats 1000000 in
theorem node_nam_gt (T : PT) (w : World) (hS : Shapes w) (h : ¬ (T.k < 1 ∨ 24 < T.k)) (hh : hasK T.k = 3) (hN : T.nm.size ≤ maxLen) (hl : named T.nm = true) (hm : ¬ (T.len : Int) < leastK T.k) (hn : mostK T.k < (T.len : Int)) :
    Calls Tryz.prog 51 #[pv T] w fun e w' => e = .returned (.int .i64 (errN T)) ∧ Below w.heap.size w w' := by
  unfold pv
  have HE : Hid (errN T = 5) := hide (by unfold errN; rw [if_neg h, if_neg (by omega), if_neg (by omega), if_neg (by omega), if_neg (by rw [hl]; simp), if_pos (.inr hn)])
  rw [unhide HE]
  obtain ⟨K, hK⟩ : ∃ K : Nat, T.k = (K : Int) := ⟨T.k.toNat, by omega⟩
  obtain ⟨s0, s1, s2, s3⟩ := hS K (by omega) (by omega)
  have hz : 1 < w.heap.size := World.block_lt_of_cell? _ _ s0
  have hz' : ¬ w.heap.size = 1 := by omega
  rw [← hK, hh] at s1
  rw [← hK] at s2 s3
  have h1 : ¬ (K : Int) < 1 := by omega
  have h2 : ¬ 24 < (K : Int) := by omega
  have HN := hide (And.intro hN hl)
  clear hN hl
  clear hS h hh HE
  generalize leastK T.k = least at *
  generalize mostK T.k = most at *
  rw [hK]
  clear hK
  go_enter Tryz.func51, Tryz.ntmps51
  go_wp2_with (go_at_call 16; refine (named_any _ _ (unhide HN).1).mono ?_; rintro e w1 ⟨rfl, rfl⟩; rw [(unhide HN).2])
  go_ret
  exact ⟨rfl, (ba _).alloc (by simp) _⟩
set_option maxRecDepth 100000 in
set_option maxHeartbeats 1000000 in
theorem node_nam_ok (T : PT) (w : World) (hS : Shapes w) (h : ¬ (T.k < 1 ∨ 24 < T.k)) (hh : hasK T.k = 3) (hN : T.nm.size ≤ maxLen) (hl : named T.nm = true) (hm : ¬ (T.len : Int) < leastK T.k) (hn : ¬ mostK T.k < (T.len : Int)) :
    Calls Tryz.prog 51 #[pv T] w fun e w' => e = .returned (.int .i64 (errN T)) ∧ Below w.heap.size w w' := by
  unfold pv
  have HE : Hid (errN T = 0) := hide (by unfold errN; rw [if_neg h, if_neg (by omega), if_neg (by omega), if_neg (by omega), if_neg (by rw [hl]; simp), if_neg (fun h => h.elim hm hn)])
  rw [unhide HE]
  obtain ⟨K, hK⟩ : ∃ K : Nat, T.k = (K : Int) := ⟨T.k.toNat, by omega⟩
  obtain ⟨s0, s1, s2, s3⟩ := hS K (by omega) (by omega)
  have hz : 1 < w.heap.size := World.block_lt_of_cell? _ _ s0
  have hz' : ¬ w.heap.size = 1 := by omega
  rw [← hK, hh] at s1
  rw [← hK] at s2 s3
  have h1 : ¬ (K : Int) < 1 := by omega
  have h2 : ¬ 24 < (K : Int) := by omega
  have HN := hide (And.intro hN hl)
  clear hN hl
  clear hS h hh HE
  generalize leastK T.k = least at *
  generalize mostK T.k = most at *
  rw [hK]
  clear hK
  go_enter Tryz.func51, Tryz.ntmps51
  go_wp2_with (go_at_call 16; refine (named_any _ _ (unhide HN).1).mono ?_; rintro e w1 ⟨rfl, rfl⟩; rw [(unhide HN).2])
  go_ret
  exact ⟨rfl, (ba _).alloc (by simp) _⟩
set_option maxRecDepth 100000 in
set_option maxHeartbeats 1000000 in
theorem node_non_lt (T : PT) (w : World) (hS : Shapes w) (h : ¬ (T.k < 1 ∨ 24 < T.k)) (hh : hasK T.k = 0) (hn : (T.len : Int) < leastK T.k) :
    Calls Tryz.prog 51 #[pv T] w fun e w' => e = .returned (.int .i64 (errN T)) ∧ Below w.heap.size w w' := by
  unfold pv
  have HE : Hid (errN T = 5) := hide (by unfold errN; rw [if_neg h, if_neg (by omega), if_neg (by omega), if_neg (by omega), if_neg (by omega), if_pos (.inl hn)])
  rw [unhide HE]
  obtain ⟨K, hK⟩ : ∃ K : Nat, T.k = (K : Int) := ⟨T.k.toNat, by omega⟩
  obtain ⟨s0, s1, s2, s3⟩ := hS K (by omega) (by omega)
  have hz : 1 < w.heap.size := World.block_lt_of_cell? _ _ s0
  have hz' : ¬ w.heap.size = 1 := by omega
  rw [← hK, hh] at s1
  rw [← hK] at s2 s3
  have h1 : ¬ (K : Int) < 1 := by omega
  have h2 : ¬ 24 < (K : Int) := by omega

  clear hS h hh HE
  generalize leastK T.k = least at *
  generalize mostK T.k = most at *
  rw [hK]
  clear hK
  go_enter Tryz.func51, Tryz.ntmps51
  go_wp2_with fail
  go_ret
  exact ⟨rfl, (ba _).alloc (by simp) _⟩
set_option maxRecDepth 100000 in
set_option maxHeartbeats 1000000 in
theorem node_non_gt (T : PT) (w : World) (hS : Shapes w) (h : ¬ (T.k < 1 ∨ 24 < T.k)) (hh : hasK T.k = 0) (hm : ¬ (T.len : Int) < leastK T.k) (hn : mostK T.k < (T.len : Int)) :
    Calls Tryz.prog 51 #[pv T] w fun e w' => e = .returned (.int .i64 (errN T)) ∧ Below w.heap.size w w' := by
  unfold pv
  have HE : Hid (errN T = 5) := hide (by unfold errN; rw [if_neg h, if_neg (by omega), if_neg (by omega), if_neg (by omega), if_neg (by omega), if_pos (.inr hn)])
  rw [unhide HE]
  obtain ⟨K, hK⟩ : ∃ K : Nat, T.k = (K : Int) := ⟨T.k.toNat, by omega⟩
  obtain ⟨s0, s1, s2, s3⟩ := hS K (by omega) (by omega)
  have hz : 1 < w.heap.size := World.block_lt_of_cell? _ _ s0
  have hz' : ¬ w.heap.size = 1 := by omega
  rw [← hK, hh] at s1
  rw [← hK] at s2 s3
  have h1 : ¬ (K : Int) < 1 := by omega
  have h2 : ¬ 24 < (K : Int) := by omega

  clear hS h hh HE
  generalize leastK T.k = least at *
  generalize mostK T.k = most at *
  rw [hK]
  clear hK
  go_enter Tryz.func51, Tryz.ntmps51
  go_wp2_with fail
  go_ret
  exact ⟨rfl, (ba _).alloc (by simp) _⟩
set_option maxRecDepth 100000 in
set_option maxHeartbeats 1000000 in
theorem node_non_ok (T : PT) (w : World) (hS : Shapes w) (h : ¬ (T.k < 1 ∨ 24 < T.k)) (hh : hasK T.k = 0) (hm : ¬ (T.len : Int) < leastK T.k) (hn : ¬ mostK T.k < (T.len : Int)) :
    Calls Tryz.prog 51 #[pv T] w fun e w' => e = .returned (.int .i64 (errN T)) ∧ Below w.heap.size w w' := by
  unfold pv
  have HE : Hid (errN T = 0) := hide (by unfold errN; rw [if_neg h, if_neg (by omega), if_neg (by omega), if_neg (by omega), if_neg (by omega), if_neg (fun h => h.elim hm hn)])
  rw [unhide HE]
  obtain ⟨K, hK⟩ : ∃ K : Nat, T.k = (K : Int) := ⟨T.k.toNat, by omega⟩
  obtain ⟨s0, s1, s2, s3⟩ := hS K (by omega) (by omega)
  have hz : 1 < w.heap.size := World.block_lt_of_cell? _ _ s0
  have hz' : ¬ w.heap.size = 1 := by omega
  rw [← hK, hh] at s1
  rw [← hK] at s2 s3
  have h1 : ¬ (K : Int) < 1 := by omega
  have h2 : ¬ 24 < (K : Int) := by omega

  clear hS h hh HE
  generalize leastK T.k = least at *
  generalize mostK T.k = most at *
  rw [hK]
  clear hK
  go_enter Tryz.func51, Tryz.ntmps51
  go_wp2_with fail
  go_ret
  exact ⟨rfl, (ba _).alloc (by simp) _⟩
theorem node_any (T : PT) (w : World) (hT : T.In w) (hS : Shapes w) :
    Calls Tryz.prog 51 #[pv T] w fun e w' => e = .returned (.int .i64 (errN T)) ∧ Below w.heap.size w w' := by
  by_cases h : T.k < 1 ∨ 24 < T.k
  · exact node_kind T w h
  rcases hasK_four T.k with hh | hh | hh | hh
  · by_cases hm : (T.len : Int) < leastK T.k
    · exact node_non_lt T w hS h hh hm
    · by_cases hn : mostK T.k < (T.len : Int)
      · exact node_non_gt T w hS h hh hm hn
      · exact node_non_ok T w hS h hh hm hn
  · by_cases hl : 65536 < T.t.size
    · exact node_text T w hS h hh hl
    · by_cases hk : T.k = 1
      · by_cases hm : (T.len : Int) < leastK T.k
        · exact node_lit_lt T w hS h hh (by omega) hk hm
        · by_cases hn : mostK T.k < (T.len : Int)
          · exact node_lit_gt T w hS h hh (by omega) hk hm hn
          · exact node_lit_ok T w hS h hh (by omega) hk hm hn
      · by_cases h0 : T.t.size = 0
        · exact node_empty T w hS h hh hk h0
        · by_cases hm : (T.len : Int) < leastK T.k
          · exact node_full_lt T w hS h hh (by omega) hk h0 hm
          · by_cases hn : mostK T.k < (T.len : Int)
            · exact node_full_gt T w hS h hh (by omega) hk h0 hm hn
            · exact node_full_ok T w hS h hh (by omega) hk h0 hm hn
  · by_cases hl : T.n < 0
    · exact node_low T w hS h hh hl
    · by_cases hk : 65536 < T.n
      · exact node_high T w hS h hh hk
      · by_cases hm : (T.len : Int) < leastK T.k
        · exact node_num_lt T w hS h hh (by omega) (by omega) hm
        · by_cases hn : mostK T.k < (T.len : Int)
          · exact node_num_gt T w hS h hh (by omega) (by omega) hm hn
          · exact node_num_ok T w hS h hh (by omega) (by omega) hm hn
  · cases hl : named T.nm
    · exact node_name T w hS h hh hT.name hl
    · by_cases hm : (T.len : Int) < leastK T.k
      · exact node_nam_lt T w hS h hh hT.name hl hm
      · by_cases hn : mostK T.k < (T.len : Int)
        · exact node_nam_gt T w hS h hh hT.name hl hm hn
        · exact node_nam_ok T w hS h hh hT.name hl hm hn
end Go.Proofs.YtpphjddljngkmaaGreatDoor
