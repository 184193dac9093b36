/- What syntax.wrongNode, wrongBelow and Expr do, for every expression. What syntax.wrongBelow and Wrong do, for every pattern. Statements: what they are made of, and what is wrong with targets and functions. -/
import Derived.Test.YtpkmamgleofimaaGreatDoorStAM
import Derived.Test.YtpkmamgleofimaaGreatDoorPatBelowP
import Derived.Deep.RegionHeld3
namespace Go.Proofs.YtpkmamgleofimaaGreatDoor
open Go.RowKit

def namedX (k : Int) : Bool := decide (k = 3 ∨ k = 4 ∨ k = 6)
def leastX (k : Int) : Int := if k = 4 ∨ k = 5 ∨ k = 7 then 1 else if 8 ≤ k ∧ k ≤ 13 then 2 else 0
def mostX (k : Int) : Int := if k = 6 then 8 else if k = 4 ∨ k = 5 ∨ k = 7 then 1 else if 8 ≤ k ∧ k ≤ 13 then 2 else 0
def levelX (k : Int) : Int := if k = 7 then 4 else if k = 8 then 1 else if k = 9 ∨ k = 10 then 2 else if 11 ≤ k ∧ k ≤ 13 then 3 else 5
def signX (k : Int) : ByteArray := if k = 5 then ⟨#[36]⟩ else if k = 7 ∨ k = 10 then ⟨#[45]⟩ else if k = 8 then ⟨#[38]⟩ else if k = 9 then ⟨#[43]⟩ else if k = 11 then ⟨#[42]⟩ else if k = 12 then ⟨#[47]⟩ else if k = 13 then ⟨#[37]⟩ else ByteArray.empty
def errX (T : PT) : Int :=
  if T.k < 1 ∨ 13 < T.k then 1
  else if T.k = 1 ∧ 65536 < T.t.size then 4
  else if T.k = 2 ∧ T.n < 0 then 3
  else if namedX T.k = true ∧ named T.nm = false then 7
  else if (T.len : Int) < leastX T.k ∨ mostX T.k < T.len then 5
  else 0
def PT.badX : PT → Int
  | .node k t n nm xa b o len cap kids => if errX (.node k t n nm xa b o len cap kids) = 0 then firstTo (kf len 0 fun i => PT.badX (kids i)) len else errX (.node k t n nm xa b o len cap kids)
theorem PT.badX_eq (T : PT) : T.badX = if errX T = 0 then firstTo (fun i => (T.kid i).badX) T.len else errX T := by
  obtain ⟨k, t, n, nm, xa, b, o, len, cap, kids⟩ := T
  have h := firstTo_congr (f := kf len 0 fun i => PT.badX (kids i)) (g := fun i => ((PT.node k t n nm xa b o len cap kids).kid i).badX) len fun i hi => by rw [kf_at hi, PT.kid_at (T := .node k t n nm xa b o len cap kids) hi]
  show (if errX _ = 0 then firstTo (kf len 0 fun i => PT.badX (kids i)) len else errX _) = _
  rw [h]
def PT.wrongX (T : PT) : Int := if T.fits then T.badX else 4
def ShapesX (w : World) : Prop := ∀ K : Nat, 1 ≤ K → K ≤ 13 → w.cell? ⟨0, K * 5, none⟩ = some (.string (signX K)) ∧ w.cell? ⟨0, K * 5 + 1, none⟩ = some (.int .i64 (levelX K)) ∧ w.cell? ⟨0, K * 5 + 2, none⟩ = some (.bool (namedX K)) ∧ w.cell? ⟨0, K * 5 + 3, none⟩ = some (.int .i64 (leastX K)) ∧ w.cell? ⟨0, K * 5 + 4, none⟩ = some (.int .i64 (mostX K))
theorem ShapesX.later {w w' : World} (h : ShapesX w) (hb : Below w.heap.size w w') : ShapesX w' := fun K h1 h2 => by
  obtain ⟨a, b, c, d, e⟩ := h K h1 h2
  exact ⟨cell_later hb a, cell_later hb b, cell_later hb c, cell_later hb d, cell_later hb e⟩
set_option maxRecDepth 100000 in
set_option maxHeartbeats 1000000 in
theorem nodex_kind (T : PT) (w : World) (h : T.k < 1 ∨ 13 < T.k) :
    Calls Tryz.prog 114 #[pv T] w fun e w' => e = .returned (.int .i64 (errX T)) ∧ Below w.heap.size w w' := by
  unfold pv
  have HE : Hid (errX T = 1) := hide (by unfold errX; rw [if_pos h])
  rw [unhide HE]
  rcases h with h | h
  · go_enter Tryz.func114, Tryz.ntmps114
    go_wp2_with fail
    go_ret
    exact ⟨rfl, ba _⟩
  · have h1 : ¬ T.k < 1 := by omega
    go_enter Tryz.func114, Tryz.ntmps114
    go_wp2_with fail
    go_ret
    exact ⟨rfl, ba _⟩
set_option maxRecDepth 100000 in
set_option maxHeartbeats 1000000 in
theorem nodex_long (T : PT) (w : World) (hS : ShapesX w) (h : ¬ (T.k < 1 ∨ 13 < T.k)) (hk : T.k = 1) (hl : 65536 < T.t.size) :
    Calls Tryz.prog 114 #[pv T] w fun e w' => e = .returned (.int .i64 (errX T)) ∧ Below w.heap.size w w' := by
  unfold pv
  have HE : Hid (errX T = 4) := hide (by unfold errX; rw [if_neg h, if_pos ⟨hk, hl⟩])
  rw [unhide HE]
  obtain ⟨K, hK⟩ : ∃ K : Nat, T.k = (K : Int) := ⟨T.k.toNat, by omega⟩
  obtain ⟨s0, s1, s2, s3, s4⟩ := hS K (by omega) (by omega)
  have hz : 0 < w.heap.size := World.block_lt_of_cell? _ _ s0
  have hz' : ¬ w.heap.size = 0 := by omega
  rw [← hK] at s0 s1 s2 s3 s4
  generalize leastX T.k = least at *
  generalize mostX T.k = most at *
  generalize levelX T.k = level at *
  generalize signX T.k = sign at *
  obtain rfl : K = 1 := by omega
  rw [show namedX T.k = false by rw [hk]; rfl] at s2
  rw [hk]
  clear hK hk
  have h3 : 65536 < (T.t.size : Int) := by omega
  clear hS h HE
  go_enter Tryz.func114, Tryz.ntmps114
  go_wp2_with fail
  go_ret
  exact ⟨rfl, (ba _).alloc (by simp) _⟩
set_option maxRecDepth 100000 in
set_option maxHeartbeats 1000000 in
theorem nodex_low (T : PT) (w : World) (hS : ShapesX w) (h : ¬ (T.k < 1 ∨ 13 < T.k)) (hk : T.k = 2) (hl : T.n < 0) :
    Calls Tryz.prog 114 #[pv T] w fun e w' => e = .returned (.int .i64 (errX T)) ∧ Below w.heap.size w w' := by
  unfold pv
  have HE : Hid (errX T = 3) := hide (by unfold errX; rw [if_neg h, if_neg (by omega), if_pos ⟨hk, hl⟩])
  rw [unhide HE]
  obtain ⟨K, hK⟩ : ∃ K : Nat, T.k = (K : Int) := ⟨T.k.toNat, by omega⟩
  obtain ⟨s0, s1, s2, s3, s4⟩ := hS K (by omega) (by omega)
  have hz : 0 < w.heap.size := World.block_lt_of_cell? _ _ s0
  have hz' : ¬ w.heap.size = 0 := by omega
  rw [← hK] at s0 s1 s2 s3 s4
  generalize leastX T.k = least at *
  generalize mostX T.k = most at *
  generalize levelX T.k = level at *
  generalize signX T.k = sign at *
  obtain rfl : K = 2 := by omega
  rw [show namedX T.k = false by rw [hk]; rfl] at s2
  rw [hk]
  clear hK hk
  clear hS h HE
  go_enter Tryz.func114, Tryz.ntmps114
  go_wp2_with fail
  go_ret
  exact ⟨rfl, (ba _).alloc (by simp) _⟩
set_option maxRecDepth 100000 in
set_option maxHeartbeats 1000000 in
theorem nodex_name (T : PT) (w : World) (hS : ShapesX w) (h : ¬ (T.k < 1 ∨ 13 < T.k)) (hk : 3 ≤ T.k) (hx : namedX T.k = true) (hn : T.nm.size ≤ maxLen) (hl : named T.nm = false) :
    Calls Tryz.prog 114 #[pv T] w fun e w' => e = .returned (.int .i64 (errX T)) ∧ Below w.heap.size w w' := by
  unfold pv
  have HE : Hid (errX T = 7) := hide (by unfold errX; rw [if_neg h, if_neg (by omega), if_neg (by omega), if_pos ⟨hx, hl⟩])
  rw [unhide HE]
  obtain ⟨K, hK⟩ : ∃ K : Nat, T.k = (K : Int) := ⟨T.k.toNat, by omega⟩
  obtain ⟨s0, s1, s2, s3, s4⟩ := hS K (by omega) (by omega)
  have hz : 0 < w.heap.size := World.block_lt_of_cell? _ _ s0
  have hz' : ¬ w.heap.size = 0 := by omega
  rw [← hK] at s0 s1 s2 s3 s4
  generalize leastX T.k = least at *
  generalize mostX T.k = most at *
  generalize levelX T.k = level at *
  generalize signX T.k = sign at *
  rw [hx] at s2
  have h1 : ¬ (K : Int) < 1 := by omega
  have h2 : ¬ 13 < (K : Int) := by omega
  have h3 : ¬ (K : Int) = 1 := by omega
  have h4 : ¬ (K : Int) = 2 := by omega
  have HNM := hn
  have HL := hide hl
  clear hl hn hx
  rw [hK]
  clear hK hk
  clear hS h HE
  go_enter Tryz.func114, Tryz.ntmps114
  go_wp2_with (go_at_call 64; refine (named_any _ _ HNM).mono ?_; rintro e w ⟨rfl, rfl⟩; rw [unhide HL])
  go_ret
  exact ⟨rfl, (ba _).alloc (by simp) _⟩
set_option maxRecDepth 100000 in
set_option maxHeartbeats 1000000 in
theorem nodex_A_lt (T : PT) (w : World) (hS : ShapesX w) (h : ¬ (T.k < 1 ∨ 13 < T.k)) (hk : T.k = 1) (hl : ¬ 65536 < T.t.size) (hm : (T.len : Int) < leastX T.k) :
    Calls Tryz.prog 114 #[pv T] w fun e w' => e = .returned (.int .i64 (errX T)) ∧ Below w.heap.size w w' := by
  unfold pv
  have HE : Hid (errX T = 5) := hide (by unfold errX; rw [if_neg h, if_neg (by omega), if_neg (by omega), if_neg (fun h => by rw [hk] at h; exact absurd h.1 (by decide)), if_pos (.inl hm)])
  rw [unhide HE]
  obtain ⟨K, hK⟩ : ∃ K : Nat, T.k = (K : Int) := ⟨T.k.toNat, by omega⟩
  obtain ⟨s0, s1, s2, s3, s4⟩ := hS K (by omega) (by omega)
  have hz : 0 < w.heap.size := World.block_lt_of_cell? _ _ s0
  have hz' : ¬ w.heap.size = 0 := by omega
  rw [← hK] at s0 s1 s2 s3 s4
  generalize leastX T.k = least at *
  generalize mostX T.k = most at *
  generalize levelX T.k = level at *
  generalize signX T.k = sign at *
  obtain rfl : K = 1 := by omega
  rw [show namedX T.k = false by rw [hk]; rfl] at s2
  rw [hk]
  clear hK hk
  have h3 : ¬ 65536 < (T.t.size : Int) := by omega
  clear hS h HE
  go_enter Tryz.func114, Tryz.ntmps114
  go_wp2_with fail
  go_ret
  exact ⟨rfl, (ba _).alloc (by simp) _⟩
set_option maxRecDepth 100000 in
set_option maxHeartbeats 1000000 in
theorem nodex_A_gt (T : PT) (w : World) (hS : ShapesX w) (h : ¬ (T.k < 1 ∨ 13 < T.k)) (hk : T.k = 1) (hl : ¬ 65536 < T.t.size) (hm : ¬ (T.len : Int) < leastX T.k) (hq : mostX T.k < (T.len : Int)) :
    Calls Tryz.prog 114 #[pv T] w fun e w' => e = .returned (.int .i64 (errX T)) ∧ Below w.heap.size w w' := by
  unfold pv
  have HE : Hid (errX T = 5) := hide (by unfold errX; rw [if_neg h, if_neg (by omega), if_neg (by omega), if_neg (fun h => by rw [hk] at h; exact absurd h.1 (by decide)), if_pos (.inr hq)])
  rw [unhide HE]
  obtain ⟨K, hK⟩ : ∃ K : Nat, T.k = (K : Int) := ⟨T.k.toNat, by omega⟩
  obtain ⟨s0, s1, s2, s3, s4⟩ := hS K (by omega) (by omega)
  have hz : 0 < w.heap.size := World.block_lt_of_cell? _ _ s0
  have hz' : ¬ w.heap.size = 0 := by omega
  rw [← hK] at s0 s1 s2 s3 s4
  generalize leastX T.k = least at *
  generalize mostX T.k = most at *
  generalize levelX T.k = level at *
  generalize signX T.k = sign at *
  obtain rfl : K = 1 := by omega
  rw [show namedX T.k = false by rw [hk]; rfl] at s2
  rw [hk]
  clear hK hk
  have h3 : ¬ 65536 < (T.t.size : Int) := by omega
  clear hS h HE
  go_enter Tryz.func114, Tryz.ntmps114
  go_wp2_with fail
  go_ret
  exact ⟨rfl, (ba _).alloc (by simp) _⟩
set_option maxRecDepth 100000 in
set_option maxHeartbeats 1000000 in
theorem nodex_A_ok (T : PT) (w : World) (hS : ShapesX w) (h : ¬ (T.k < 1 ∨ 13 < T.k)) (hk : T.k = 1) (hl : ¬ 65536 < T.t.size) (hm : ¬ (T.len : Int) < leastX T.k) (hq : ¬ mostX T.k < (T.len : Int)) :
    Calls Tryz.prog 114 #[pv T] w fun e w' => e = .returned (.int .i64 (errX T)) ∧ Below w.heap.size w w' := by
  unfold pv
  have HE : Hid (errX T = 0) := hide (by unfold errX; rw [if_neg h, if_neg (by omega), if_neg (by omega), if_neg (fun h => by rw [hk] at h; exact absurd h.1 (by decide)), if_neg (fun h => h.elim hm hq)])
  rw [unhide HE]
  obtain ⟨K, hK⟩ : ∃ K : Nat, T.k = (K : Int) := ⟨T.k.toNat, by omega⟩
  obtain ⟨s0, s1, s2, s3, s4⟩ := hS K (by omega) (by omega)
  have hz : 0 < w.heap.size := World.block_lt_of_cell? _ _ s0
  have hz' : ¬ w.heap.size = 0 := by omega
  rw [← hK] at s0 s1 s2 s3 s4
  generalize leastX T.k = least at *
  generalize mostX T.k = most at *
  generalize levelX T.k = level at *
  generalize signX T.k = sign at *
  obtain rfl : K = 1 := by omega
  rw [show namedX T.k = false by rw [hk]; rfl] at s2
  rw [hk]
  clear hK hk
  have h3 : ¬ 65536 < (T.t.size : Int) := by omega
  clear hS h HE
  go_enter Tryz.func114, Tryz.ntmps114
  go_wp2_with fail
  go_ret
  exact ⟨rfl, (ba _).alloc (by simp) _⟩
set_option maxRecDepth 100000 in
set_option maxHeartbeats 1000000 in
theorem nodex_B_lt (T : PT) (w : World) (hS : ShapesX w) (h : ¬ (T.k < 1 ∨ 13 < T.k)) (hk : T.k = 2) (hl : ¬ T.n < 0) (hm : (T.len : Int) < leastX T.k) :
    Calls Tryz.prog 114 #[pv T] w fun e w' => e = .returned (.int .i64 (errX T)) ∧ Below w.heap.size w w' := by
  unfold pv
  have HE : Hid (errX T = 5) := hide (by unfold errX; rw [if_neg h, if_neg (by omega), if_neg (by omega), if_neg (fun h => by rw [hk] at h; exact absurd h.1 (by decide)), if_pos (.inl hm)])
  rw [unhide HE]
  obtain ⟨K, hK⟩ : ∃ K : Nat, T.k = (K : Int) := ⟨T.k.toNat, by omega⟩
  obtain ⟨s0, s1, s2, s3, s4⟩ := hS K (by omega) (by omega)
  have hz : 0 < w.heap.size := World.block_lt_of_cell? _ _ s0
  have hz' : ¬ w.heap.size = 0 := by omega
  rw [← hK] at s0 s1 s2 s3 s4
  generalize leastX T.k = least at *
  generalize mostX T.k = most at *
  generalize levelX T.k = level at *
  generalize signX T.k = sign at *
  obtain rfl : K = 2 := by omega
  rw [show namedX T.k = false by rw [hk]; rfl] at s2
  rw [hk]
  clear hK hk
  have h3 : ¬ T.n < 0 := hl
  clear hS h HE
  go_enter Tryz.func114, Tryz.ntmps114
  go_wp2_with fail
  go_ret
  exact ⟨rfl, (ba _).alloc (by simp) _⟩
set_option maxRecDepth 100000 in
set_option maxHeartbeats 1000000 in
theorem nodex_B_gt (T : PT) (w : World) (hS : ShapesX w) (h : ¬ (T.k < 1 ∨ 13 < T.k)) (hk : T.k = 2) (hl : ¬ T.n < 0) (hm : ¬ (T.len : Int) < leastX T.k) (hq : mostX T.k < (T.len : Int)) :
    Calls Tryz.prog 114 #[pv T] w fun e w' => e = .returned (.int .i64 (errX T)) ∧ Below w.heap.size w w' := by
  unfold pv
  have HE : Hid (errX T = 5) := hide (by unfold errX; rw [if_neg h, if_neg (by omega), if_neg (by omega), if_neg (fun h => by rw [hk] at h; exact absurd h.1 (by decide)), if_pos (.inr hq)])
  rw [unhide HE]
  obtain ⟨K, hK⟩ : ∃ K : Nat, T.k = (K : Int) := ⟨T.k.toNat, by omega⟩
  obtain ⟨s0, s1, s2, s3, s4⟩ := hS K (by omega) (by omega)
  have hz : 0 < w.heap.size := World.block_lt_of_cell? _ _ s0
  have hz' : ¬ w.heap.size = 0 := by omega
  rw [← hK] at s0 s1 s2 s3 s4
  generalize leastX T.k = least at *
  generalize mostX T.k = most at *
  generalize levelX T.k = level at *
  generalize signX T.k = sign at *
  obtain rfl : K = 2 := by omega
  rw [show namedX T.k = false by rw [hk]; rfl] at s2
  rw [hk]
  clear hK hk
  have h3 : ¬ T.n < 0 := hl
  clear hS h HE
  go_enter Tryz.func114, Tryz.ntmps114
  go_wp2_with fail
  go_ret
  exact ⟨rfl, (ba _).alloc (by simp) _⟩
set_option maxRecDepth 100000 in
set_option maxHeartbeats 1000000 in
theorem nodex_B_ok (T : PT) (w : World) (hS : ShapesX w) (h : ¬ (T.k < 1 ∨ 13 < T.k)) (hk : T.k = 2) (hl : ¬ T.n < 0) (hm : ¬ (T.len : Int) < leastX T.k) (hq : ¬ mostX T.k < (T.len : Int)) :
    Calls Tryz.prog 114 #[pv T] w fun e w' => e = .returned (.int .i64 (errX T)) ∧ Below w.heap.size w w' := by
  unfold pv
  have HE : Hid (errX T = 0) := hide (by unfold errX; rw [if_neg h, if_neg (by omega), if_neg (by omega), if_neg (fun h => by rw [hk] at h; exact absurd h.1 (by decide)), if_neg (fun h => h.elim hm hq)])
  rw [unhide HE]
  obtain ⟨K, hK⟩ : ∃ K : Nat, T.k = (K : Int) := ⟨T.k.toNat, by omega⟩
  obtain ⟨s0, s1, s2, s3, s4⟩ := hS K (by omega) (by omega)
  have hz : 0 < w.heap.size := World.block_lt_of_cell? _ _ s0
  have hz' : ¬ w.heap.size = 0 := by omega
  rw [← hK] at s0 s1 s2 s3 s4
  generalize leastX T.k = least at *
  generalize mostX T.k = most at *
  generalize levelX T.k = level at *
  generalize signX T.k = sign at *
  obtain rfl : K = 2 := by omega
  rw [show namedX T.k = false by rw [hk]; rfl] at s2
  rw [hk]
  clear hK hk
  have h3 : ¬ T.n < 0 := hl
  clear hS h HE
  go_enter Tryz.func114, Tryz.ntmps114
  go_wp2_with fail
  go_ret
  exact ⟨rfl, (ba _).alloc (by simp) _⟩
set_option maxRecDepth 100000 in
set_option maxHeartbeats 1000000 in
theorem nodex_C_lt (T : PT) (w : World) (hS : ShapesX w) (h : ¬ (T.k < 1 ∨ 13 < T.k)) (hk : 3 ≤ T.k) (hx : namedX T.k = true) (hn : T.nm.size ≤ maxLen) (hl : named T.nm = true) (hm : (T.len : Int) < leastX T.k) :
    Calls Tryz.prog 114 #[pv T] w fun e w' => e = .returned (.int .i64 (errX T)) ∧ Below w.heap.size w w' := by
  unfold pv
  have HE : Hid (errX T = 5) := hide (by unfold errX; rw [if_neg h, if_neg (by omega), if_neg (by omega), if_neg (fun h => by rw [hl] at h; exact absurd h.2 (by decide)), if_pos (.inl hm)])
  rw [unhide HE]
  obtain ⟨K, hK⟩ : ∃ K : Nat, T.k = (K : Int) := ⟨T.k.toNat, by omega⟩
  obtain ⟨s0, s1, s2, s3, s4⟩ := hS K (by omega) (by omega)
  have hz : 0 < w.heap.size := World.block_lt_of_cell? _ _ s0
  have hz' : ¬ w.heap.size = 0 := by omega
  rw [← hK] at s0 s1 s2 s3 s4
  generalize leastX T.k = least at *
  generalize mostX T.k = most at *
  generalize levelX T.k = level at *
  generalize signX T.k = sign at *
  rw [hx] at s2
  have h1 : ¬ (K : Int) < 1 := by omega
  have h2 : ¬ 13 < (K : Int) := by omega
  have h3 : ¬ (K : Int) = 1 := by omega
  have h4 : ¬ (K : Int) = 2 := by omega
  have HNM := hn
  have HL := hide hl
  clear hl hn hx
  rw [hK]
  clear hK hk
  clear hS h HE
  go_enter Tryz.func114, Tryz.ntmps114
  go_wp2_with (go_at_call 64; refine (named_any _ _ HNM).mono ?_; rintro e w ⟨rfl, rfl⟩; rw [unhide HL])
  go_ret
  exact ⟨rfl, (ba _).alloc (by simp) _⟩
set_option maxRecDepth 100000 in
set_option maxHeartbeats 1000000 in
theorem nodex_C_gt (T : PT) (w : World) (hS : ShapesX w) (h : ¬ (T.k < 1 ∨ 13 < T.k)) (hk : 3 ≤ T.k) (hx : namedX T.k = true) (hn : T.nm.size ≤ maxLen) (hl : named T.nm = true) (hm : ¬ (T.len : Int) < leastX T.k) (hq : mostX T.k < (T.len : Int)) :
    Calls Tryz.prog 114 #[pv T] w fun e w' => e = .returned (.int .i64 (errX T)) ∧ Below w.heap.size w w' := by
  unfold pv
  have HE : Hid (errX T = 5) := hide (by unfold errX; rw [if_neg h, if_neg (by omega), if_neg (by omega), if_neg (fun h => by rw [hl] at h; exact absurd h.2 (by decide)), if_pos (.inr hq)])
  rw [unhide HE]
  obtain ⟨K, hK⟩ : ∃ K : Nat, T.k = (K : Int) := ⟨T.k.toNat, by omega⟩
  obtain ⟨s0, s1, s2, s3, s4⟩ := hS K (by omega) (by omega)
  have hz : 0 < w.heap.size := World.block_lt_of_cell? _ _ s0
  have hz' : ¬ w.heap.size = 0 := by omega
  rw [← hK] at s0 s1 s2 s3 s4
  generalize leastX T.k = least at *
  generalize mostX T.k = most at *
  generalize levelX T.k = level at *
  generalize signX T.k = sign at *
  rw [hx] at s2
  have h1 : ¬ (K : Int) < 1 := by omega
  have h2 : ¬ 13 < (K : Int) := by omega
  have h3 : ¬ (K : Int) = 1 := by omega
  have h4 : ¬ (K : Int) = 2 := by omega
  have HNM := hn
  have HL := hide hl
  clear hl hn hx
  rw [hK]
  clear hK hk
  clear hS h HE
  go_enter Tryz.func114, Tryz.ntmps114
  go_wp2_with (go_at_call 64; refine (named_any _ _ HNM).mono ?_; rintro e w ⟨rfl, rfl⟩; rw [unhide HL])
  go_ret
  exact ⟨rfl, (ba _).alloc (by simp) _⟩
set_option maxRecDepth 100000 in
set_option maxHeartbeats 1000000 in
theorem nodex_C_ok (T : PT) (w : World) (hS : ShapesX w) (h : ¬ (T.k < 1 ∨ 13 < T.k)) (hk : 3 ≤ T.k) (hx : namedX T.k = true) (hn : T.nm.size ≤ maxLen) (hl : named T.nm = true) (hm : ¬ (T.len : Int) < leastX T.k) (hq : ¬ mostX T.k < (T.len : Int)) :
    Calls Tryz.prog 114 #[pv T] w fun e w' => e = .returned (.int .i64 (errX T)) ∧ Below w.heap.size w w' := by
  unfold pv
  have HE : Hid (errX T = 0) := hide (by unfold errX; rw [if_neg h, if_neg (by omega), if_neg (by omega), if_neg (fun h => by rw [hl] at h; exact absurd h.2 (by decide)), if_neg (fun h => h.elim hm hq)])
  rw [unhide HE]
  obtain ⟨K, hK⟩ : ∃ K : Nat, T.k = (K : Int) := ⟨T.k.toNat, by omega⟩
  obtain ⟨s0, s1, s2, s3, s4⟩ := hS K (by omega) (by omega)
  have hz : 0 < w.heap.size := World.block_lt_of_cell? _ _ s0
  have hz' : ¬ w.heap.size = 0 := by omega
  rw [← hK] at s0 s1 s2 s3 s4
  generalize leastX T.k = least at *
  generalize mostX T.k = most at *
  generalize levelX T.k = level at *
  generalize signX T.k = sign at *
  rw [hx] at s2
  have h1 : ¬ (K : Int) < 1 := by omega
  have h2 : ¬ 13 < (K : Int) := by omega
  have h3 : ¬ (K : Int) = 1 := by omega
  have h4 : ¬ (K : Int) = 2 := by omega
  have HNM := hn
  have HL := hide hl
  clear hl hn hx
  rw [hK]
  clear hK hk
  clear hS h HE
  go_enter Tryz.func114, Tryz.ntmps114
  go_wp2_with (go_at_call 64; refine (named_any _ _ HNM).mono ?_; rintro e w ⟨rfl, rfl⟩; rw [unhide HL])
  go_ret
  exact ⟨rfl, (ba _).alloc (by simp) _⟩
set_option maxRecDepth 100000 in
set_option maxHeartbeats 1000000 in
theorem nodex_D_lt (T : PT) (w : World) (hS : ShapesX w) (h : ¬ (T.k < 1 ∨ 13 < T.k)) (hk : 3 ≤ T.k) (hx : namedX T.k = false) (hm : (T.len : Int) < leastX T.k) :
    Calls Tryz.prog 114 #[pv T] w fun e w' => e = .returned (.int .i64 (errX T)) ∧ Below w.heap.size w w' := by
  unfold pv
  have HE : Hid (errX T = 5) := hide (by unfold errX; rw [if_neg h, if_neg (by omega), if_neg (by omega), if_neg (fun h => by rw [hx] at h; exact absurd h.1 (by decide)), if_pos (.inl hm)])
  rw [unhide HE]
  obtain ⟨K, hK⟩ : ∃ K : Nat, T.k = (K : Int) := ⟨T.k.toNat, by omega⟩
  obtain ⟨s0, s1, s2, s3, s4⟩ := hS K (by omega) (by omega)
  have hz : 0 < w.heap.size := World.block_lt_of_cell? _ _ s0
  have hz' : ¬ w.heap.size = 0 := by omega
  rw [← hK] at s0 s1 s2 s3 s4
  generalize leastX T.k = least at *
  generalize mostX T.k = most at *
  generalize levelX T.k = level at *
  generalize signX T.k = sign at *
  rw [hx] at s2
  have h1 : ¬ (K : Int) < 1 := by omega
  have h2 : ¬ 13 < (K : Int) := by omega
  have h3 : ¬ (K : Int) = 1 := by omega
  have h4 : ¬ (K : Int) = 2 := by omega
  clear hx
  rw [hK]
  clear hK hk
  clear hS h HE
  go_enter Tryz.func114, Tryz.ntmps114
  go_wp2_with fail
  go_ret
  exact ⟨rfl, (ba _).alloc (by simp) _⟩
set_option maxRecDepth 100000 in
set_option maxHeartbeats 1000000 in
theorem nodex_D_gt (T : PT) (w : World) (hS : ShapesX w) (h : ¬ (T.k < 1 ∨ 13 < T.k)) (hk : 3 ≤ T.k) (hx : namedX T.k = false) (hm : ¬ (T.len : Int) < leastX T.k) (hq : mostX T.k < (T.len : Int)) :
    Calls Tryz.prog 114 #[pv T] w fun e w' => e = .returned (.int .i64 (errX T)) ∧ Below w.heap.size w w' := by
  unfold pv
  have HE : Hid (errX T = 5) := hide (by unfold errX; rw [if_neg h, if_neg (by omega), if_neg (by omega), if_neg (fun h => by rw [hx] at h; exact absurd h.1 (by decide)), if_pos (.inr hq)])
  rw [unhide HE]
  obtain ⟨K, hK⟩ : ∃ K : Nat, T.k = (K : Int) := ⟨T.k.toNat, by omega⟩
  obtain ⟨s0, s1, s2, s3, s4⟩ := hS K (by omega) (by omega)
  have hz : 0 < w.heap.size := World.block_lt_of_cell? _ _ s0
  have hz' : ¬ w.heap.size = 0 := by omega
  rw [← hK] at s0 s1 s2 s3 s4
  generalize leastX T.k = least at *
  generalize mostX T.k = most at *
  generalize levelX T.k = level at *
  generalize signX T.k = sign at *
  rw [hx] at s2
  have h1 : ¬ (K : Int) < 1 := by omega
  have h2 : ¬ 13 < (K : Int) := by omega
  have h3 : ¬ (K : Int) = 1 := by omega
  have h4 : ¬ (K : Int) = 2 := by omega
  clear hx
  rw [hK]
  clear hK hk
  clear hS h HE
  go_enter Tryz.func114, Tryz.ntmps114
  go_wp2_with fail
  go_ret
  exact ⟨rfl, (ba _).alloc (by simp) _⟩
set_option maxRecDepth 100000 in
set_option maxHeartbeats 1000000 in
theorem nodex_D_ok (T : PT) (w : World) (hS : ShapesX w) (h : ¬ (T.k < 1 ∨ 13 < T.k)) (hk : 3 ≤ T.k) (hx : namedX T.k = false) (hm : ¬ (T.len : Int) < leastX T.k) (hq : ¬ mostX T.k < (T.len : Int)) :
    Calls Tryz.prog 114 #[pv T] w fun e w' => e = .returned (.int .i64 (errX T)) ∧ Below w.heap.size w w' := by
  unfold pv
  have HE : Hid (errX T = 0) := hide (by unfold errX; rw [if_neg h, if_neg (by omega), if_neg (by omega), if_neg (fun h => by rw [hx] at h; exact absurd h.1 (by decide)), if_neg (fun h => h.elim hm hq)])
  rw [unhide HE]
  obtain ⟨K, hK⟩ : ∃ K : Nat, T.k = (K : Int) := ⟨T.k.toNat, by omega⟩
  obtain ⟨s0, s1, s2, s3, s4⟩ := hS K (by omega) (by omega)
  have hz : 0 < w.heap.size := World.block_lt_of_cell? _ _ s0
  have hz' : ¬ w.heap.size = 0 := by omega
  rw [← hK] at s0 s1 s2 s3 s4
  generalize leastX T.k = least at *
  generalize mostX T.k = most at *
  generalize levelX T.k = level at *
  generalize signX T.k = sign at *
  rw [hx] at s2
  have h1 : ¬ (K : Int) < 1 := by omega
  have h2 : ¬ 13 < (K : Int) := by omega
  have h3 : ¬ (K : Int) = 1 := by omega
  have h4 : ¬ (K : Int) = 2 := by omega
  clear hx
  rw [hK]
  clear hK hk
  clear hS h HE
  go_enter Tryz.func114, Tryz.ntmps114
  go_wp2_with fail
  go_ret
  exact ⟨rfl, (ba _).alloc (by simp) _⟩
theorem nodex_any (T : PT) (w : World) (hT : T.In w) (hS : ShapesX w) :
    Calls Tryz.prog 114 #[pv T] w fun e w' => e = .returned (.int .i64 (errX T)) ∧ Below w.heap.size w w' := by
  by_cases h : T.k < 1 ∨ 13 < T.k
  · exact nodex_kind T w h
  by_cases h1 : T.k = 1
  · by_cases hl : 65536 < T.t.size
    · exact nodex_long T w hS h h1 hl
    · by_cases hm : (T.len : Int) < leastX T.k
      · exact nodex_A_lt T w hS h h1 hl hm
      · by_cases hq : mostX T.k < (T.len : Int)
        · exact nodex_A_gt T w hS h h1 hl hm hq
        · exact nodex_A_ok T w hS h h1 hl hm hq
  by_cases h2 : T.k = 2
  · by_cases hl : T.n < 0
    · exact nodex_low T w hS h h2 hl
    · by_cases hm : (T.len : Int) < leastX T.k
      · exact nodex_B_lt T w hS h h2 hl hm
      · by_cases hq : mostX T.k < (T.len : Int)
        · exact nodex_B_gt T w hS h h2 hl hm hq
        · exact nodex_B_ok T w hS h h2 hl hm hq
  have h3 : 3 ≤ T.k := by omega
  cases hx : namedX T.k
  · by_cases hm : (T.len : Int) < leastX T.k
    · exact nodex_D_lt T w hS h h3 hx hm
    · by_cases hq : mostX T.k < (T.len : Int)
      · exact nodex_D_gt T w hS h h3 hx hm hq
      · exact nodex_D_ok T w hS h h3 hx hm hq
  · cases hl : named T.nm
    · exact nodex_name T w hS h h3 hx hT.name hl
    · by_cases hm : (T.len : Int) < leastX T.k
      · exact nodex_C_lt T w hS h h3 hx hT.name hl hm
      · by_cases hq : mostX T.k < (T.len : Int)
        · exact nodex_C_gt T w hS h h3 hx hT.name hl hm hq
        · exact nodex_C_ok T w hS h h3 hx hT.name hl hm hq
end Go.Proofs.YtpkmamgleofimaaGreatDoor

namespace Go.Proofs.YtpkmamgleofimaaGreatDoor
open Go.RowKit

def BadXSays (T : PT) : Prop := ∀ (w : World), T.In w → ShapesX w →
  Calls Tryz.prog 98 #[.agg #[.int .i64 T.k, .string T.t, .int .i64 T.n, .string T.nm, .slice T.xa T.len T.cap]] w fun e w' => e = .returned (.int .i64 T.badX) ∧ Below w.heap.size w w'
set_option maxRecDepth 100000 in
set_option maxHeartbeats 1000000 in
theorem badx_step (T : PT) (ih : ∀ i, i < T.len → BadXSays (T.kid i)) : BadXSays T := by
  intro w hT hS
  have HN := hide (fun W (h : Below w.heap.size w W) => nodex_any T W (PT.In.later h hT) (hS.later h))
  unfold pv at HN
  have hmax := hT.max
  unfold maxLen at hmax
  have HD := hide (And.intro hT (And.intro hS (And.intro ih T.badX_eq)))
  clear hT hS ih
  have hk0 := (Below.refl w.heap.size w).alloc (Nat.le_refl _) (.cells #[.int .i64 T.k, .string T.t, .int .i64 T.n, .string T.nm, .slice T.xa T.len T.cap] 42)
  go_enter Tryz.func98, Tryz.ntmps98
  go_wp2_with fail
  refine (unhide HN _ hk0).mono ?_
  rintro e w1 ⟨rfl, hb1⟩
  have hb := bnext hk0 hb1
  have c4 : w1.cell? ⟨w.heap.size, 4, none⟩ = some (.slice T.xa T.len T.cap) := cell_later hb1 (cr (at_new rfl))
  have HB := hide hb
  clear hk0 hb1 hb HN
  by_cases he : errX T = 0
  · have H0 : Hid (T.badX = firstTo (fun i => (T.kid i).badX) T.len) := hide (by rw [(unhide HD).2.2.2, if_pos he])
    rw [he]
    clear he
    go_wp2_with fail
    go_loopw [15] (fun i wr => ∃ k : Nat, k ≤ T.len ∧ i = .int .i64 (k : Int) ∧ Below w.heap.size w wr ∧ firstTo (fun i => (T.kid i).badX) k = 0) (fun i _ => T.len - (intOf i).toNat)
    case atStart => exact ⟨0, by omega, rfl, unhide HB, rfl⟩
    case round =>
      obtain ⟨k, hk, rfl, hbr, hf⟩ := hrel
      clear c4
      have HF := hide hf
      clear hf
      rcases Nat.lt_or_ge k T.len with hkt | hkt
      · obtain ⟨hT, hS, ih, -⟩ := unhide HD
        obtain ⟨k0, k1, k2, k3, k4⟩ := hT.cells hkt
        have k0 := cell_later hbr k0
        have k1 := cell_later hbr k1
        have k2 := cell_later hbr k2
        have k3 := cell_later hbr k3
        have k4 := cell_later hbr k4
        unfold PT.kv at k4
        have hia := kidx_at hT hkt
        have HX := hide (And.intro (PT.In.later hbr (hT.kids hkt)) (hS.later hbr))
        have HI := hide (ih k hkt)
        have HBR := hide hbr
        clear hT hS ih hbr
        go_wp2_with fail
        have hn := (Below.refl wr.heap.size wr).alloc (Nat.le_refl _) (.cells #[.int .i64 (T.kid k).k, .string (T.kid k).t, .int .i64 (T.kid k).n, .string (T.kid k).nm, .slice (T.kid k).xa (T.kid k).len (T.kid k).cap] 42)
        refine (unhide HI _ (PT.In.later hn (unhide HX).1) ((unhide HX).2.later hn)).mono ?_
        rintro e w2 ⟨rfl, hb2⟩
        have HB2 := hide (bnext (bnext (unhide HBR) hn) hb2)
        clear hn hb2
        by_cases he : (T.kid k).badX = 0
        · have HW : Hid (firstTo (fun i => (T.kid i).badX) (k + 1) = 0) := hide (by rw [firstTo, if_pos (unhide HF)]; exact he)
          rw [he]
          clear he
          go_wp2_with fail
          exact ⟨⟨k + 1, by omega, by go_num, unhide HB2, unhide HW⟩, by simp [intOf]; omega⟩
        · have HW : Hid (T.badX = (T.kid k).badX) := hide (by
            have h1 : firstTo (fun i => (T.kid i).badX) (k + 1) = (T.kid k).badX := by rw [firstTo, if_pos (unhide HF)]
            rw [unhide H0, firstTo_stays _ (show k + 1 ≤ T.len from hkt) (by rw [h1]; exact he), h1])
          have hne : ((T.kid k).badX != 0) = true := by rw [bne_iff_ne]; exact he
          clear he
          go_wp2_with fail
          go_ret
          exact ⟨by rw [unhide HW]; rfl, unhide HB2⟩
      · have hk' : k = T.len := by omega
        have HBR := hide hbr
        clear hbr
        go_wp2_with fail
        go_ret
        exact ⟨by rw [unhide H0, ← hk', unhide HF]; rfl, unhide HBR⟩
  · have H0 : Hid (T.badX = errX T) := hide (by rw [(unhide HD).2.2.2, if_neg he])
    have hne : (errX T != 0) = true := by rw [bne_iff_ne]; exact he
    clear he
    go_wp2_with fail
    go_ret
    exact ⟨by rw [unhide H0]; rfl, unhide HB⟩
theorem badx_any : ∀ T : PT, BadXSays T := PT.ind badx_step
set_option maxRecDepth 100000 in
set_option maxHeartbeats 1000000 in
theorem expr_any (T : PT) (w : World) (hT : T.In w) (hS : ShapesX w) :
    Calls Tryz.prog 77 #[pv T] w fun e w' => e = .returned (.int .i64 T.wrongX) ∧ Below w.heap.size w w' := by
  have HZ := hide (fun W (h : Below w.heap.size w W) => tooMuch_any T W (PT.In.later h hT))
  have HB := hide (fun W (h : Below w.heap.size w W) => badx_any T W (PT.In.later h hT) (hS.later h))
  clear hT hS
  unfold pv at HZ
  unfold pv
  have hk0 := (Below.refl w.heap.size w).alloc (Nat.le_refl _) (.cells #[.int .i64 T.k, .string T.t, .int .i64 T.n, .string T.nm, .slice T.xa T.len T.cap] 42)
  go_enter Tryz.func77, Tryz.ntmps77
  go_wp2_with fail
  refine (unhide HZ _ hk0).mono ?_
  rintro e w1 ⟨rfl, hb1⟩
  have H1 := hide (bnext hk0 hb1)
  have hrow : w1.heap[w.heap.size]? = some (.cells #[.int .i64 T.k, .string T.t, .int .i64 T.n, .string T.nm, .slice T.xa T.len T.cap] 42 (0, 0)) := row_below (at_new rfl) hb1
  have c0 : w1.cell? ⟨w.heap.size, 0, none⟩ = some (.int .i64 T.k) := cr hrow
  have c1 : w1.cell? ⟨w.heap.size, 1, none⟩ = some (.string T.t) := cr hrow
  have c2 : w1.cell? ⟨w.heap.size, 2, none⟩ = some (.int .i64 T.n) := cr hrow
  have c3 : w1.cell? ⟨w.heap.size, 3, none⟩ = some (.string T.nm) := cr hrow
  have c4 : w1.cell? ⟨w.heap.size, 4, none⟩ = some (.slice T.xa T.len T.cap) := cr hrow
  clear hk0 hb1 hrow HZ
  cases hf : T.fits
  · have HW : Hid (T.wrongX = 4) := hide (by unfold PT.wrongX; rw [hf]; rfl)
    clear hf
    go_wp2_with fail
    go_ret
    exact ⟨by rw [unhide HW]; rfl, unhide H1⟩
  · have HW : Hid (T.wrongX = T.badX) := hide (by unfold PT.wrongX; rw [hf]; rfl)
    clear hf
    go_wp2_with fail
    refine (unhide HB _ (unhide H1)).mono ?_
    rintro e w2 ⟨rfl, hb2⟩
    have H2 := hide (bnext (unhide H1) hb2)
    clear hb2
    go_wp2_with fail
    go_ret
    exact ⟨by rw [unhide HW]; rfl, unhide H2⟩
end Go.Proofs.YtpkmamgleofimaaGreatDoor

namespace Go.Proofs.YtpkmamgleofimaaGreatDoor
open Go.RowKit

structure SV where
  lab : ByteArray
  k : Int
  tg : PT
  va : PT
  pa : PT
  nm : ByteArray
  en : ByteArray
  ps : NL
  ls : NL
  al : ByteArray
  ye : ByteArray
  no : ByteArray
def SV.cells (S : SV) : Array Value := #[.string S.lab, .int .i64 S.k, .int .i64 S.tg.k, .string S.tg.t, .int .i64 S.tg.n, .string S.tg.nm, .slice S.tg.xa S.tg.len S.tg.cap, .int .i64 S.va.k, .string S.va.t, .int .i64 S.va.n, .string S.va.nm, .slice S.va.xa S.va.len S.va.cap, .int .i64 S.pa.k, .string S.pa.t, .int .i64 S.pa.n, .string S.pa.nm, .slice S.pa.xa S.pa.len S.pa.cap, .string S.nm, .string S.en, S.ps.v, S.ls.v, .string S.al, .string S.ye, .string S.no]
def SV.v (S : SV) : Value := .agg S.cells
structure SV.In (w : World) (S : SV) : Prop where
  txt : S.lab.size ≤ maxLen ∧ S.nm.size ≤ maxLen ∧ S.en.size ≤ maxLen ∧ S.al.size ≤ maxLen ∧ S.ye.size ≤ maxLen ∧ S.no.size ≤ maxLen
  tg : S.tg.In w
  va : S.va.In w
  pa : S.pa.In w
  ps : S.ps.In w
  ls : S.ls.In w
theorem sv_size (S : SV) : S.cells.size = 24 := rfl
theorem SV.In.later {w w' : World} {S : SV} (h : S.In w) (hb : Below w.heap.size w w') : S.In w' := ⟨h.txt, PT.In.later hb h.tg, PT.In.later hb h.va, PT.In.later hb h.pa, h.ps.later hb, h.ls.later hb⟩
def isPl (k : Int) : Bool := decide (k = 3) || decide (k = 4) || decide (k = 5)
set_option maxHeartbeats 400000 in
theorem isPlace_any (k : Int) (w : World) : Calls Tryz.prog 96 #[.int .i64 k] w fun e w' => e = .returned (.bool (isPl k)) ∧ w' = w := by
  by_cases h3 : k = 3
  · subst h3
    go_enter Tryz.func96, Tryz.ntmps96
    go_wp2_with fail
    go_ret
    exact ⟨rfl, rfl⟩
  · by_cases h4 : k = 4
    · subst h4
      go_enter Tryz.func96, Tryz.ntmps96
      go_wp2_with fail
      go_ret
      exact ⟨rfl, rfl⟩
    · by_cases h5 : k = 5
      · subst h5
        go_enter Tryz.func96, Tryz.ntmps96
        go_wp2_with fail
        go_ret
        exact ⟨rfl, rfl⟩
      · have HP : Hid (isPl k = false) := hide (by unfold isPl; rw [decide_eq_false h3, decide_eq_false h4, decide_eq_false h5]; rfl)
        have q3 : (k == 3) = false := bn h3
        have q4 : (k == 4) = false := bn h4
        have q5 : (k == 5) = false := bn h5
        clear h3 h4 h5
        go_enter Tryz.func96, Tryz.ntmps96
        go_wp2_with fail
        go_ret
        exact ⟨by rw [unhide HP]; rfl, rfl⟩
def tgE (T : PT) : Int := if T.wrongX ≠ 0 then T.wrongX else if isPl T.k = true then 0 else 8
set_option maxRecDepth 100000 in
set_option maxHeartbeats 1000000 in
theorem wrongTarget_any (T : PT) (w : World) (hT : T.In w) (hS : ShapesX w) :
    Calls Tryz.prog 80 #[pv T] w fun e w' => e = .returned (.int .i64 (tgE T)) ∧ Below w.heap.size w w' := by
  have hk0 := (Below.refl w.heap.size w).alloc (Nat.le_refl _) (.cells #[.int .i64 T.k, .string T.t, .int .i64 T.n, .string T.nm, .slice T.xa T.len T.cap] 42)
  have HX := hide (expr_any T _ (PT.In.later hk0 hT) (hS.later hk0))
  have HIP := hide (isPlace_any T.k)
  have HE : Hid (tgE T = if T.wrongX ≠ 0 then T.wrongX else if isPl T.k = true then 0 else 8) := hide (rfl)
  clear hT hS hk0
  generalize T.wrongX = er at *
  unfold pv at HX ⊢
  go_enter Tryz.func80, Tryz.ntmps80
  go_wp2_with fail
  refine (unhide HX).mono ?_
  rintro e w1 ⟨rfl, hb1⟩
  have HB1 := hide (((Below.refl w.heap.size w).alloc (Nat.le_refl _) (.cells #[.int .i64 T.k, .string T.t, .int .i64 T.n, .string T.nm, .slice T.xa T.len T.cap] 42)) |> fun h => bnext h hb1)
  have c0 : w1.cell? ⟨w.heap.size, 0, none⟩ = some (.int .i64 T.k) := cr (row_below (at_new rfl) hb1)
  clear hb1
  by_cases h0 : er = 0
  · have q : (er == 0) = true := bt h0
    have HE2 : Hid (tgE T = if isPl T.k = true then 0 else 8) := hide (by rw [unhide HE, if_neg (by simp [h0])])
    clear h0 HE
    go_wp2_with fail
    refine (unhide HIP w1).mono ?_
    rintro e w1 ⟨rfl, rfl⟩
    cases hp : isPl T.k
    · rw [hp, if_neg (by decide)] at HE2
      go_wp2_with fail
      go_ret
      exact ⟨by rw [unhide HE2]; rfl, unhide HB1⟩
    · rw [hp, if_pos rfl] at HE2
      go_wp2_with fail
      go_ret
      exact ⟨by rw [unhide HE2]; rfl, unhide HB1⟩
  · have q : (er == 0) = false := bn h0
    have HE2 : Hid (tgE T = er) := hide (by rw [unhide HE, if_pos h0])
    clear h0 HE
    go_wp2_with fail
    go_ret
    exact ⟨by rw [unhide HE2]; rfl, unhide HB1⟩
end Go.Proofs.YtpkmamgleofimaaGreatDoor
