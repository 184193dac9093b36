/- What syntax.wrongNode, wrongBelow and Expr do, for every expression. -/
import Derived.Test.YtpphjddljngkmaaGreatDoorPatBelowM
namespace Go.Proofs.YtpphjddljngkmaaGreatDoor
open Go.RowKit

def namedX (k : Int) : Bool := decide (k = 3 ∨ k = 4 ∨ k = 6)
def leastX (k : Int) : Int := if k = 4 ∨ k = 5 ∨ k = 7 then 1 else if 8 ≤ k ∧ k ≤ 13 then 2 else 0
def mostX (k : Int) : Int := if k = 6 then 8 else if k = 4 ∨ k = 5 ∨ k = 7 then 1 else if 8 ≤ k ∧ k ≤ 13 then 2 else 0
def levelX (k : Int) : Int := if k = 7 then 4 else if k = 8 then 1 else if k = 9 ∨ k = 10 then 2 else if 11 ≤ k ∧ k ≤ 13 then 3 else 5
def signX (k : Int) : ByteArray := if k = 5 then ⟨#[36]⟩ else if k = 7 ∨ k = 10 then ⟨#[45]⟩ else if k = 8 then ⟨#[38]⟩ else if k = 9 then ⟨#[43]⟩ else if k = 11 then ⟨#[42]⟩ else if k = 12 then ⟨#[47]⟩ else if k = 13 then ⟨#[37]⟩ else ByteArray.empty
/-- What is wrong with a node of an expression. -/
def errX (T : PT) : Int :=
  if T.k < 1 ∨ 13 < T.k then 1
  else if T.k = 1 ∧ 65536 < T.t.size then 4
  else if T.k = 2 ∧ T.n < 0 then 3
  else if namedX T.k = true ∧ named T.nm = false then 7
  else if (T.len : Int) < leastX T.k ∨ mostX T.k < T.len then 5
  else 0
/-- What is wrong first. -/
def PT.badX : PT → Int
  | .node k t n nm xa b o len cap kids => if errX (.node k t n nm xa b o len cap kids) = 0 then firstTo (kf len 0 fun i => PT.badX (kids i)) len else errX (.node k t n nm xa b o len cap kids)
theorem PT.badX_eq (T : PT) : T.badX = if errX T = 0 then firstTo (fun i => (T.kid i).badX) T.len else errX T := by
  obtain ⟨k, t, n, nm, xa, b, o, len, cap, kids⟩ := T
  have h := firstTo_congr (f := kf len 0 fun i => PT.badX (kids i)) (g := fun i => ((PT.node k t n nm xa b o len cap kids).kid i).badX) len fun i hi => by rw [kf_at hi, PT.kid_at (T := .node k t n nm xa b o len cap kids) hi]
  show (if errX _ = 0 then firstTo (kf len 0 fun i => PT.badX (kids i)) len else errX _) = _
  rw [h]
def PT.wrongX (T : PT) : Int := if T.fits then T.badX else 4
/-- The table of kinds as the program's text lays it. -/
def ShapesX (w : World) : Prop := ∀ K : Nat, 1 ≤ K → K ≤ 13 → w.cell? ⟨0, K * 5, none⟩ = some (.string (signX K)) ∧ w.cell? ⟨0, K * 5 + 1, none⟩ = some (.int .i64 (levelX K)) ∧ w.cell? ⟨0, K * 5 + 2, none⟩ = some (.bool (namedX K)) ∧ w.cell? ⟨0, K * 5 + 3, none⟩ = some (.int .i64 (leastX K)) ∧ w.cell? ⟨0, K * 5 + 4, none⟩ = some (.int .i64 (mostX K))
theorem ShapesX.later {w w' : World} (h : ShapesX w) (hb : Below w.heap.size w w') : ShapesX w' := fun K h1 h2 => by
  obtain ⟨a, b, c, d, e⟩ := h K h1 h2
  exact ⟨cell_later hb a, cell_later hb b, cell_later hb c, cell_later hb d, cell_later hb e⟩
set_option maxRecDepth 100000 in
set_option maxHeartbeats 1000000 in
theorem nodex_kind (T : PT) (w : World) (h : T.k < 1 ∨ 13 < T.k) :
    Calls Tryz.prog 31 #[pv T] w fun e w' => e = .returned (.int .i64 (errX T)) ∧ Below w.heap.size w w' := by
  unfold pv
  have HE : Hid (errX T = 1) := hide (by unfold errX; rw [if_pos h])
  rw [unhide HE]
  rcases h with h | h
  · go_enter Tryz.func31, Tryz.ntmps31
    go_wp2_with fail
    go_ret
    exact ⟨rfl, ba _⟩
  · have h1 : ¬ T.k < 1 := by omega
    go_enter Tryz.func31, Tryz.ntmps31
    go_wp2_with fail
    go_ret
    exact ⟨rfl, ba _⟩
set_option maxRecDepth 100000 in
set_option maxHeartbeats 1000000 in
theorem nodex_long (T : PT) (w : World) (hS : ShapesX w) (h : ¬ (T.k < 1 ∨ 13 < T.k)) (hk : T.k = 1) (hl : 65536 < T.t.size) :
    Calls Tryz.prog 31 #[pv T] w fun e w' => e = .returned (.int .i64 (errX T)) ∧ Below w.heap.size w w' := by
  unfold pv
  have HE : Hid (errX T = 4) := hide (by unfold errX; rw [if_neg h, if_pos ⟨hk, hl⟩])
  rw [unhide HE]
  obtain ⟨K, hK⟩ : ∃ K : Nat, T.k = (K : Int) := ⟨T.k.toNat, by omega⟩
  obtain ⟨s0, s1, s2, s3, s4⟩ := hS K (by omega) (by omega)
  have hz : 0 < w.heap.size := World.block_lt_of_cell? _ _ s0
  have hz' : ¬ w.heap.size = 0 := by omega
  rw [← hK] at s0 s1 s2 s3 s4
  generalize leastX T.k = least at *
  generalize mostX T.k = most at *
  generalize levelX T.k = level at *
  generalize signX T.k = sign at *
  obtain rfl : K = 1 := by omega
  rw [show namedX T.k = false by rw [hk]; rfl] at s2
  rw [hk]
  clear hK hk
  have h3 : 65536 < (T.t.size : Int) := by omega
  clear hS h HE
  go_enter Tryz.func31, Tryz.ntmps31
  go_wp2_with fail
  go_ret
  exact ⟨rfl, (ba _).alloc (by simp) _⟩
set_option maxRecDepth 100000 in
set_option maxHeartbeats 1000000 in
theorem nodex_low (T : PT) (w : World) (hS : ShapesX w) (h : ¬ (T.k < 1 ∨ 13 < T.k)) (hk : T.k = 2) (hl : T.n < 0) :
    Calls Tryz.prog 31 #[pv T] w fun e w' => e = .returned (.int .i64 (errX T)) ∧ Below w.heap.size w w' := by
  unfold pv
  have HE : Hid (errX T = 3) := hide (by unfold errX; rw [if_neg h, if_neg (by omega), if_pos ⟨hk, hl⟩])
  rw [unhide HE]
  obtain ⟨K, hK⟩ : ∃ K : Nat, T.k = (K : Int) := ⟨T.k.toNat, by omega⟩
  obtain ⟨s0, s1, s2, s3, s4⟩ := hS K (by omega) (by omega)
  have hz : 0 < w.heap.size := World.block_lt_of_cell? _ _ s0
  have hz' : ¬ w.heap.size = 0 := by omega
  rw [← hK] at s0 s1 s2 s3 s4
  generalize leastX T.k = least at *
  generalize mostX T.k = most at *
  generalize levelX T.k = level at *
  generalize signX T.k = sign at *
  obtain rfl : K = 2 := by omega
  rw [show namedX T.k = false by rw [hk]; rfl] at s2
  rw [hk]
  clear hK hk
  clear hS h HE
  go_enter Tryz.func31, Tryz.ntmps31
  go_wp2_with fail
  go_ret
  exact ⟨rfl, (ba _).alloc (by simp) _⟩
set_option maxRecDepth 100000 in
set_option maxHeartbeats 1000000 in
theorem nodex_name (T : PT) (w : World) (hS : ShapesX w) (h : ¬ (T.k < 1 ∨ 13 < T.k)) (hk : 3 ≤ T.k) (hx : namedX T.k = true) (hn : T.nm.size ≤ maxLen) (hl : named T.nm = false) :
    Calls Tryz.prog 31 #[pv T] w fun e w' => e = .returned (.int .i64 (errX T)) ∧ Below w.heap.size w w' := by
  unfold pv
  have HE : Hid (errX T = 7) := hide (by unfold errX; rw [if_neg h, if_neg (by omega), if_neg (by omega), if_pos ⟨hx, hl⟩])
  rw [unhide HE]
  obtain ⟨K, hK⟩ : ∃ K : Nat, T.k = (K : Int) := ⟨T.k.toNat, by omega⟩
  obtain ⟨s0, s1, s2, s3, s4⟩ := hS K (by omega) (by omega)
  have hz : 0 < w.heap.size := World.block_lt_of_cell? _ _ s0
  have hz' : ¬ w.heap.size = 0 := by omega
  rw [← hK] at s0 s1 s2 s3 s4
  generalize leastX T.k = least at *
  generalize mostX T.k = most at *
  generalize levelX T.k = level at *
  generalize signX T.k = sign at *
  rw [hx] at s2
  have h1 : ¬ (K : Int) < 1 := by omega
  have h2 : ¬ 13 < (K : Int) := by omega
  have h3 : ¬ (K : Int) = 1 := by omega
  have h4 : ¬ (K : Int) = 2 := by omega
  have HNM := hn
  have HL := hide hl
  clear hl hn hx
  rw [hK]
  clear hK hk
  clear hS h HE
  go_enter Tryz.func31, Tryz.ntmps31
  go_wp2_with (go_at_call 16; refine (named_any _ _ HNM).mono ?_; rintro e w ⟨rfl, rfl⟩; rw [unhide HL])
  go_ret
  exact ⟨rfl, (ba _).alloc (by simp) _⟩
set_option maxRecDepth 100000 in
set_option maxHeartbeats 1000000 in
theorem nodex_A_lt (T : PT) (w : World) (hS : ShapesX w) (h : ¬ (T.k < 1 ∨ 13 < T.k)) (hk : T.k = 1) (hl : ¬ 65536 < T.t.size) (hm : (T.len : Int) < leastX T.k) :
    Calls Tryz.prog 31 #[pv T] w fun e w' => e = .returned (.int .i64 (errX T)) ∧ Below w.heap.size w w' := by
  unfold pv
  have HE : Hid (errX T = 5) := hide (by unfold errX; rw [if_neg h, if_neg (by omega), if_neg (by omega), if_neg (fun h => by rw [hk] at h; exact absurd h.1 (by decide)), if_pos (.inl hm)])
  rw [unhide HE]
  obtain ⟨K, hK⟩ : ∃ K : Nat, T.k = (K : Int) := ⟨T.k.toNat, by omega⟩
  obtain ⟨s0, s1, s2, s3, s4⟩ := hS K (by omega) (by omega)
  have hz : 0 < w.heap.size := World.block_lt_of_cell? _ _ s0
  have hz' : ¬ w.heap.size = 0 := by omega
  rw [← hK] at s0 s1 s2 s3 s4
  generalize leastX T.k = least at *
  generalize mostX T.k = most at *
  generalize levelX T.k = level at *
  generalize signX T.k = sign at *
  obtain rfl : K = 1 := by omega
  rw [show namedX T.k = false by rw [hk]; rfl] at s2
  rw [hk]
  clear hK hk
  have h3 : ¬ 65536 < (T.t.size : Int) := by omega
  clear hS h HE
  go_enter Tryz.func31, Tryz.ntmps31
  go_wp2_with fail
  go_ret
  exact ⟨rfl, (ba _).alloc (by simp) _⟩
set_option maxRecDepth 100000 in
set_option maxHeartbeats 1000000 in
theorem nodex_A_gt (T : PT) (w : World) (hS : ShapesX w) (h : ¬ (T.k < 1 ∨ 13 < T.k)) (hk : T.k = 1) (hl : ¬ 65536 < T.t.size) (hm : ¬ (T.len : Int) < leastX T.k) (hq : mostX T.k < (T.len : Int)) :
    Calls Tryz.prog 31 #[pv T] w fun e w' => e = .returned (.int .i64 (errX T)) ∧ Below w.heap.size w w' := by
  unfold pv
  have HE : Hid (errX T = 5) := hide (by unfold errX; rw [if_neg h, if_neg (by omega), if_neg (by omega), if_neg (fun h => by rw [hk] at h; exact absurd h.1 (by decide)), if_pos (.inr hq)])
  rw [unhide HE]
  obtain ⟨K, hK⟩ : ∃ K : Nat, T.k = (K : Int) := ⟨T.k.toNat, by omega⟩
  obtain ⟨s0, s1, s2, s3, s4⟩ := hS K (by omega) (by omega)
  have hz : 0 < w.heap.size := World.block_lt_of_cell? _ _ s0
  have hz' : ¬ w.heap.size = 0 := by omega
  rw [← hK] at s0 s1 s2 s3 s4
  generalize leastX T.k = least at *
  generalize mostX T.k = most at *
  generalize levelX T.k = level at *
  generalize signX T.k = sign at *
  obtain rfl : K = 1 := by omega
  rw [show namedX T.k = false by rw [hk]; rfl] at s2
  rw [hk]
  clear hK hk
  have h3 : ¬ 65536 < (T.t.size : Int) := by omega
  clear hS h HE
  go_enter Tryz.func31, Tryz.ntmps31
  go_wp2_with fail
  go_ret
  exact ⟨rfl, (ba _).alloc (by simp) _⟩
set_option maxRecDepth 100000 in
set_option maxHeartbeats 1000000 in
theorem nodex_A_ok (T : PT) (w : World) (hS : ShapesX w) (h : ¬ (T.k < 1 ∨ 13 < T.k)) (hk : T.k = 1) (hl : ¬ 65536 < T.t.size) (hm : ¬ (T.len : Int) < leastX T.k) (hq : ¬ mostX T.k < (T.len : Int)) :
    Calls Tryz.prog 31 #[pv T] w fun e w' => e = .returned (.int .i64 (errX T)) ∧ Below w.heap.size w w' := by
  unfold pv
  have HE : Hid (errX T = 0) := hide (by unfold errX; rw [if_neg h, if_neg (by omega), if_neg (by omega), if_neg (fun h => by rw [hk] at h; exact absurd h.1 (by decide)), if_neg (fun h => h.elim hm hq)])
  rw [unhide HE]
  obtain ⟨K, hK⟩ : ∃ K : Nat, T.k = (K : Int) := ⟨T.k.toNat, by omega⟩
  obtain ⟨s0, s1, s2, s3, s4⟩ := hS K (by omega) (by omega)
  have hz : 0 < w.heap.size := World.block_lt_of_cell? _ _ s0
  have hz' : ¬ w.heap.size = 0 := by omega
  rw [← hK] at s0 s1 s2 s3 s4
  generalize leastX T.k = least at *
  generalize mostX T.k = most at *
  generalize levelX T.k = level at *
  generalize signX T.k = sign at *
  obtain rfl : K = 1 := by omega
  rw [show namedX T.k = false by rw [hk]; rfl] at s2
  rw [hk]
  clear hK hk
  have h3 : ¬ 65536 < (T.t.size : Int) := by omega
  clear hS h HE
  go_enter Tryz.func31, Tryz.ntmps31
  go_wp2_with fail
  go_ret
  exact ⟨rfl, (ba _).alloc (by simp) _⟩
set_option maxRecDepth 100000 in
set_option maxHeartbeats 1000000 in
theorem nodex_B_lt (T : PT) (w : World) (hS : ShapesX w) (h : ¬ (T.k < 1 ∨ 13 < T.k)) (hk : T.k = 2) (hl : ¬ T.n < 0) (hm : (T.len : Int) < leastX T.k) :
    Calls Tryz.prog 31 #[pv T] w fun e w' => e = .returned (.int .i64 (errX T)) ∧ Below w.heap.size w w' := by
  unfold pv
  have HE : Hid (errX T = 5) := hide (by unfold errX; rw [if_neg h, if_neg (by omega), if_neg (by omega), if_neg (fun h => by rw [hk] at h; exact absurd h.1 (by decide)), if_pos (.inl hm)])
  rw [unhide HE]
  obtain ⟨K, hK⟩ : ∃ K : Nat, T.k = (K : Int) := ⟨T.k.toNat, by omega⟩
  obtain ⟨s0, s1, s2, s3, s4⟩ := hS K (by omega) (by omega)
  have hz : 0 < w.heap.size := World.block_lt_of_cell? _ _ s0
  have hz' : ¬ w.heap.size = 0 := by omega
  rw [← hK] at s0 s1 s2 s3 s4
  generalize leastX T.k = least at *
  generalize mostX T.k = most at *
  generalize levelX T.k = level at *
  generalize signX T.k = sign at *
  obtain rfl : K = 2 := by omega
  rw [show namedX T.k = false by rw [hk]; rfl] at s2
  rw [hk]
  clear hK hk
  have h3 : ¬ T.n < 0 := hl
  clear hS h HE
  go_enter Tryz.func31, Tryz.ntmps31
  go_wp2_with fail
  go_ret
  exact ⟨rfl, (ba _).alloc (by simp) _⟩
set_option maxRecDepth 100000 in
set_option maxHeartbeats 1000000 in
theorem nodex_B_gt (T : PT) (w : World) (hS : ShapesX w) (h : ¬ (T.k < 1 ∨ 13 < T.k)) (hk : T.k = 2) (hl : ¬ T.n < 0) (hm : ¬ (T.len : Int) < leastX T.k) (hq : mostX T.k < (T.len : Int)) :
    Calls Tryz.prog 31 #[pv T] w fun e w' => e = .returned (.int .i64 (errX T)) ∧ Below w.heap.size w w' := by
  unfold pv
  have HE : Hid (errX T = 5) := hide (by unfold errX; rw [if_neg h, if_neg (by omega), if_neg (by omega), if_neg (fun h => by rw [hk] at h; exact absurd h.1 (by decide)), if_pos (.inr hq)])
  rw [unhide HE]
  obtain ⟨K, hK⟩ : ∃ K : Nat, T.k = (K : Int) := ⟨T.k.toNat, by omega⟩
  obtain ⟨s0, s1, s2, s3, s4⟩ := hS K (by omega) (by omega)
  have hz : 0 < w.heap.size := World.block_lt_of_cell? _ _ s0
  have hz' : ¬ w.heap.size = 0 := by omega
  rw [← hK] at s0 s1 s2 s3 s4
  generalize leastX T.k = least at *
  generalize mostX T.k = most at *
  generalize levelX T.k = level at *
  generalize signX T.k = sign at *
  obtain rfl : K = 2 := by omega
  rw [show namedX T.k = false by rw [hk]; rfl] at s2
  rw [hk]
  clear hK hk
  have h3 : ¬ T.n < 0 := hl
  clear hS h HE
  go_enter Tryz.func31, Tryz.ntmps31
  go_wp2_with fail
  go_ret
  exact ⟨rfl, (ba _).alloc (by simp) _⟩
set_option maxRecDepth 100000 in
set_option maxHeartbeats 1000000 in
theorem nodex_B_ok (T : PT) (w : World) (hS : ShapesX w) (h : ¬ (T.k < 1 ∨ 13 < T.k)) (hk : T.k = 2) (hl : ¬ T.n < 0) (hm : ¬ (T.len : Int) < leastX T.k) (hq : ¬ mostX T.k < (T.len : Int)) :
    Calls Tryz.prog 31 #[pv T] w fun e w' => e = .returned (.int .i64 (errX T)) ∧ Below w.heap.size w w' := by
  unfold pv
  have HE : Hid (errX T = 0) := hide (by unfold errX; rw [if_neg h, if_neg (by omega), if_neg (by omega), if_neg (fun h => by rw [hk] at h; exact absurd h.1 (by decide)), if_neg (fun h => h.elim hm hq)])
  rw [unhide HE]
  obtain ⟨K, hK⟩ : ∃ K : Nat, T.k = (K : Int) := ⟨T.k.toNat, by omega⟩
  obtain ⟨s0, s1, s2, s3, s4⟩ := hS K (by omega) (by omega)
  have hz : 0 < w.heap.size := World.block_lt_of_cell? _ _ s0
  have hz' : ¬ w.heap.size = 0 := by omega
  rw [← hK] at s0 s1 s2 s3 s4
  generalize leastX T.k = least at *
  generalize mostX T.k = most at *
  generalize levelX T.k = level at *
  generalize signX T.k = sign at *
  obtain rfl : K = 2 := by omega
  rw [show namedX T.k = false by rw [hk]; rfl] at s2
  rw [hk]
  clear hK hk
  have h3 : ¬ T.n < 0 := hl
  clear hS h HE
  go_enter Tryz.func31, Tryz.ntmps31
  go_wp2_with fail
  go_ret
  exact ⟨rfl, (ba _).alloc (by simp) _⟩
set_option maxRecDepth 100000 in
set_option maxHeartbeats 1000000 in
theorem nodex_C_lt (T : PT) (w : World) (hS : ShapesX w) (h : ¬ (T.k < 1 ∨ 13 < T.k)) (hk : 3 ≤ T.k) (hx : namedX T.k = true) (hn : T.nm.size ≤ maxLen) (hl : named T.nm = true) (hm : (T.len : Int) < leastX T.k) :
    Calls Tryz.prog 31 #[pv T] w fun e w' => e = .returned (.int .i64 (errX T)) ∧ Below w.heap.size w w' := by
  unfold pv
  have HE : Hid (errX T = 5) := hide (by unfold errX; rw [if_neg h, if_neg (by omega), if_neg (by omega), if_neg (fun h => by rw [hl] at h; exact absurd h.2 (by decide)), if_pos (.inl hm)])
  rw [unhide HE]
  obtain ⟨K, hK⟩ : ∃ K : Nat, T.k = (K : Int) := ⟨T.k.toNat, by omega⟩
  obtain ⟨s0, s1, s2, s3, s4⟩ := hS K (by omega) (by omega)
  have hz : 0 < w.heap.size := World.block_lt_of_cell? _ _ s0
  have hz' : ¬ w.heap.size = 0 := by omega
  rw [← hK] at s0 s1 s2 s3 s4
  generalize leastX T.k = least at *
  generalize mostX T.k = most at *
  generalize levelX T.k = level at *
  generalize signX T.k = sign at *
  rw [hx] at s2
  have h1 : ¬ (K : Int) < 1 := by omega
  have h2 : ¬ 13 < (K : Int) := by omega
  have h3 : ¬ (K : Int) = 1 := by omega
  have h4 : ¬ (K : Int) = 2 := by omega
  have HNM := hn
  have HL := hide hl
  clear hl hn hx
  rw [hK]
  clear hK hk
  clear hS h HE
  go_enter Tryz.func31, Tryz.ntmps31
  go_wp2_with (go_at_call 16; refine (named_any _ _ HNM).mono ?_; rintro e w ⟨rfl, rfl⟩; rw [unhide HL])
  go_ret
  exact ⟨rfl, (ba _).alloc (by simp) _⟩
set_option maxRecDepth 100000 in
set_option maxHeartbeats 1000000 in
theorem nodex_C_gt (T : PT) (w : World) (hS : ShapesX w) (h : ¬ (T.k < 1 ∨ 13 < T.k)) (hk : 3 ≤ T.k) (hx : namedX T.k = true) (hn : T.nm.size ≤ maxLen) (hl : named T.nm = true) (hm : ¬ (T.len : Int) < leastX T.k) (hq : mostX T.k < (T.len : Int)) :
    Calls Tryz.prog 31 #[pv T] w fun e w' => e = .returned (.int .i64 (errX T)) ∧ Below w.heap.size w w' := by
  unfold pv
  have HE : Hid (errX T = 5) := hide (by unfold errX; rw [if_neg h, if_neg (by omega), if_neg (by omega), if_neg (fun h => by rw [hl] at h; exact absurd h.2 (by decide)), if_pos (.inr hq)])
  rw [unhide HE]
  obtain ⟨K, hK⟩ : ∃ K : Nat, T.k = (K : Int) := ⟨T.k.toNat, by omega⟩
  obtain ⟨s0, s1, s2, s3, s4⟩ := hS K (by omega) (by omega)
  have hz : 0 < w.heap.size := World.block_lt_of_cell? _ _ s0
  have hz' : ¬ w.heap.size = 0 := by omega
  rw [← hK] at s0 s1 s2 s3 s4
  generalize leastX T.k = least at *
  generalize mostX T.k = most at *
  generalize levelX T.k = level at *
  generalize signX T.k = sign at *
  rw [hx] at s2
  have h1 : ¬ (K : Int) < 1 := by omega
  have h2 : ¬ 13 < (K : Int) := by omega
  have h3 : ¬ (K : Int) = 1 := by omega
  have h4 : ¬ (K : Int) = 2 := by omega
  have HNM := hn
  have HL := hide hl
  clear hl hn hx
  rw [hK]
  clear hK hk
  clear hS h HE
  go_enter Tryz.func31, Tryz.ntmps31
  go_wp2_with (go_at_call 16; refine (named_any _ _ HNM).mono ?_; rintro e w ⟨rfl, rfl⟩; rw [unhide HL])
  go_ret
  exact ⟨rfl, (ba _).alloc (by simp) _⟩
set_option maxRecDepth 100000 in
set_option maxHeartbeats 1000000 in
theorem nodex_C_ok (T : PT) (w : World) (hS : ShapesX w) (h : ¬ (T.k < 1 ∨ 13 < T.k)) (hk : 3 ≤ T.k) (hx : namedX T.k = true) (hn : T.nm.size ≤ maxLen) (hl : named T.nm = true) (hm : ¬ (T.len : Int) < leastX T.k) (hq : ¬ mostX T.k < (T.len : Int)) :
    Calls Tryz.prog 31 #[pv T] w fun e w' => e = .returned (.int .i64 (errX T)) ∧ Below w.heap.size w w' := by
  unfold pv
  have HE : Hid (errX T = 0) := hide (by unfold errX; rw [if_neg h, if_neg (by omega), if_neg (by omega), if_neg (fun h => by rw [hl] at h; exact absurd h.2 (by decide)), if_neg (fun h => h.elim hm hq)])
  rw [unhide HE]
  obtain ⟨K, hK⟩ : ∃ K : Nat, T.k = (K : Int) := ⟨T.k.toNat, by omega⟩
  obtain ⟨s0, s1, s2, s3, s4⟩ := hS K (by omega) (by omega)
  have hz : 0 < w.heap.size := World.block_lt_of_cell? _ _ s0
  have hz' : ¬ w.heap.size = 0 := by omega
  rw [← hK] at s0 s1 s2 s3 s4
  generalize leastX T.k = least at *
  generalize mostX T.k = most at *
  generalize levelX T.k = level at *
  generalize signX T.k = sign at *
  rw [hx] at s2
  have h1 : ¬ (K : Int) < 1 := by omega
  have h2 : ¬ 13 < (K : Int) := by omega
  have h3 : ¬ (K : Int) = 1 := by omega
  have h4 : ¬ (K : Int) = 2 := by omega
  have HNM := hn
  have HL := hide hl
  clear hl hn hx
  rw [hK]
  clear hK hk
  clear hS h HE
  go_enter Tryz.func31, Tryz.ntmps31
  go_wp2_with (go_at_call 16; refine (named_any _ _ HNM).mono ?_; rintro e w ⟨rfl, rfl⟩; rw [unhide HL])
  go_ret
  exact ⟨rfl, (ba _).alloc (by simp) _⟩
set_option maxRecDepth 100000 in
set_option maxHeartbeats 1000000 in
theorem nodex_D_lt (T : PT) (w : World) (hS : ShapesX w) (h : ¬ (T.k < 1 ∨ 13 < T.k)) (hk : 3 ≤ T.k) (hx : namedX T.k = false) (hm : (T.len : Int) < leastX T.k) :
    Calls Tryz.prog 31 #[pv T] w fun e w' => e = .returned (.int .i64 (errX T)) ∧ Below w.heap.size w w' := by
  unfold pv
  have HE : Hid (errX T = 5) := hide (by unfold errX; rw [if_neg h, if_neg (by omega), if_neg (by omega), if_neg (fun h => by rw [hx] at h; exact absurd h.1 (by decide)), if_pos (.inl hm)])
  rw [unhide HE]
  obtain ⟨K, hK⟩ : ∃ K : Nat, T.k = (K : Int) := ⟨T.k.toNat, by omega⟩
  obtain ⟨s0, s1, s2, s3, s4⟩ := hS K (by omega) (by omega)
  have hz : 0 < w.heap.size := World.block_lt_of_cell? _ _ s0
  have hz' : ¬ w.heap.size = 0 := by omega
  rw [← hK] at s0 s1 s2 s3 s4
  generalize leastX T.k = least at *
  generalize mostX T.k = most at *
  generalize levelX T.k = level at *
  generalize signX T.k = sign at *
  rw [hx] at s2
  have h1 : ¬ (K : Int) < 1 := by omega
  have h2 : ¬ 13 < (K : Int) := by omega
  have h3 : ¬ (K : Int) = 1 := by omega
  have h4 : ¬ (K : Int) = 2 := by omega
  clear hx
  rw [hK]
  clear hK hk
  clear hS h HE
  go_enter Tryz.func31, Tryz.ntmps31
  go_wp2_with fail
  go_ret
  exact ⟨rfl, (ba _).alloc (by simp) _⟩
set_option maxRecDepth 100000 in
set_option maxHeartbeats 1000000 in
theorem nodex_D_gt (T : PT) (w : World) (hS : ShapesX w) (h : ¬ (T.k < 1 ∨ 13 < T.k)) (hk : 3 ≤ T.k) (hx : namedX T.k = false) (hm : ¬ (T.len : Int) < leastX T.k) (hq : mostX T.k < (T.len : Int)) :
    Calls Tryz.prog 31 #[pv T] w fun e w' => e = .returned (.int .i64 (errX T)) ∧ Below w.heap.size w w' := by
  unfold pv
  have HE : Hid (errX T = 5) := hide (by unfold errX; rw [if_neg h, if_neg (by omega), if_neg (by omega), if_neg (fun h => by rw [hx] at h; exact absurd h.1 (by decide)), if_pos (.inr hq)])
  rw [unhide HE]
  obtain ⟨K, hK⟩ : ∃ K : Nat, T.k = (K : Int) := ⟨T.k.toNat, by omega⟩
  obtain ⟨s0, s1, s2, s3, s4⟩ := hS K (by omega) (by omega)
  have hz : 0 < w.heap.size := World.block_lt_of_cell? _ _ s0
  have hz' : ¬ w.heap.size = 0 := by omega
  rw [← hK] at s0 s1 s2 s3 s4
  generalize leastX T.k = least at *
  generalize mostX T.k = most at *
  generalize levelX T.k = level at *
  generalize signX T.k = sign at *
  rw [hx] at s2
  have h1 : ¬ (K : Int) < 1 := by omega
  have h2 : ¬ 13 < (K : Int) := by omega
  have h3 : ¬ (K : Int) = 1 := by omega
  have h4 : ¬ (K : Int) = 2 := by omega
  clear hx
  rw [hK]
  clear hK hk
  clear hS h HE
  go_enter Tryz.func31, Tryz.ntmps31
  go_wp2_with fail
  go_ret
  exact ⟨rfl, (ba _).alloc (by simp) _⟩
set_option maxRecDepth 100000 in
set_option maxHeartbeats 1000000 in
theorem nodex_D_ok (T : PT) (w : World) (hS : ShapesX w) (h : ¬ (T.k < 1 ∨ 13 < T.k)) (hk : 3 ≤ T.k) (hx : namedX T.k = false) (hm : ¬ (T.len : Int) < leastX T.k) (hq : ¬ mostX T.k < (T.len : Int)) :
    Calls Tryz.prog 31 #[pv T] w fun e w' => e = .returned (.int .i64 (errX T)) ∧ Below w.heap.size w w' := by
  unfold pv
  have HE : Hid (errX T = 0) := hide (by unfold errX; rw [if_neg h, if_neg (by omega), if_neg (by omega), if_neg (fun h => by rw [hx] at h; exact absurd h.1 (by decide)), if_neg (fun h => h.elim hm hq)])
  rw [unhide HE]
  obtain ⟨K, hK⟩ : ∃ K : Nat, T.k = (K : Int) := ⟨T.k.toNat, by omega⟩
  obtain ⟨s0, s1, s2, s3, s4⟩ := hS K (by omega) (by omega)
  have hz : 0 < w.heap.size := World.block_lt_of_cell? _ _ s0
  have hz' : ¬ w.heap.size = 0 := by omega
  rw [← hK] at s0 s1 s2 s3 s4
  generalize leastX T.k = least at *
  generalize mostX T.k = most at *
  generalize levelX T.k = level at *
  generalize signX T.k = sign at *
  rw [hx] at s2
  have h1 : ¬ (K : Int) < 1 := by omega
  have h2 : ¬ 13 < (K : Int) := by omega
  have h3 : ¬ (K : Int) = 1 := by omega
  have h4 : ¬ (K : Int) = 2 := by omega
  clear hx
  rw [hK]
  clear hK hk
  clear hS h HE
  go_enter Tryz.func31, Tryz.ntmps31
  go_wp2_with fail
  go_ret
  exact ⟨rfl, (ba _).alloc (by simp) _⟩
theorem nodex_any (T : PT) (w : World) (hT : T.In w) (hS : ShapesX w) :
    Calls Tryz.prog 31 #[pv T] w fun e w' => e = .returned (.int .i64 (errX T)) ∧ Below w.heap.size w w' := by
  by_cases h : T.k < 1 ∨ 13 < T.k
  · exact nodex_kind T w h
  by_cases h1 : T.k = 1
  · by_cases hl : 65536 < T.t.size
    · exact nodex_long T w hS h h1 hl
    · by_cases hm : (T.len : Int) < leastX T.k
      · exact nodex_A_lt T w hS h h1 hl hm
      · by_cases hq : mostX T.k < (T.len : Int)
        · exact nodex_A_gt T w hS h h1 hl hm hq
        · exact nodex_A_ok T w hS h h1 hl hm hq
  by_cases h2 : T.k = 2
  · by_cases hl : T.n < 0
    · exact nodex_low T w hS h h2 hl
    · by_cases hm : (T.len : Int) < leastX T.k
      · exact nodex_B_lt T w hS h h2 hl hm
      · by_cases hq : mostX T.k < (T.len : Int)
        · exact nodex_B_gt T w hS h h2 hl hm hq
        · exact nodex_B_ok T w hS h h2 hl hm hq
  have h3 : 3 ≤ T.k := by omega
  cases hx : namedX T.k
  · by_cases hm : (T.len : Int) < leastX T.k
    · exact nodex_D_lt T w hS h h3 hx hm
    · by_cases hq : mostX T.k < (T.len : Int)
      · exact nodex_D_gt T w hS h h3 hx hm hq
      · exact nodex_D_ok T w hS h h3 hx hm hq
  · cases hl : named T.nm
    · exact nodex_name T w hS h h3 hx hT.name hl
    · by_cases hm : (T.len : Int) < leastX T.k
      · exact nodex_C_lt T w hS h h3 hx hT.name hl hm
      · by_cases hq : mostX T.k < (T.len : Int)
        · exact nodex_C_gt T w hS h h3 hx hT.name hl hm hq
        · exact nodex_C_ok T w hS h h3 hx hT.name hl hm hq
end Go.Proofs.YtpphjddljngkmaaGreatDoor
