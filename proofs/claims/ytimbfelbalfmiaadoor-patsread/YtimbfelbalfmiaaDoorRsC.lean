/- The document's walk over signs: what it holds, and its small functions. -/
import Derived.Test.YtimbfelbalfmiaaDoorRsA
import Derived.Test.YtimbfelbalfmiaaDoorRdF
namespace Go.Proofs.YtimbfelbalfmiaaDoor
open Go.RowKit

/-- Signs that lie at a place of a block. -/
def SgAt (w : World) (g o : Nat) (l : List Sg) : Prop := ∀ i x, l[i]? = some x → w.cell? ⟨g, o + i * 4, none⟩ = some (.int .i64 (x.k : Int)) ∧ w.cell? ⟨g, o + i * 4 + 1, none⟩ = some (.string x.t) ∧ w.cell? ⟨g, o + i * 4 + 2, none⟩ = some (.int .i64 (x.a : Int)) ∧ w.cell? ⟨g, o + i * 4 + 3, none⟩ = some (.int .i64 (x.e : Int))
theorem SgAt.tail {w : World} {g o : Nat} {x : Sg} {l : List Sg} (h : SgAt w g o (x :: l)) : SgAt w g (o + 4) l := fun i y hy => by
  have := h (i + 1) y (by simpa using hy)
  rw [show o + (i + 1) * 4 = o + 4 + i * 4 by omega] at this
  exact this
theorem SgAt.same {w w' : World} {g o : Nat} {l : List Sg} (h : SgAt w g o l) (hg : w'.heap[g]? = w.heap[g]?) : SgAt w' g o l := fun i x hx => by
  have key : ∀ k, w'.cell? ⟨g, k, none⟩ = w.cell? ⟨g, k, none⟩ := fun k => by unfold World.cell?; rw [hg]
  obtain ⟨a, b, c, d⟩ := h i x hx
  exact ⟨(key _).trans a, (key _).trans b, (key _).trans c, (key _).trans d⟩
/-- The walk's block: what is left, the text, how deep, what was wrong and where; the signs lie in an earlier one. -/
structure WkG (w : World) (z g o cap : Nat) (s : ByteArray) (l : List Sg) (d er a : Int) : Prop where
  blk : w.heap[z]? = some (.cells #[.slice (some ⟨g, o, none⟩) l.length cap, .string s, .int .i64 d, .int .i64 er, .int .i64 a] 39 (0, 0))
  gz : g < z
  fit : l.length ≤ cap
  max : cap ≤ maxLen
  sgs : SgAt w g o l
def Wk (w : World) (z : Nat) (s : ByteArray) (l : List Sg) (d er a : Int) : Prop := ∃ g o cap, WkG w z g o cap s l d er a
section
variable {w w' : World} {z g o cap : Nat} {s : ByteArray} {l : List Sg} {d er a : Int}
theorem WkG.cells (h : WkG w z g o cap s l d er a) : w.cell? ⟨z, 0, none⟩ = some (.slice (some ⟨g, o, none⟩) l.length cap) ∧ w.cell? ⟨z, 1, none⟩ = some (.string s) ∧ w.cell? ⟨z, 2, none⟩ = some (.int .i64 d) ∧ w.cell? ⟨z, 3, none⟩ = some (.int .i64 er) ∧ w.cell? ⟨z, 4, none⟩ = some (.int .i64 a) := by
  refine ⟨?_, ?_, ?_, ?_, ?_⟩ <;> (rw [cell_of_row _ _ _ _ _ _ h.blk]; rfl)
theorem WkG.fz (h : WkG w z g o cap s l d er a) (k : Nat) : w.frozen? ⟨z, k, none⟩ = false := frozen_of_row w z k _ _ h.blk
theorem WkG.lt (h : WkG w z g o cap s l d er a) : z < w.heap.size := (Array.getElem?_eq_some_iff.1 h.blk).1
theorem Wk.lt (h : Wk w z s l d er a) : z < w.heap.size := by obtain ⟨g, o, c, h⟩ := h; exact h.lt
/-- What changes nothing up to the walk's block. -/
theorem WkG.other (h : WkG w z g o cap s l d er a) (hb : ∀ i, i ≤ z → w'.heap[i]? = w.heap[i]?) : WkG w' z g o cap s l d er a :=
  ⟨(hb z (Nat.le_refl _)).trans h.blk, h.gz, h.fit, h.max, h.sgs.same (hb g (Nat.le_of_lt h.gz))⟩
theorem Wk.other (h : Wk w z s l d er a) (hb : ∀ i, i ≤ z → w'.heap[i]? = w.heap[i]?) : Wk w' z s l d er a := by obtain ⟨g, o, c, h⟩ := h; exact ⟨g, o, c, h.other hb⟩
theorem WkG.below (h : WkG w z g o cap s l d er a) (hb : Below w.heap.size w w') : WkG w' z g o cap s l d er a := h.other fun i hi => hb.block i (Nat.lt_of_le_of_lt hi h.lt)
theorem Wk.below (h : Wk w z s l d er a) (hb : Below w.heap.size w w') : Wk w' z s l d er a := by obtain ⟨g, o, c, h⟩ := h; exact ⟨g, o, c, h.below hb⟩
/-- A store into a box of one's own. -/
theorem Wk.box {n : Nat} {cs : Array Value} (h : Wk w z s l d er a) (hz : z < n) : Wk (w.setRow n cs) z s l d er a := h.other fun i hi => setRow_other w n i cs (by omega)
theorem WkG.setD (h : WkG w z g o cap s l d er a) (d' : Int) : WkG (w.setCell ⟨z, 2, none⟩ (.int .i64 d')) z g o cap s l d' er a :=
  ⟨heap_setCell_same w z 2 _ _ _ h.blk, h.gz, h.fit, h.max, h.sgs.same (heap_setCell_other w ⟨z, 2, none⟩ g _ (Nat.ne_of_lt h.gz))⟩
theorem WkG.setL {x : Sg} {l : List Sg} (h : WkG w z g o cap s (x :: l) d er a) : WkG (w.setCell ⟨z, 0, none⟩ (.slice (some ⟨g, o + 4, none⟩) l.length (cap - 1))) z g (o + 4) (cap - 1) s l d er a := by
  have h1 := h.fit
  have h2 := h.max
  rw [List.length_cons] at h1
  exact ⟨heap_setCell_same w z 0 _ _ _ h.blk, h.gz, by omega, by omega, h.sgs.tail.same (heap_setCell_other w ⟨z, 0, none⟩ g _ (Nat.ne_of_lt h.gz))⟩
theorem WkG.setB (h : WkG w z g o cap s l d er a) (er' a' : Int) : WkG ((w.setCell ⟨z, 3, none⟩ (.int .i64 er')).setCell ⟨z, 4, none⟩ (.int .i64 a')) z g o cap s l d er' a' :=
  ⟨heap_setCell_same _ z 4 _ _ _ (heap_setCell_same w z 3 _ _ _ h.blk), h.gz, h.fit, h.max, (h.sgs.same (heap_setCell_other w ⟨z, 3, none⟩ g _ (Nat.ne_of_lt h.gz))).same (heap_setCell_other _ ⟨z, 4, none⟩ g _ (Nat.ne_of_lt h.gz))⟩
end
def sgE (x : Sg) : Value := .agg #[.int .i64 (x.k : Int), .string x.t, .int .i64 (x.a : Int), .int .i64 (x.e : Int)]

set_option maxHeartbeats 800000 in
theorem wstop_ok {w : World} {z : Nat} {s : ByteArray} {l : List Sg} {d a : Int} (h : Wk w z s l d 0 a) (e' a' : Int) : Calls Tryd.prog 11 #[.pointer (some ⟨z, 0, none⟩), .int .i64 e', .int .i64 a'] w fun e w' => e = .returned (.tuple #[]) ∧ But z w w' ∧ Wk w' z s l d e' a' := by
  obtain ⟨g, o, cap, h⟩ := h
  obtain ⟨c0, c1, c2, c3, c4⟩ := h.cells
  have f3 := h.fz 3
  have f4 := h.fz 4
  have H := hide h
  clear h
  go_enter Tryd.func11, Tryd.ntmps11
  go_wp2_with fail
  go_end0
  exact ⟨rfl, ((But.refl z w).setCell 3 _).setCell 4 _, g, o, cap, (unhide H).setB e' a'⟩
set_option maxHeartbeats 800000 in
theorem wstop_bad {w : World} {z : Nat} {s : ByteArray} {l : List Sg} {d er a : Int} (h : Wk w z s l d er a) (he : er ≠ 0) (e' a' : Int) : Calls Tryd.prog 11 #[.pointer (some ⟨z, 0, none⟩), .int .i64 e', .int .i64 a'] w fun e w' => e = .returned (.tuple #[]) ∧ w' = w := by
  obtain ⟨g, o, cap, h⟩ := h
  obtain ⟨c0, c1, c2, c3, c4⟩ := h.cells
  have q : (er == 0) = false := by rw [beq_eq_false_iff_ne]; exact he
  clear h he
  go_enter Tryd.func11, Tryd.ntmps11
  go_wp2_with fail
  go_end0
  exact ⟨rfl, rfl⟩
theorem sgBox {w : World} : (w.alloc (.cells #[.int .i64 0, .string ⟨#[]⟩, .int .i64 0, .int .i64 0] 42)).heap[w.heap.size]? = some (.cells #[.int .i64 0, .string ⟨#[]⟩, .int .i64 0, .int .i64 0] 42 (0, 0)) := at_new rfl
theorem size_sign : (Tryd.prog.info? 42).map (·.size) = some 4 := by kernel_rfl
theorem sgO_oneC (x : Sg) : (sgO x).all (·.oneCell') = true := by simp [sgO, Value.oneCell']
theorem two_first {w : World} {n : Nat} {c : Array Value} {t : TypeId} {x : Obj} (h : w.heap.size = n) : ((w.alloc (.cells c t)).alloc x).heap[n]? = some (.cells c t (0, 0)) := at_old (by rw [World.size_alloc]; omega) (at_new h.symm)
set_option maxHeartbeats 2000000 in
theorem wtake_ok {w : World} {z : Nat} {s : ByteArray} {x y : Sg} {r : List Sg} {d er a : Int} (h : Wk w z s (x :: y :: r) d er a) (K : Nat) (hk : x.k = K) (h1 : K ≠ 301) : Calls Tryd.prog 19 #[.pointer (some ⟨z, 0, none⟩), .int .i64 (K : Int)] w fun e w' => e = .returned (sgE x) ∧ But z w w' ∧ Wk w' z s (y :: r) d er a := by
  obtain ⟨g, o, cap, h⟩ := h
  obtain ⟨c0, c1, c2, c3, c4⟩ := h.cells
  obtain ⟨x0, x1, x2, x3⟩ := h.sgs 0 x rfl
  simp only [Nat.zero_mul, Nat.add_zero] at x0 x1 x2 x3
  have f0 := h.fz 0
  have hz := h.lt
  have hgl : g < w.heap.size := Nat.lt_trans h.gz h.lt
  have hcap := h.fit
  have hmax := h.max
  unfold maxLen at hmax
  simp only [List.length_cons] at c0 hcap
  have HB := hide ((((But.refl z w).setCell 0 (.slice (some ⟨g, o + 4, none⟩) (r.length + 1) (cap - 1))).alloc (.cells (sgO x) 42)).alloc (.cells (sgO x) 42))
  have HW := hide ((h.setL.below ((Below.refl _ _).alloc (Nat.le_refl _) (.cells (sgO x) 42))).below ((Below.refl _ _).alloc (Nat.le_refl _) (.cells (sgO x) 42)))
  subst hk
  have q1 : ((x.k : Int) == 301) = false := by rw [beq_eq_false_iff_ne]; omega
  have q2 : (1 : Int) < (r.length : Int) + 1 + 1 := by omega
  clear h h1
  go_enter Tryd.func19, Tryd.ntmps19
  go_wp2_with fail
  exact bodyPost_ret (results_cell_row rfl _ _ w.heap.size 42 (sgO x) (0, 0) _ rfl (two_first (by rw [World.size_setCell])) Tryd.underlying42 rfl size_sign) rfl ⟨rfl, unhide HB, g, o + 4, cap - 1, unhide HW⟩
def zeroS : Array Value := #[.int .i64 0, .string ⟨#[]⟩, .int .i64 0, .int .i64 0]
theorem sg4 {w : World} {z : Nat} {v0 v1 v2 v3 : Value} (h : w.heap[z]? = some (.cells #[v0, v1, v2, v3] 42 (0, 0))) :
    w.cell? ⟨z, 0, none⟩ = some v0 ∧ w.cell? ⟨z, 1, none⟩ = some v1 ∧ w.cell? ⟨z, 2, none⟩ = some v2 ∧ w.cell? ⟨z, 3, none⟩ = some v3 := by
  refine ⟨?_, ?_, ?_, ?_⟩ <;> (rw [cell_of_row _ _ _ _ _ _ h]; rfl)
set_option maxHeartbeats 2000000 in
theorem wtake_nog {w : World} {z : Nat} {s : ByteArray} {x : Sg} {r : List Sg} {d er a er' a' : Int} (h : Wk w z s (x :: r) d er a) (K : Nat) (hk : x.k ≠ K)
    (hS : ∀ W, Wk W z s (x :: r) d er a → Calls Tryd.prog 11 #[.pointer (some ⟨z, 0, none⟩), .int .i64 2, .int .i64 ((if x.k = 301 ∧ K = 302 then s.size else x.a : Nat) : Int)] W fun e w' => e = .returned (.tuple #[]) ∧ But z W w' ∧ Wk w' z s (x :: r) d er' a') : Calls Tryd.prog 19 #[.pointer (some ⟨z, 0, none⟩), .int .i64 (K : Int)] w fun e w' => e = .returned (sgE x) ∧ But z w w' ∧ Wk w' z s (x :: r) d er' a' := by
  have H0 := hide h
  obtain ⟨g, o, cap, h⟩ := h
  obtain ⟨c0, c1, c2, c3, c4⟩ := h.cells
  obtain ⟨x0, x1, x2, x3⟩ := h.sgs 0 x rfl
  simp only [Nat.zero_mul, Nat.add_zero] at x0 x1 x2 x3
  have hz := h.lt
  have hgl : g < w.heap.size := Nat.lt_trans h.gz h.lt
  have hcap := h.fit
  have hmax := h.max
  unfold maxLen at hmax
  simp only [List.length_cons] at c0 hcap
  have hb1 : Below w.heap.size w ((w.alloc (.cells zeroS 42)).alloc (.cells (sgO x) 42)) := ((Below.refl _ _).alloc (Nat.le_refl _) _).alloc (by simp) _
  have HB1 := hide hb1
  have HX := hide (show ((w.alloc (.cells zeroS 42)).alloc (.cells (sgO x) 42)).heap[w.heap.size]? = some (.cells zeroS 42 (0, 0)) from two_first rfl)
  have HY := hide (show ((w.alloc (.cells zeroS 42)).alloc (.cells (sgO x) 42)).heap[w.heap.size + 1]? = some (.cells (sgO x) 42 (0, 0)) from at_new (by rw [World.size_alloc]))
  have HS1 := hide (hS _ ((unhide H0).below hb1))
  clear h hb1 hS
  by_cases hq : x.k = 301
  · obtain ⟨k, t, xa, xe⟩ := x
    simp only at hq
    subst hq
    simp only [Int.cast_ofNat_Int] at x0 x1 x2 x3 hk
    by_cases hK : K = 302
    · rw [if_pos ⟨rfl, hK⟩] at HS1
      subst hK
      clear hk
      go_enter Tryd.func19, Tryd.ntmps19
      go_wp2_with fail
      refine (unhide HS1).mono ?_
      rintro e w2 ⟨rfl, hb2, hW2⟩
      have HX2 := hide (but_z hb2 (unhide HX) (by omega))
      obtain ⟨y0, y1, y2, y3⟩ := sg4 (but_z hb2 (unhide HY) (by omega))
      have HB2 := hide ((But.of_below (unhide HB1)).trans hb2)
      have HW2 := hide hW2
      clear hb2 hW2
      go_wp2_with (first
        | (refine wpList_store_row rfl 42 _ _ rfl w.heap.size (sgO ⟨301, t, xa, xe⟩) rfl rfl 42 zeroS (unhide HX2) size_sign rfl (sgO_oneC _) ?_)
        | fail)
      (try simp only [Exit.inBlock, Exit.then])
      exact bodyPost_ret (results_cell_row rfl _ _ w.heap.size 42 (sgO ⟨301, t, xa, xe⟩) (0, 0) _ rfl (setRow_heap _ _ _ _ _ _ (unhide HX2)) Tryd.underlying42 rfl size_sign) rfl ⟨rfl, but_setRow (unhide HB2) (Nat.le_refl _) _, (unhide HW2).box hz⟩
    · rw [if_neg (fun h => hK h.2)] at HS1
      have q1 : ((K : Int) == 302) = false := by rw [beq_eq_false_iff_ne]; omega
      have q2 : ((301 : Int) == (K : Int)) = false := by rw [beq_eq_false_iff_ne]; omega
      clear hk hK
      go_enter Tryd.func19, Tryd.ntmps19
      go_wp2_with fail
      refine (unhide HS1).mono ?_
      rintro e w2 ⟨rfl, hb2, hW2⟩
      have HX2 := hide (but_z hb2 (unhide HX) (by omega))
      obtain ⟨y0, y1, y2, y3⟩ := sg4 (but_z hb2 (unhide HY) (by omega))
      have HB2 := hide ((But.of_below (unhide HB1)).trans hb2)
      have HW2 := hide hW2
      clear hb2 hW2
      go_wp2_with (first
        | (refine wpList_store_row rfl 42 _ _ rfl w.heap.size (sgO ⟨301, t, xa, xe⟩) rfl rfl 42 zeroS (unhide HX2) size_sign rfl (sgO_oneC _) ?_)
        | fail)
      (try simp only [Exit.inBlock, Exit.then])
      exact bodyPost_ret (results_cell_row rfl _ _ w.heap.size 42 (sgO ⟨301, t, xa, xe⟩) (0, 0) _ rfl (setRow_heap _ _ _ _ _ _ (unhide HX2)) Tryd.underlying42 rfl size_sign) rfl ⟨rfl, but_setRow (unhide HB2) (Nat.le_refl _) _, (unhide HW2).box hz⟩
  · rw [if_neg (fun h => hq h.1)] at HS1
    have q1 : ((x.k : Int) == 301) = false := by rw [beq_eq_false_iff_ne]; omega
    have q2 : ((x.k : Int) == (K : Int)) = false := by rw [beq_eq_false_iff_ne]; omega
    clear hk hq
    go_enter Tryd.func19, Tryd.ntmps19
    go_wp2_with fail
    refine (unhide HS1).mono ?_
    rintro e w2 ⟨rfl, hb2, hW2⟩
    have HX2 := hide (but_z hb2 (unhide HX) (by omega))
    obtain ⟨y0, y1, y2, y3⟩ := sg4 (but_z hb2 (unhide HY) (by omega))
    have HB2 := hide ((But.of_below (unhide HB1)).trans hb2)
    have HW2 := hide hW2
    clear hb2 hW2
    go_wp2_with (first
      | (refine wpList_store_row rfl 42 _ _ rfl w.heap.size (sgO x) rfl rfl 42 zeroS (unhide HX2) size_sign rfl (sgO_oneC _) ?_)
      | fail)
    (try simp only [Exit.inBlock, Exit.then])
    exact bodyPost_ret (results_cell_row rfl _ _ w.heap.size 42 (sgO x) (0, 0) _ rfl (setRow_heap _ _ _ _ _ _ (unhide HX2)) Tryd.underlying42 rfl size_sign) rfl ⟨rfl, but_setRow (unhide HB2) (Nat.le_refl _) _, (unhide HW2).box hz⟩
theorem wtake_no {w : World} {z : Nat} {s : ByteArray} {x : Sg} {r : List Sg} {d a : Int} (h : Wk w z s (x :: r) d 0 a) (K : Nat) (hk : x.k ≠ K) : Calls Tryd.prog 19 #[.pointer (some ⟨z, 0, none⟩), .int .i64 (K : Int)] w fun e w' => e = .returned (sgE x) ∧ But z w w' ∧ Wk w' z s (x :: r) d 2 ((if x.k = 301 ∧ K = 302 then s.size else x.a : Nat) : Int) :=
  wtake_nog h K hk fun _ hW => wstop_ok hW _ _
/-- Something was wrong: what, and where; there is a sign left. -/
def WkB (w : World) (z : Nat) (s : ByteArray) (d er a : Int) : Prop := ∃ x r, Wk w z s (x :: r) d er a
theorem WkB.lt {w : World} {z : Nat} {s : ByteArray} {d er a : Int} (h : WkB w z s d er a) : z < w.heap.size := by obtain ⟨x, r, h⟩ := h; exact h.lt
theorem WkB.below {w w' : World} {z : Nat} {s : ByteArray} {d er a : Int} (h : WkB w z s d er a) (hb : Below w.heap.size w w') : WkB w' z s d er a := by obtain ⟨x, r, h⟩ := h; exact ⟨x, r, h.below hb⟩
theorem WkB.box {w : World} {z n : Nat} {s : ByteArray} {d er a : Int} {cs : Array Value} (h : WkB w z s d er a) (hz : z < n) : WkB (w.setRow n cs) z s d er a := by obtain ⟨x, r, h⟩ := h; exact ⟨x, r, h.box hz⟩
theorem WkB.stop {w : World} {z : Nat} {s : ByteArray} {d er a : Int} (h : WkB w z s d er a) (he : er ≠ 0) (e' a' : Int) : Calls Tryd.prog 11 #[.pointer (some ⟨z, 0, none⟩), .int .i64 e', .int .i64 a'] w fun e w' => e = .returned (.tuple #[]) ∧ w' = w := by obtain ⟨x, r, h⟩ := h; exact wstop_bad h he e' a'
set_option maxHeartbeats 2000000 in
theorem wtake_bad {w : World} {z : Nat} {s : ByteArray} {d er a : Int} (h : WkB w z s d er a) (he : er ≠ 0) : Calls Tryd.prog 19 #[.pointer (some ⟨z, 0, none⟩), .int .i64 41] w fun e w' => (∃ x, e = .returned (sgE x)) ∧ But z w w' ∧ WkB w' z s d er a := by
  obtain ⟨x, r, h⟩ := h
  by_cases hk : x.k = 41
  · match r, h with
    | [], h =>
      have H0 := hide h
      obtain ⟨g, o, cap, h⟩ := h
      obtain ⟨c0, c1, c2, c3, c4⟩ := h.cells
      obtain ⟨x0, x1, x2, x3⟩ := h.sgs 0 x rfl
      simp only [Nat.zero_mul, Nat.add_zero] at x0 x1 x2 x3
      have hz := h.lt
      have hgl : g < w.heap.size := Nat.lt_trans h.gz h.lt
      have hcap := h.fit
      have hmax := h.max
      unfold maxLen at hmax
      simp only [List.length_cons] at c0 hcap
      have hb1 : Below w.heap.size w ((w.alloc (.cells zeroS 42)).alloc (.cells (sgO x) 42)) := ((Below.refl _ _).alloc (Nat.le_refl _) _).alloc (by simp) _
      have HB1 := hide hb1
      have HX := hide (show ((w.alloc (.cells zeroS 42)).alloc (.cells (sgO x) 42)).heap[w.heap.size]? = some (.cells zeroS 42 (0, 0)) from two_first rfl)
      have HY := hide (show ((w.alloc (.cells zeroS 42)).alloc (.cells (sgO x) 42)).heap[w.heap.size + 1]? = some (.cells (sgO x) 42 (0, 0)) from at_new (by rw [World.size_alloc]))
      have HB3 := hide ((((But.refl z w).alloc (.cells (sgO x) 42)).alloc (.cells (sgO x) 42)))
      have HW3 := hide (((unhide H0).below ((Below.refl _ _).alloc (Nat.le_refl _) (.cells (sgO x) 42))).below ((Below.refl _ _).alloc (Nat.le_refl _) (.cells (sgO x) 42)))
      clear h hb1
      obtain ⟨k, t, xa, xe⟩ := x
      simp only at hk
      subst hk
      simp only [Int.cast_ofNat_Int, List.length_nil] at x0 x1 x2 x3 c0
      go_enter Tryd.func19, Tryd.ntmps19
      go_wp2_with fail
      exact bodyPost_ret (results_cell_row rfl _ _ w.heap.size 42 (sgO ⟨41, t, xa, xe⟩) (0, 0) _ rfl (two_first rfl) Tryd.underlying42 rfl size_sign) rfl ⟨⟨⟨41, t, xa, xe⟩, rfl⟩, unhide HB3, _, [], unhide HW3⟩
    | y :: r, h => exact (wtake_ok h 41 hk (by decide)).mono fun e w' q => ⟨⟨x, q.1⟩, q.2.1, y, r, q.2.2⟩
  · exact (wtake_nog h 41 hk fun _ hW => (wstop_bad hW he _ _).mono fun e w' q => ⟨q.1, q.2 ▸ But.refl z w', q.2 ▸ hW⟩).mono fun e w' q => ⟨⟨x, q.1⟩, q.2.1, x, r, q.2.2⟩
end Go.Proofs.YtimbfelbalfmiaaDoor
