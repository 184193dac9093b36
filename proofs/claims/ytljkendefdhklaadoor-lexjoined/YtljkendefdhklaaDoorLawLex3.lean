/- LexJoined: two lines, a blank between, are the tokens of both. -/
import Derived.Test.YtljkendefdhklaaDoorLexAlive
import Derived.Test.YtljkendefdhklaaDoorLexJoinP
namespace Go.Proofs.YtljkendefdhklaaDoor
open Go.RowKit

theorem cell0 {w : World} {N : Nat} {T : TypeId} {x y : Value} (h : w.heap[N]? = some (.cells #[x, y] T (0, 0))) : w.cell? ⟨N, 0, none⟩ = some x := (cell_of_row _ _ 0 _ _ _ h).trans rfl

theorem cell_two {w : World} {a : Addr} {v : Value} (h : w.cell? a = some v) (o1 o2 : Obj) : ((w.alloc o1).alloc o2).cell? a = some v :=
  cell_later (bnext ((Below.refl _ _).alloc (Nat.le_refl _) o1) ((Below.refl _ _).alloc (Nat.le_refl _) o2)) h
theorem bel_two_new {a w : World} (h : Below a.heap.size a w) (o1 o2 : Obj) : Below a.heap.size a ((w.alloc o1).alloc o2) :=
  bnext h (bnext ((Below.refl _ _).alloc (Nat.le_refl _) o1) ((Below.refl _ _).alloc (Nat.le_refl _) o2))

set_option maxRecDepth 10000 in
set_option maxHeartbeats 4000000 in
theorem lexJoined_walk (s t : ByteArray) (hs : s.size ≤ maxLen) (ht : t.size ≤ maxLen) (w : World) (hm : ∃ m, w.cell? ⟨0, 0, none⟩ = some (.int .i64 m)) (hS : s.size ≤ 140737488351232) (hT : t.size ≤ 140737488351232) :
    Calls Tryd.prog 5 #[.string s, .string t] w fun e w' => e = .returned (.bool true) ∧ Below w.heap.size w w' := by
  obtain ⟨m, hm⟩ := hm
  have H0 := hide (alive_any w m hm)
  have H1 := hide (fun W h => line_any s W hs m h)
  have H2 := hide (fun W h => line_any t W ht m h)
  have hsz : (s ++ ⟨#[32]⟩ ++ t).size = s.size + 1 + t.size := (two_of s t).size
  have H3 := hide (fun W h => line_any (s ++ ⟨#[32]⟩ ++ t) W (by unfold maxLen; omega) m h)
  have HL := hide ((two_of s t).line)
  have HS1 := hide (line_small s)
  have HS2 := hide (line_small t)
  have HC := hide (And.intro (line_count s) (line_count t))
  have HM := hide hm
  unfold LinePost fau at H1 H2 H3
  have g1 : ¬ 9223372036854775807 < s.size + 1 := by omega
  have g2 : ¬ 9223372036854775807 < s.size + 1 + t.size := by omega
  have g3 : (s ++ (⟨#[32]⟩ : ByteArray)).size = s.size + 1 := by rw [ByteArray.size_append]; rfl
  clear hm hsz
  generalize lineP (s ++ ⟨#[32]⟩ ++ t) = RJ at *
  generalize lineP s = RS at *
  generalize lineP t = RT at *
  obtain ⟨A, e1, a1⟩ := RS
  obtain ⟨B, e2, a2⟩ := RT
  obtain ⟨C, e3, a3⟩ := RJ
  dsimp only at H1 H2 H3 HL HS1 HS2 HC
  go_enter Tryd.func5, Tryd.ntmps5
  go_wp2_with (go_at_call 9; refine (unhide H0).mono ?_; rintro e w0 ⟨rfl, hb0⟩; have HB0 := hide hb0; clear hb0)
  refine (unhide H1 _ (cell_later (unhide HB0) (unhide HM))).mono ?_
  rintro e w1 ⟨v1, rfl, hr1, hb1⟩
  obtain ⟨p1, c1, rfl, -, -⟩ := hr1.len
  have HR1 := hide (And.intro (hr1.later ((Below.refl _ _).alloc (Nat.le_refl _) (.cells #[.int .i64 (e1 : Int), .int .i64 (a1 : Int)] 25))) (And.intro (bnext (bnext (unhide HB0) hb1) ((Below.refl _ _).alloc (Nat.le_refl _) (.cells #[.int .i64 (e1 : Int), .int .i64 (a1 : Int)] 25))) (at_new (w := w1) (o := .cells #[.int .i64 (e1 : Int), .int .i64 (a1 : Int)] 25) rfl)))
  clear hr1 hb1
  go_wp2_with fail
  generalize w1.alloc (.cells #[.int .i64 (e1 : Int), .int .i64 (a1 : Int)] 25) = W1 at *
  generalize w1.heap.size = N1 at *
  refine (unhide H2 _ (cell_later (unhide HR1).2.1 (unhide HM))).mono ?_
  rintro e w2 ⟨v2, rfl, hr2, hb2⟩
  obtain ⟨p2, c2, rfl, -, -⟩ := hr2.len
  have HR2 := hide (And.intro (hr2.later ((Below.refl _ _).alloc (Nat.le_refl _) (.cells #[.int .i64 (e2 : Int), .int .i64 (a2 : Int)] 25))) (And.intro (bnext hb2 ((Below.refl _ _).alloc (Nat.le_refl _) (.cells #[.int .i64 (e2 : Int), .int .i64 (a2 : Int)] 25))) (at_new (w := w2) (o := .cells #[.int .i64 (e2 : Int), .int .i64 (a2 : Int)] 25) rfl)))
  clear hr2 hb2
  go_wp2_with fail
  generalize w2.alloc (.cells #[.int .i64 (e2 : Int), .int .i64 (a2 : Int)] 25) = W2 at *
  generalize w2.heap.size = N2 at *
  refine (unhide H3 _ (cell_later (bnext (unhide HR1).2.1 (unhide HR2).2.1) (unhide HM))).mono ?_
  rintro e w3 ⟨v3, rfl, hr3, hb3⟩
  obtain ⟨p3, c3, rfl, -, -⟩ := hr3.len
  have HR3 := hide (And.intro (hr3.later ((Below.refl _ _).alloc (Nat.le_refl _) (.cells #[.int .i64 (e3 : Int), .int .i64 (a3 : Int)] 25))) (And.intro (bnext hb3 ((Below.refl _ _).alloc (Nat.le_refl _) (.cells #[.int .i64 (e3 : Int), .int .i64 (a3 : Int)] 25))) (at_new (w := w3) (o := .cells #[.int .i64 (e3 : Int), .int .i64 (a3 : Int)] 25) rfl)))
  clear hr3 hb3
  have k1 := cell0 (row_below (row_below (unhide HR1).2.2 (unhide HR2).2.1) (unhide HR3).2.1)
  have k2 := cell0 (row_below (unhide HR2).2.2 (unhide HR3).2.1)
  have k3 := cell0 (unhide HR3).2.2
  have HBB := hide (bnext (bnext (unhide HR1).2.1 (unhide HR2).2.1) (unhide HR3).2.1)
  by_cases he1 : e1 = 0
  · by_cases he2 : e2 = 0
    · have z1 : ((e1 : Int) != 0) = false := by rw [he1]; rfl
      have z2 : ((e2 : Int) != 0) = false := by rw [he2]; rfl
      by_cases hz : s.size + t.size + 1 ≤ 2000
      · have hq := unhide HL he1 he2 hz
        injection hq with hq1 hq2
        injection hq2 with hq2 hq3
        have z3 : ((e3 : Int) != 0) = false := by rw [hq2]; rfl
        clear hq2 hq3 he1 he2
        have hz2 : ¬ (2000 : Int) < (s.size : Int) + (t.size : Int) + 1 := by omega
        have hlen : C.length = A.length + B.length := by rw [hq1]; simp
        have hAl := (unhide HC).1
        have hBl := (unhide HC).2
        have hle : ((C.length : Int) != (A.length : Int) + (B.length : Int)) = false := by rw [hlen]; simp
        have HQ1 := hide hq1
        clear HL hq1
        go_wp2_with fail
        have HR4 := hide (And.intro ((unhide HR1).1.later (bnext (unhide HR2).2.1 (unhide HR3).2.1)) (And.intro ((unhide HR2).1.later (unhide HR3).2.1) (unhide HR3).1))
        generalize w3.alloc (.cells #[.int .i64 (e3 : Int), .int .i64 (a3 : Int)] 25) = w4 at *
        clear HR1 HR2 HR3 H1 H2 H3 k1 k2 k3 z1 z2 z3 hle
        go_loopw [66] (fun x wr => ∃ k : Nat, k ≤ A.length + B.length ∧ x = .int .i64 (k : Int) ∧ Hid (Below w4.heap.size w4 wr)) (fun x _ => A.length + B.length - (intOf x).toNat)
        case atStart => exact ⟨0, Nat.zero_le _, rfl, Below.refl _ _⟩
        case round =>
          obtain ⟨k, hk, rfl, HB⟩ := hrel
          rcases Nat.lt_or_ge k (A.length + B.length) with hlt | hge
          · have q1 : (k : Int) < (A.length : Int) + (B.length : Int) := by omega
            have hkC : k < C.length := by omega
            obtain ⟨y3, b3, hv3, -, -⟩ := (unhide HR4).2.2.form (by intro h; rw [h] at hkC; simp at hkC)
            injection hv3 with hv31 hv32 hv33
            subst hv31 hv33
            have i3 := idx_run (n := A.length + B.length) Tryd.underlying22 size_tok hlt (g := y3) (cap := c3)
            by_cases hA : k < A.length
            · have q2 : (k : Int) < (A.length : Int) := by omega
              obtain ⟨y1, b1, hv1, -, -⟩ := (unhide HR4).1.form (by intro h; rw [h] at hA; simp at hA)
              injection hv1 with hv11 hv12 hv13
              subst hv11 hv13
              have hx : A[k]? = some A[k] := List.getElem?_eq_getElem hA
              have hy : C[k]? = some A[k] := by rw [unhide HQ1, List.getElem?_append_left hA]; exact hx
              have hsm := unhide HS1 A[k] (List.getElem_mem hA)
              obtain ⟨t0, t1, t2⟩ := tok3 ((unhide HR4).1.later (unhide HB)) rfl hx
              obtain ⟨u0, u1, u2⟩ := tok3 ((unhide HR4).2.2.later (unhide HB)) rfl hy
              have i1 := idx_run Tryd.underlying22 size_tok hA (g := y1) (cap := c1)
              generalize A[k] = x at *
              obtain ⟨xk, xt, xa⟩ := x
              have heq := eq_tok (xk : Int) (xa : Int) xt (by omega) (by have := hsm.1; dsimp only at this; omega) (by omega) (by have := hsm.2.1; dsimp only at this; omega) (by have := hsm.2.2; unfold maxLen; dsimp only at this; omega)
              dsimp only at t0 t1 t2 u0 u1 u2
              have s0 := cell_two t0
              have s1 := cell_two t1
              have s2 := cell_two t2
              clear hx hy hsm hv12 hv32 t0 t1 t2
              go_wp2_with fail
              exact ⟨⟨k + 1, by omega, rfl, bel_two_new (unhide HB) _ _⟩, by simp [intOf]; omega⟩
            · have q2 : ¬ (k : Int) < (A.length : Int) := by omega
              have hj : k - A.length < B.length := by omega
              obtain ⟨y2, b2, hv2, -, -⟩ := (unhide HR4).2.1.form (by intro h; rw [h] at hj; simp at hj)
              injection hv2 with hv21 hv22 hv23
              subst hv21 hv23
              have hx : B[k - A.length]? = some B[k - A.length] := List.getElem?_eq_getElem hj
              have hy : C[k]? = some (mv (s.size + 1) B[k - A.length]) := by rw [unhide HQ1, List.getElem?_append_right (by omega), List.getElem?_map, hx]; rfl
              have hsm := unhide HS2 B[k - A.length] (List.getElem_mem hj)
              obtain ⟨t0, t1, t2⟩ := tok3 ((unhide HR4).2.1.later (unhide HB)) rfl hx
              obtain ⟨u0, u1, u2⟩ := tok3 ((unhide HR4).2.2.later (unhide HB)) rfl hy
              have i2 := idx_run Tryd.underlying22 size_tok hj (g := y2) (cap := c2)
              rw [show ((k - A.length : Nat) : Int) = (k : Int) - (A.length : Int) by omega] at i2
              generalize B[k - A.length] = x at *
              obtain ⟨xk, xt, xa⟩ := x
              have hxa : xa ≤ 2000 := hsm.2.1
              have heq := eq_tok (xk : Int) ((xa : Int) + (s.size : Int) + 1) xt (by omega) (by have := hsm.1; dsimp only at this; omega) (by omega) (by omega) (by have := hsm.2.2; unfold maxLen; dsimp only at this; omega)
              unfold mv at u0 u1 u2
              dsimp only at t0 t1 t2 u0 u1 u2
              rw [show ((xa + (s.size + 1) : Nat) : Int) = (xa : Int) + (s.size : Int) + 1 by omega] at u2
              have s0 := cell_two t0
              have s1 := cell_two t1
              have s2 := cell_two t2
              clear hx hy hsm hv22 hv32 t0 t1 t2
              go_wp2_with fail
              exact ⟨⟨k + 1, by omega, rfl, bel_two_new (unhide HB) _ _⟩, by simp [intOf]; omega⟩
          · obtain rfl : k = A.length + B.length := by omega
            have q1 : ¬ ((A.length + B.length : Nat) : Int) < (A.length : Int) + (B.length : Int) := by omega
            go_wp2_with fail
            go_ret
            exact ⟨rfl, bnext (unhide HBB) (unhide HB)⟩
      · have hz2 : (2000 : Int) < (s.size : Int) + (t.size : Int) + 1 := by omega
        clear HL he1 he2
        go_wp2_with fail
        go_ret
        exact ⟨rfl, unhide HBB⟩
    · have q2 : ((e2 : Int) != 0) = true := by rw [bne_iff_ne]; omega
      have z1 : ((e1 : Int) != 0) = false := by rw [he1]; rfl
      clear HL he1 he2
      go_wp2_with fail
      go_ret
      exact ⟨rfl, unhide HBB⟩
  · have q1 : ((e1 : Int) != 0) = true := by rw [bne_iff_ne]; omega
    clear HL he1
    go_wp2_with fail
    go_ret
    exact ⟨rfl, unhide HBB⟩
end Go.Proofs.YtljkendefdhklaaDoor
