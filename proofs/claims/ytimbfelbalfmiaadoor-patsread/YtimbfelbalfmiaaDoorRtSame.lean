/- The document's Same: two patterns that differ in where they lie alone are the same. -/
import Derived.Test.YtimbfelbalfmiaaDoorRdRow
import Derived.Deep.RegionHeld3
namespace Go.Proofs.YtimbfelbalfmiaaDoor
open Go.RowKit

theorem bnext2 {w a b : World} (h : Below w.heap.size w a) (k : Below a.heap.size a b) : Below w.heap.size w b := h.trans (k.mono h.size)
set_option maxRecDepth 100000 in
set_option maxHeartbeats 4000000 in
theorem same_can : ∀ A B : PT, ∀ w : World, A.In w → B.In w → A.can = B.can → Calls Tryd.prog 6 #[pv A, pv B] w fun e w' => e = .returned (.bool true) ∧ Below w.heap.size w w' := PT.ind fun A ih B w hA hB h => by
  obtain ⟨e1, e2, e3, e4, e5, e6⟩ := can_parts h
  have HA := hide hA
  have HB := hide hB
  have HL := hide e5
  have IH := hide (fun j hj => ih j hj (B.kid j))
  have H6 := hide e6
  have hmax := hA.max
  unfold maxLen at hmax
  unfold pv
  rw [e1, e2, e3, e4, e5]
  have hb0 : Below w.heap.size w ((w.alloc (.cells #[.int .i64 A.k, .string A.t, .int .i64 A.n, .string A.nm, .slice A.xa A.len A.cap] 24)).alloc (.cells #[.int .i64 A.k, .string A.t, .int .i64 A.n, .string A.nm, .slice B.xa A.len B.cap] 24)) := ((Below.refl _ _).alloc (Nat.le_refl _) _).alloc (by simp) _
  have ga : ((w.alloc (.cells #[.int .i64 A.k, .string A.t, .int .i64 A.n, .string A.nm, .slice A.xa A.len A.cap] 24)).alloc (.cells #[.int .i64 A.k, .string A.t, .int .i64 A.n, .string A.nm, .slice B.xa A.len B.cap] 24)).heap[w.heap.size]? = some (.cells #[.int .i64 A.k, .string A.t, .int .i64 A.n, .string A.nm, .slice A.xa A.len A.cap] 24 (0, 0)) := at_old (by simp) (at_new rfl)
  have gb : ((w.alloc (.cells #[.int .i64 A.k, .string A.t, .int .i64 A.n, .string A.nm, .slice A.xa A.len A.cap] 24)).alloc (.cells #[.int .i64 A.k, .string A.t, .int .i64 A.n, .string A.nm, .slice B.xa A.len B.cap] 24)).heap[w.heap.size + 1]? = some (.cells #[.int .i64 A.k, .string A.t, .int .i64 A.n, .string A.nm, .slice B.xa A.len B.cap] 24 (0, 0)) := at_new (by simp)
  have H0 := hide (And.intro hb0 (And.intro ga gb))
  clear hb0 ga gb hA hB h e1 e2 e3 e4 e5 e6 ih
  go_enter Tryd.func6, Tryd.ntmps6
  go_wp2_with fail
  generalize ((w.alloc (.cells #[.int .i64 A.k, .string A.t, .int .i64 A.n, .string A.nm, .slice A.xa A.len A.cap] 24)).alloc (.cells #[.int .i64 A.k, .string A.t, .int .i64 A.n, .string A.nm, .slice B.xa A.len B.cap] 24)) = W1 at *
  go_loopw [44] (fun x wr => ∃ k : Nat, k ≤ A.len ∧ x = .int .i64 (k : Int) ∧ Hid (Below W1.heap.size W1 wr)) (fun x _ => A.len - (intOf x).toNat)
  case atStart => exact ⟨0, Nat.zero_le _, rfl, Below.refl _ _⟩
  case round =>
    obtain ⟨k, hk, rfl, HBr⟩ := hrel
    rcases Nat.lt_or_ge k A.len with hlt | hge
    · have g1 : (k : Int) < (A.len : Int) := by omega
      have HBw := hide (bnext2 (unhide H0).1 (unhide HBr))
      have hltB : k < B.len := by rw [unhide HL]; exact hlt
      have hia := kid_at (unhide HA) hlt
      have hib := kid_at (unhide HB) hltB
      rw [unhide HL] at hib
      have hKA := (unhide HA).cells hlt
      have hKB := (unhide HB).cells hltB
      unfold PT.kv at hKA hKB
      have HC := hide (fun W (hb : Below w.heap.size w W) => unhide IH k hlt W (PT.In.later hb ((unhide HA).kids hlt)) (PT.In.later hb ((unhide HB).kids hltB)) (unhide H6 k hlt))
      generalize A.kid k = P at *
      generalize B.kid k = Q at *
      unfold pv at HC
      have y := (pats5s (row_below (unhide H0).2.1 (unhide HBr))).2.2.2.2
      have z := (pats5s (row_below (unhide H0).2.2 (unhide HBr))).2.2.2.2
      have HK := hide (show ∀ w', Below wr.heap.size wr w' → (w'.cell? ⟨w.heap.size, 4, none⟩ = some (.slice A.xa A.len A.cap) ∧ w'.cell? ⟨w.heap.size + 1, 4, none⟩ = some (.slice B.xa A.len B.cap) ∧ w'.cell? ⟨A.b, A.o + k * 5, none⟩ = some (.int .i64 P.k) ∧ w'.cell? ⟨A.b, A.o + k * 5 + 1, none⟩ = some (.string P.t) ∧ w'.cell? ⟨A.b, A.o + k * 5 + 2, none⟩ = some (.int .i64 P.n) ∧ w'.cell? ⟨A.b, A.o + k * 5 + 3, none⟩ = some (.string P.nm) ∧ w'.cell? ⟨A.b, A.o + k * 5 + 4, none⟩ = some (.slice P.xa P.len P.cap) ∧ w'.cell? ⟨B.b, B.o + k * 5, none⟩ = some (.int .i64 Q.k) ∧ w'.cell? ⟨B.b, B.o + k * 5 + 1, none⟩ = some (.string Q.t) ∧ w'.cell? ⟨B.b, B.o + k * 5 + 2, none⟩ = some (.int .i64 Q.n) ∧ w'.cell? ⟨B.b, B.o + k * 5 + 3, none⟩ = some (.string Q.nm) ∧ w'.cell? ⟨B.b, B.o + k * 5 + 4, none⟩ = some (.slice Q.xa Q.len Q.cap)) from fun w' hB => by
        have hw := bnext (unhide HBw) hB
        obtain ⟨a0, a1, a2, a3, a4⟩ := hKA
        obtain ⟨b0, b1, b2, b3, b4⟩ := hKB
        exact ⟨cell_later hB y, cell_later hB z, cell_later hw a0, cell_later hw a1, cell_later hw a2, cell_later hw a3, cell_later hw a4, cell_later hw b0, cell_later hw b1, cell_later hw b2, cell_later hw b3, cell_later hw b4⟩)
      obtain ⟨u1, u2, a0, a1, a2, a3, a4, b0, b1, b2, b3, b4⟩ := unhide HK wr (Below.refl _ _)
      clear hKA hKB y z
      go_wp2_with fail
      have hA : Below wr.heap.size wr wr.drew := (Below.refl _ _).drew
      go_region_held3 (fun w' => w'.cell? ⟨w.heap.size, 4, none⟩ = some (.slice A.xa A.len A.cap) ∧ w'.cell? ⟨w.heap.size + 1, 4, none⟩ = some (.slice B.xa A.len B.cap) ∧ w'.cell? ⟨A.b, A.o + k * 5, none⟩ = some (.int .i64 P.k) ∧ w'.cell? ⟨A.b, A.o + k * 5 + 1, none⟩ = some (.string P.t) ∧ w'.cell? ⟨A.b, A.o + k * 5 + 2, none⟩ = some (.int .i64 P.n) ∧ w'.cell? ⟨A.b, A.o + k * 5 + 3, none⟩ = some (.string P.nm) ∧ w'.cell? ⟨A.b, A.o + k * 5 + 4, none⟩ = some (.slice P.xa P.len P.cap) ∧ w'.cell? ⟨B.b, B.o + k * 5, none⟩ = some (.int .i64 Q.k) ∧ w'.cell? ⟨B.b, B.o + k * 5 + 1, none⟩ = some (.string Q.t) ∧ w'.cell? ⟨B.b, B.o + k * 5 + 2, none⟩ = some (.int .i64 Q.n) ∧ w'.cell? ⟨B.b, B.o + k * 5 + 3, none⟩ = some (.string Q.nm) ∧ w'.cell? ⟨B.b, B.o + k * 5 + 4, none⟩ = some (.slice Q.xa Q.len Q.cap))
        ((refine unhide HK _ ?_; with_reducible exact hA))
        ((go_at_call 6; (with_reducible refine (unhide HC _ (bnext (unhide HBw) hA)).mono ?_); rintro e w4 ⟨rfl, hb4⟩; have hA := bnext hA hb4; clear hb4))
      all_goals have HZ := hide (bnext2 (unhide HBr) hA)
      all_goals clear a0 a1 a2 a3 a4 b0 b1 b2 b3 b4 u1 u2 HK HC hia hib
      all_goals go_wp2_with fail
      all_goals exact ⟨⟨k + 1, by omega, rfl, HZ⟩, by simp [intOf]; omega⟩
    · obtain rfl : k = A.len := by omega
      have g1 : ¬ (A.len : Int) < (A.len : Int) := by omega
      go_wp2_with fail
      go_ret
      exact ⟨rfl, bnext2 (unhide H0).1 (unhide HBr)⟩
end Go.Proofs.YtimbfelbalfmiaaDoor
