/- The document's Same: two patterns that differ in where they lie alone are the same. How few and how many bytes a pattern matches: what is said of it. -/
import Derived.Test.YtbmngbpillihaaaDoorSimpTopP
import Derived.Test.YtbmngbpillihaaaDoorScanSimRP
namespace Go.Proofs.YtbmngbpillihaaaDoor
open Go.RowKit

theorem can_parts {A B : PT} (h : A.can = B.can) : B.k = A.k ∧ B.t = A.t ∧ B.n = A.n ∧ B.nm = A.nm ∧ B.len = A.len ∧ ∀ j, j < A.len → (A.kid j).can = (B.kid j).can := by
  have hl : B.len = A.len := by rw [← can_len, ← h, can_len]
  refine ⟨by rw [← can_k, ← h, can_k], by rw [← can_t, ← h, can_t], by rw [← can_n, ← h, can_n], by rw [← can_nm, ← h, can_nm], hl, fun j hj => ?_⟩
  have e : A.lst.map PT.can = B.lst.map PT.can := by rw [← can_lst, h, can_lst]
  have e2 := congrArg (fun l => l[j]?) e
  simp only [List.getElem?_map] at e2
  rw [PT.lst_at hj, PT.lst_at (by omega)] at e2
  exact Option.some.inj e2
set_option maxRecDepth 100000 in
set_option maxHeartbeats 4000000 in
theorem same_can : ∀ A B : PT, ∀ w : World, A.In w → B.In w → A.can = B.can → Calls Tryd.prog 9 #[pv A, pv B] w fun e w' => e = .returned (.bool true) ∧ Below w.heap.size w w' := PT.ind fun A ih B w hA hB h => by
  obtain ⟨e1, e2, e3, e4, e5, e6⟩ := can_parts h
  have HA := hide hA
  have HB := hide hB
  have HL := hide e5
  have IH := hide (fun j hj => ih j hj (B.kid j))
  have H6 := hide e6
  have hmax := hA.max
  unfold maxLen at hmax
  unfold pv
  rw [e1, e2, e3, e4, e5]
  have hb0 : Below w.heap.size w ((w.alloc (.cells #[.int .i64 A.k, .string A.t, .int .i64 A.n, .string A.nm, .slice A.xa A.len A.cap] 24)).alloc (.cells #[.int .i64 A.k, .string A.t, .int .i64 A.n, .string A.nm, .slice B.xa A.len B.cap] 24)) := ((Below.refl _ _).alloc (Nat.le_refl _) _).alloc (by simp) _
  have ga : ((w.alloc (.cells #[.int .i64 A.k, .string A.t, .int .i64 A.n, .string A.nm, .slice A.xa A.len A.cap] 24)).alloc (.cells #[.int .i64 A.k, .string A.t, .int .i64 A.n, .string A.nm, .slice B.xa A.len B.cap] 24)).heap[w.heap.size]? = some (.cells #[.int .i64 A.k, .string A.t, .int .i64 A.n, .string A.nm, .slice A.xa A.len A.cap] 24 (0, 0)) := at_old (by simp) (at_new rfl)
  have gb : ((w.alloc (.cells #[.int .i64 A.k, .string A.t, .int .i64 A.n, .string A.nm, .slice A.xa A.len A.cap] 24)).alloc (.cells #[.int .i64 A.k, .string A.t, .int .i64 A.n, .string A.nm, .slice B.xa A.len B.cap] 24)).heap[w.heap.size + 1]? = some (.cells #[.int .i64 A.k, .string A.t, .int .i64 A.n, .string A.nm, .slice B.xa A.len B.cap] 24 (0, 0)) := at_new (by simp)
  have H0 := hide (And.intro hb0 (And.intro ga gb))
  clear hb0 ga gb hA hB h e1 e2 e3 e4 e5 e6 ih
  go_enter Tryd.func9, Tryd.ntmps9
  go_wp2_with fail
  generalize ((w.alloc (.cells #[.int .i64 A.k, .string A.t, .int .i64 A.n, .string A.nm, .slice A.xa A.len A.cap] 24)).alloc (.cells #[.int .i64 A.k, .string A.t, .int .i64 A.n, .string A.nm, .slice B.xa A.len B.cap] 24)) = W1 at *
  go_loopw [44] (fun x wr => ∃ k : Nat, k ≤ A.len ∧ x = .int .i64 (k : Int) ∧ Hid (Below W1.heap.size W1 wr)) (fun x _ => A.len - (intOf x).toNat)
  case atStart => exact ⟨0, Nat.zero_le _, rfl, Below.refl _ _⟩
  case round =>
    obtain ⟨k, hk, rfl, HBr⟩ := hrel
    rcases Nat.lt_or_ge k A.len with hlt | hge
    · have g1 : (k : Int) < (A.len : Int) := by omega
      have HBw := hide (bnext2 (unhide H0).1 (unhide HBr))
      have hltB : k < B.len := by rw [unhide HL]; exact hlt
      have hia := kid_at (unhide HA) hlt
      have hib := kid_at (unhide HB) hltB
      rw [unhide HL] at hib
      have hKA := (unhide HA).cells hlt
      have hKB := (unhide HB).cells hltB
      unfold PT.kv at hKA hKB
      have HC := hide (fun W (hb : Below w.heap.size w W) => unhide IH k hlt W (PT.In.later hb ((unhide HA).kids hlt)) (PT.In.later hb ((unhide HB).kids hltB)) (unhide H6 k hlt))
      generalize A.kid k = P at *
      generalize B.kid k = Q at *
      unfold pv at HC
      have y := (pats5s (row_below (unhide H0).2.1 (unhide HBr))).2.2.2.2
      have z := (pats5s (row_below (unhide H0).2.2 (unhide HBr))).2.2.2.2
      have HK := hide (show ∀ w', Below wr.heap.size wr w' → (w'.cell? ⟨w.heap.size, 4, none⟩ = some (.slice A.xa A.len A.cap) ∧ w'.cell? ⟨w.heap.size + 1, 4, none⟩ = some (.slice B.xa A.len B.cap) ∧ w'.cell? ⟨A.b, A.o + k * 5, none⟩ = some (.int .i64 P.k) ∧ w'.cell? ⟨A.b, A.o + k * 5 + 1, none⟩ = some (.string P.t) ∧ w'.cell? ⟨A.b, A.o + k * 5 + 2, none⟩ = some (.int .i64 P.n) ∧ w'.cell? ⟨A.b, A.o + k * 5 + 3, none⟩ = some (.string P.nm) ∧ w'.cell? ⟨A.b, A.o + k * 5 + 4, none⟩ = some (.slice P.xa P.len P.cap) ∧ w'.cell? ⟨B.b, B.o + k * 5, none⟩ = some (.int .i64 Q.k) ∧ w'.cell? ⟨B.b, B.o + k * 5 + 1, none⟩ = some (.string Q.t) ∧ w'.cell? ⟨B.b, B.o + k * 5 + 2, none⟩ = some (.int .i64 Q.n) ∧ w'.cell? ⟨B.b, B.o + k * 5 + 3, none⟩ = some (.string Q.nm) ∧ w'.cell? ⟨B.b, B.o + k * 5 + 4, none⟩ = some (.slice Q.xa Q.len Q.cap)) from fun w' hB => by
        have hw := bnext (unhide HBw) hB
        obtain ⟨a0, a1, a2, a3, a4⟩ := hKA
        obtain ⟨b0, b1, b2, b3, b4⟩ := hKB
        exact ⟨cell_later hB y, cell_later hB z, cell_later hw a0, cell_later hw a1, cell_later hw a2, cell_later hw a3, cell_later hw a4, cell_later hw b0, cell_later hw b1, cell_later hw b2, cell_later hw b3, cell_later hw b4⟩)
      obtain ⟨u1, u2, a0, a1, a2, a3, a4, b0, b1, b2, b3, b4⟩ := unhide HK wr (Below.refl _ _)
      clear hKA hKB y z
      go_wp2_with fail
      have hA : Below wr.heap.size wr wr.drew := (Below.refl _ _).drew
      go_region_held3 (fun w' => w'.cell? ⟨w.heap.size, 4, none⟩ = some (.slice A.xa A.len A.cap) ∧ w'.cell? ⟨w.heap.size + 1, 4, none⟩ = some (.slice B.xa A.len B.cap) ∧ w'.cell? ⟨A.b, A.o + k * 5, none⟩ = some (.int .i64 P.k) ∧ w'.cell? ⟨A.b, A.o + k * 5 + 1, none⟩ = some (.string P.t) ∧ w'.cell? ⟨A.b, A.o + k * 5 + 2, none⟩ = some (.int .i64 P.n) ∧ w'.cell? ⟨A.b, A.o + k * 5 + 3, none⟩ = some (.string P.nm) ∧ w'.cell? ⟨A.b, A.o + k * 5 + 4, none⟩ = some (.slice P.xa P.len P.cap) ∧ w'.cell? ⟨B.b, B.o + k * 5, none⟩ = some (.int .i64 Q.k) ∧ w'.cell? ⟨B.b, B.o + k * 5 + 1, none⟩ = some (.string Q.t) ∧ w'.cell? ⟨B.b, B.o + k * 5 + 2, none⟩ = some (.int .i64 Q.n) ∧ w'.cell? ⟨B.b, B.o + k * 5 + 3, none⟩ = some (.string Q.nm) ∧ w'.cell? ⟨B.b, B.o + k * 5 + 4, none⟩ = some (.slice Q.xa Q.len Q.cap))
        ((refine unhide HK _ ?_; with_reducible exact hA))
        ((go_at_call 9; (with_reducible refine (unhide HC _ (bnext (unhide HBw) hA)).mono ?_); rintro e w4 ⟨rfl, hb4⟩; have hA := bnext hA hb4; clear hb4))
      all_goals have HZ := hide (bnext2 (unhide HBr) hA)
      all_goals clear a0 a1 a2 a3 a4 b0 b1 b2 b3 b4 u1 u2 HK HC hia hib
      all_goals go_wp2_with fail
      all_goals exact ⟨⟨k + 1, by omega, rfl, HZ⟩, by simp [intOf]; omega⟩
    · obtain rfl : k = A.len := by omega
      have g1 : ¬ (A.len : Int) < (A.len : Int) := by omega
      go_wp2_with fail
      go_ret
      exact ⟨rfl, bnext2 (unhide H0).1 (unhide HBr)⟩
end Go.Proofs.YtbmngbpillihaaaDoor

namespace Go.Proofs.YtbmngbpillihaaaDoor
open Go.RowKit

/-- May it match; how few bytes; how many (-1: not said). -/
abbrev Ex := Bool × Int × Int
def exNo : Ex := (false, 0, 0)
def exCat (a b : Ex) : Ex := if a.1 = false ∨ b.1 = false then exNo else (true, min (a.2.1 + b.2.1) 65537, if a.2.2 = -1 ∨ b.2.2 = -1 ∨ 65536 < a.2.2 + b.2.2 then -1 else a.2.2 + b.2.2)
def exAlt (a b : Ex) : Ex := if b.1 = false then a else if a.1 = false then b else (true, min a.2.1 b.2.1, if a.2.2 = -1 ∨ b.2.2 = -1 then -1 else max a.2.2 b.2.2)
def catTo (f : Nat → Ex) : Nat → Ex
  | 0 => (true, 0, 0)
  | n + 1 => exCat (catTo f n) (f n)
def altTo (f : Nat → Ex) : Nat → Ex
  | 0 => exNo
  | n + 1 => exAlt (altTo f n) (f n)
def exOne (f : Nat → Ex) (len : Nat) : Ex := if len = 0 then exNo else f 0
def exN (k n : Int) (t : Nat) (f : Nat → Ex) (len : Nat) : Ex :=
  if k = 1 then (true, (t : Int), (t : Int))
  else if k = 2 then (true, n, n)
  else if k = 3 ∨ k = 4 then (true, 1, 1)
  else if k = 5 ∨ k = 14 then (true, 1, -1)
  else if k = 10 ∨ k = 11 ∨ k = 16 ∨ k = 23 then (true, 0, 0)
  else if k = 15 ∨ k = 17 then exNo
  else if k = 18 then catTo f len
  else if k = 19 then altTo f len
  else if k = 21 ∨ k = 22 then exOne f len
  else if k = 20 then (if (exOne f len).1 = false ∨ (exOne f len).2.2 = 0 then (true, 0, 0) else (true, 0, -1))
  else (true, 0, -1)
theorem catTo_congr {f g : Nat → Ex} : ∀ n, (∀ i, i < n → f i = g i) → catTo f n = catTo g n
  | 0, _ => rfl
  | n + 1, h => by rw [catTo, catTo, catTo_congr n fun i hi => h i (by omega), h n (by omega)]
theorem altTo_congr {f g : Nat → Ex} : ∀ n, (∀ i, i < n → f i = g i) → altTo f n = altTo g n
  | 0, _ => rfl
  | n + 1, h => by rw [altTo, altTo, altTo_congr n fun i hi => h i (by omega), h n (by omega)]
theorem exN_congr {f g : Nat → Ex} (k n : Int) (t len : Nat) (h : ∀ i, i < len → f i = g i) : exN k n t f len = exN k n t g len := by
  have h1 : exOne f len = exOne g len := by
    unfold exOne
    split
    · rfl
    · exact h 0 (by omega)
  unfold exN
  rw [catTo_congr len h, altTo_congr len h, h1]
def PT.ext : PT → Ex
  | .node k t n _ _ _ _ len _ kids => exN k n t.size (kf len exNo fun i => PT.ext (kids i)) len
theorem PT.ext_eq (T : PT) : T.ext = exN T.k T.n T.t.size (fun i => (T.kid i).ext) T.len := by
  obtain ⟨k, t, n, nm, xa, b, o, len, cap, kids⟩ := T
  exact exN_congr k n t.size len fun i hi => by rw [kf_at hi, PT.kid_at (T := .node k t n nm xa b o len cap kids) hi]
section
variable {T : PT}
theorem ext_1 (h : T.k = 1) : T.ext = (true, (T.t.size : Int), (T.t.size : Int)) := by rw [T.ext_eq, exN, if_pos h]
end

end Go.Proofs.YtbmngbpillihaaaDoor
