/- The document's Exprs of a statement. The document's uses and Check, plain. -/
import Derived.Test.YtpphjddljngkmaaDoorRefAllXP
import Derived.Test.YtpphjddljngkmaaDoorRefStAP
import Derived.Test.YtpphjddljngkmaaDoorRefChEP
namespace Go.Proofs.YtpphjddljngkmaaDoor
open Go.RowKit

def SV.exR (S : SV) : List PT := if S.k = 2 ∨ S.k = 4 then [S.va] else if S.k = 3 ∨ S.k = 5 then [S.tg, S.va] else []
set_option maxRecDepth 100000 in
set_option maxHeartbeats 4000000 in
theorem refExprs_any (S : SV) (w : World) :
    Calls Tryd.prog 16 #[S.v] w fun e w' => ∃ v, e = .returned v ∧ w'.ownsRow w.heap.size 43 5 v S.exR.length (acells S.exR) ∧ Below w.heap.size w w' := by
  unfold SV.v SV.cells NL.v
  obtain ⟨c0, c1, c2, c3, c4, c5, c6, c7, c8, c9, c10, c11, -, -, -, -, -, -, -, -, -, -, -, -⟩ := cells24 (S := S) (W := w.alloc (.cells #[.string S.lab, .int .i64 S.k, .int .i64 S.tg.k, .string S.tg.t, .int .i64 S.tg.n, .string S.tg.nm, .slice S.tg.xa S.tg.len S.tg.cap, .int .i64 S.va.k, .string S.va.t, .int .i64 S.va.n, .string S.va.nm, .slice S.va.xa S.va.len S.va.cap, .int .i64 S.pa.k, .string S.pa.t, .int .i64 S.pa.n, .string S.pa.nm, .slice S.pa.xa S.pa.len S.pa.cap, .string S.nm, .string S.en, .slice S.ps.xa S.ps.l.length S.ps.cap, .slice S.ls.xa S.ls.l.length S.ls.cap, .string S.al, .string S.ye, .string S.no] 49)) (at_new rfl)
  by_cases h24 : S.k = 2 ∨ S.k = 4
  · have HL := hide (show S.exR = [S.va] from if_pos h24)
    have HO := hide (World.ownsRow_lit (base := w.heap.size) (e := 43) (size := 5) (w.alloc (.cells #[.string S.lab, .int .i64 S.k, .int .i64 S.tg.k, .string S.tg.t, .int .i64 S.tg.n, .string S.tg.nm, .slice S.tg.xa S.tg.len S.tg.cap, .int .i64 S.va.k, .string S.va.t, .int .i64 S.va.n, .string S.va.nm, .slice S.va.xa S.va.len S.va.cap, .int .i64 S.pa.k, .string S.pa.t, .int .i64 S.pa.n, .string S.pa.nm, .slice S.pa.xa S.pa.len S.pa.cap, .string S.nm, .string S.en, .slice S.ps.xa S.ps.l.length S.ps.cap, .slice S.ls.xa S.ls.l.length S.ls.cap, .string S.al, .string S.ye, .string S.no] 49)) #[.int .i64 S.va.k, .string S.va.t, .int .i64 S.va.n, .string S.va.nm, .slice S.va.xa S.va.len S.va.cap] 1 (by rw [World.size_alloc]; omega) (by decide) rfl)
    rcases h24 with h | h
    · have q2 : (S.k == 2) = true := bt h
      clear h
      go_enter Tryd.func16, Tryd.ntmps16
      go_wp2_with fail
      go_ret
      refine ⟨_, rfl, ?_, ((ba _).alloc (by rw [World.size_alloc]; omega) _)⟩
      rw [unhide HL]
      have h := unhide HO
      rw [World.size_alloc] at h
      exact h
    · have q2 : (S.k == 2) = false := bn
      have q4 : (S.k == 4) = true := bt h
      clear h
      go_enter Tryd.func16, Tryd.ntmps16
      go_wp2_with fail
      go_ret
      refine ⟨_, rfl, ?_, ((ba _).alloc (by rw [World.size_alloc]; omega) _)⟩
      rw [unhide HL]
      have h := unhide HO
      rw [World.size_alloc] at h
      exact h
  · by_cases h35 : S.k = 3 ∨ S.k = 5
    · have HL := hide (show S.exR = [S.tg, S.va] from (if_neg h24).trans (if_pos h35))
      have HO := hide (World.ownsRow_lit (base := w.heap.size) (e := 43) (size := 5) (w.alloc (.cells #[.string S.lab, .int .i64 S.k, .int .i64 S.tg.k, .string S.tg.t, .int .i64 S.tg.n, .string S.tg.nm, .slice S.tg.xa S.tg.len S.tg.cap, .int .i64 S.va.k, .string S.va.t, .int .i64 S.va.n, .string S.va.nm, .slice S.va.xa S.va.len S.va.cap, .int .i64 S.pa.k, .string S.pa.t, .int .i64 S.pa.n, .string S.pa.nm, .slice S.pa.xa S.pa.len S.pa.cap, .string S.nm, .string S.en, .slice S.ps.xa S.ps.l.length S.ps.cap, .slice S.ls.xa S.ls.l.length S.ls.cap, .string S.al, .string S.ye, .string S.no] 49)) #[.int .i64 S.tg.k, .string S.tg.t, .int .i64 S.tg.n, .string S.tg.nm, .slice S.tg.xa S.tg.len S.tg.cap, .int .i64 S.va.k, .string S.va.t, .int .i64 S.va.n, .string S.va.nm, .slice S.va.xa S.va.len S.va.cap] 2 (by rw [World.size_alloc]; omega) (by decide) rfl)
      clear h24
      rcases h35 with h | h
      · have q2 : (S.k == 2) = false := bn
        have q4 : (S.k == 4) = false := bn
        have q3 : (S.k == 3) = true := bt h
        clear h
        go_enter Tryd.func16, Tryd.ntmps16
        go_wp2_with fail
        go_ret
        refine ⟨_, rfl, ?_, ((ba _).alloc (by rw [World.size_alloc]; omega) _)⟩
        rw [unhide HL]
        have h := unhide HO
        rw [World.size_alloc] at h
        exact h
      · have q2 : (S.k == 2) = false := bn
        have q4 : (S.k == 4) = false := bn
        have q3 : (S.k == 3) = false := bn
        have q5 : (S.k == 5) = true := bt h
        clear h
        go_enter Tryd.func16, Tryd.ntmps16
        go_wp2_with fail
        go_ret
        refine ⟨_, rfl, ?_, ((ba _).alloc (by rw [World.size_alloc]; omega) _)⟩
        rw [unhide HL]
        have h := unhide HO
        rw [World.size_alloc] at h
        exact h
    · have HL := hide (show S.exR = [] from (if_neg h24).trans (if_neg h35))
      have q2 : (S.k == 2) = false := bn
      have q3 : (S.k == 3) = false := bn
      have q4 : (S.k == 4) = false := bn
      have q5 : (S.k == 5) = false := bn
      clear h24 h35
      go_enter Tryd.func16, Tryd.ntmps16
      go_wp2_with fail
      go_ret
      refine ⟨_, rfl, ?_, ba _⟩
      rw [unhide HL]
      exact World.ownsRow_nil _ _ _ _
end Go.Proofs.YtpphjddljngkmaaDoor

namespace Go.Proofs.YtpphjddljngkmaaDoor
open Go.RowKit

def lbBad (P : List SV) (t : ByteArray) : Bool := !t.toList.isEmpty && (!lout t && decide (rFst (labF t) P 0 < 0))
def parR (P : List SV) (x : Int) : Int := match P[x.toNat]? with | some S => (S.ps.l.length : Int) | none => 0
def calE (P : List SV) (T : PT) : Int :=
  if T.k ≠ 6 then 0 else if 0 ≤ blt T.nm then (if blt T.nm = (T.len : Int) then 0 else 5)
  else if rFst (defF T.nm) P 0 < 0 then 7 else if parR P (rFst (defF T.nm) P 0) < (T.len : Int) then 5 else 0
def usE (P : List SV) (S : SV) : Int := if [S.al, S.ye, S.no].any (lbBad P) = true then 6 else if S.k = 7 ∧ rFst (labF S.en) P 0 < 0 then 6 else fst0 (S.exR.map fun x => fst0 (x.all.map (calE P)))
theorem usE_eq (P : List SV) (S : SV) : usE P S = if [S.al, S.ye, S.no].any (lbBad P) = true then 6 else if S.k = 7 ∧ rFst (labF S.en) P 0 < 0 then 6 else fst0 (S.exR.map fun x => fst0 (x.all.map (calE P))) := rfl
theorem lbBad_eq (P : List SV) (t : ByteArray) : lbBad P t = (!t.toList.isEmpty && (!lout t && decide (rFst (labF t) P 0 < 0))) := rfl
/-- The first fault of a round, and where. -/
def fstE (g : Nat → SV → Int) : List SV → Nat → Int × Int
  | [], _ => (0, 0)
  | S :: l, i => if g i S = 0 then fstE g l (i + 1) else (g i S, (i : Int))
theorem fstE_drop {g : Nat → SV → Int} {P : List SV} {k : Nat} {S : SV} {R : Int × Int} (h : R = fstE g (P.drop k) k) (hS : P[k]? = some S) : (g k S = 0 → R = fstE g (P.drop (k + 1)) (k + 1)) ∧ (g k S ≠ 0 → R = (g k S, (k : Int))) := by
  have hk : k < P.length := (List.getElem?_eq_some_iff.1 hS).1
  have e : P.drop k = S :: P.drop (k + 1) := by
    rw [List.drop_eq_getElem_cons hk]
    congr 1
    rw [List.getElem?_eq_getElem hk] at hS
    exact Option.some.inj hS
  rw [e] at h
  exact ⟨fun q => h.trans (if_pos q), fun q => h.trans (if_neg q)⟩
def wrE (_ : Nat) (S : SV) : Int := S.wrong
def nmE' (P : List SV) (i : Nat) (S : SV) : Int := if namedB P i S = true then 0 else 7
def usE' (P : List SV) (_ : Nat) (S : SV) : Int := usE P S
def orE (a b : Int × Int) : Int × Int := if a.1 = 0 then b else a
def chkR (P : List SV) : Int × Int := if 1000 < P.length then (5, 0) else orE (fstE wrE P 0) (orE (fstE (nmE' P) P 0) (fstE (usE' P) P 0))
theorem fstE_zero {g : Nat → SV → Int} : ∀ (l : List SV) (k : Nat), (fstE g l k).1 = 0 → (fstE g l k).2 = 0 ∧ ∀ j S, l[j]? = some S → g (k + j) S = 0
  | [], _, _ => ⟨rfl, fun j S h => by simp at h⟩
  | A :: l, k, h => by
    rw [fstE] at h ⊢
    by_cases hg : g k A = 0
    · rw [if_pos hg] at h ⊢
      have ih := fstE_zero l (k + 1) h
      refine ⟨ih.1, fun j S hj => ?_⟩
      cases j with
      | zero => obtain rfl : A = S := by simpa using hj
                exact hg
      | succ j => have := ih.2 j S (by simpa using hj); rwa [show k + 1 + j = k + (j + 1) by omega] at this
    · rw [if_neg hg] at h; exact absurd h hg
theorem fst0_all : ∀ {l : List Int}, fst0 l = 0 → ∀ x ∈ l, x = 0
  | [], _, x, hx => by cases hx
  | y :: l, h, x, hx => by
    have h : (if y = 0 then fst0 l else y) = 0 := h
    by_cases hy : y = 0
    · rw [if_pos hy] at h
      rcases List.mem_cons.1 hx with rfl | hx
      · exact hy
      · exact fst0_all h x hx
    · rw [if_neg hy] at h; exact absurd h hy
end Go.Proofs.YtpphjddljngkmaaDoor
