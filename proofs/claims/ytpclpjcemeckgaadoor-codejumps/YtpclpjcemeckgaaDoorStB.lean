/- Statements: what they are made of, and what is wrong with targets and functions. -/
import Derived.Test.YtpclpjcemeckgaaDoorStA
import Derived.Test.YtpclpjcemeckgaaDoorExBelow
import Derived.Deep.RegionHeld3
namespace Go.Proofs.YtpclpjcemeckgaaDoor
open Go.RowKit

/-- A statement: its label, kind, target, value, pattern, name, entry, parameters, locals, and where it goes on. -/
structure SV where
  lab : ByteArray
  k : Int
  tg : PT
  va : PT
  pa : PT
  nm : ByteArray
  en : ByteArray
  ps : NL
  ls : NL
  al : ByteArray
  ye : ByteArray
  no : ByteArray
def SV.cells (S : SV) : Array Value := #[.string S.lab, .int .i64 S.k, .int .i64 S.tg.k, .string S.tg.t, .int .i64 S.tg.n, .string S.tg.nm, .slice S.tg.xa S.tg.len S.tg.cap, .int .i64 S.va.k, .string S.va.t, .int .i64 S.va.n, .string S.va.nm, .slice S.va.xa S.va.len S.va.cap, .int .i64 S.pa.k, .string S.pa.t, .int .i64 S.pa.n, .string S.pa.nm, .slice S.pa.xa S.pa.len S.pa.cap, .string S.nm, .string S.en, S.ps.v, S.ls.v, .string S.al, .string S.ye, .string S.no]
def SV.v (S : SV) : Value := .agg S.cells
structure SV.In (w : World) (S : SV) : Prop where
  txt : S.lab.size ≤ maxLen ∧ S.nm.size ≤ maxLen ∧ S.en.size ≤ maxLen ∧ S.al.size ≤ maxLen ∧ S.ye.size ≤ maxLen ∧ S.no.size ≤ maxLen
  tg : S.tg.In w
  va : S.va.In w
  pa : S.pa.In w
  ps : S.ps.In w
  ls : S.ls.In w
theorem SV.In.later {w w' : World} {S : SV} (h : S.In w) (hb : Below w.heap.size w w') : S.In w' := ⟨h.txt, PT.In.later hb h.tg, PT.In.later hb h.va, PT.In.later hb h.pa, h.ps.later hb, h.ls.later hb⟩
def isPl (k : Int) : Bool := decide (k = 3) || decide (k = 4) || decide (k = 5)
set_option maxHeartbeats 400000 in
theorem isPlace_any (k : Int) (w : World) : Calls Tryd.prog 52 #[.int .i64 k] w fun e w' => e = .returned (.bool (isPl k)) ∧ w' = w := by
  by_cases h3 : k = 3
  · subst h3
    go_enter Tryd.func52, Tryd.ntmps52
    go_wp2_with fail
    go_ret
    exact ⟨rfl, rfl⟩
  · by_cases h4 : k = 4
    · subst h4
      go_enter Tryd.func52, Tryd.ntmps52
      go_wp2_with fail
      go_ret
      exact ⟨rfl, rfl⟩
    · by_cases h5 : k = 5
      · subst h5
        go_enter Tryd.func52, Tryd.ntmps52
        go_wp2_with fail
        go_ret
        exact ⟨rfl, rfl⟩
      · have HP := hide (show isPl k = false by unfold isPl; rw [decide_eq_false h3, decide_eq_false h4, decide_eq_false h5]; rfl)
        have q3 : (k == 3) = false := by rw [beq_eq_false_iff_ne]; exact h3
        have q4 : (k == 4) = false := by rw [beq_eq_false_iff_ne]; exact h4
        have q5 : (k == 5) = false := by rw [beq_eq_false_iff_ne]; exact h5
        clear h3 h4 h5
        go_enter Tryd.func52, Tryd.ntmps52
        go_wp2_with fail
        go_ret
        exact ⟨by rw [unhide HP]; rfl, rfl⟩
def tgE (T : PT) : Int := if T.wrongX ≠ 0 then T.wrongX else if isPl T.k = true then 0 else 8
set_option maxRecDepth 100000 in
set_option maxHeartbeats 1000000 in
theorem wrongTarget_any (T : PT) (w : World) (hT : T.In w) (hS : ShapesX w) :
    Calls Tryd.prog 39 #[pv T] w fun e w' => e = .returned (.int .i64 (tgE T)) ∧ Below w.heap.size w w' := by
  have hk0 := (Below.refl w.heap.size w).alloc (Nat.le_refl _) (.cells #[.int .i64 T.k, .string T.t, .int .i64 T.n, .string T.nm, .slice T.xa T.len T.cap] 38)
  have HX := hide (expr_any T _ (PT.In.later hk0 hT) (hS.later hk0))
  have HIP := hide (isPlace_any T.k)
  have HE := hide (show tgE T = if T.wrongX ≠ 0 then T.wrongX else if isPl T.k = true then 0 else 8 from rfl)
  clear hT hS hk0
  generalize T.wrongX = er at *
  unfold pv at HX ⊢
  go_enter Tryd.func39, Tryd.ntmps39
  go_wp2_with fail
  refine (unhide HX).mono ?_
  rintro e w1 ⟨rfl, hb1⟩
  have HB1 := hide (((Below.refl w.heap.size w).alloc (Nat.le_refl _) (.cells #[.int .i64 T.k, .string T.t, .int .i64 T.n, .string T.nm, .slice T.xa T.len T.cap] 38)) |> fun h => bnext h hb1)
  have c0 : w1.cell? ⟨w.heap.size, 0, none⟩ = some (.int .i64 T.k) := by rw [cell_of_row _ _ _ _ _ _ (row_below (at_new rfl) hb1)]; rfl
  clear hb1
  by_cases h0 : er = 0
  · have q : (er == 0) = true := by rw [beq_iff_eq]; exact h0
    have HE2 := hide (show tgE T = if isPl T.k = true then 0 else 8 by rw [unhide HE, if_neg (by simp [h0])])
    clear h0 HE
    go_wp2_with fail
    refine (unhide HIP w1).mono ?_
    rintro e w1 ⟨rfl, rfl⟩
    cases hp : isPl T.k
    · rw [hp, if_neg (by decide)] at HE2
      go_wp2_with fail
      go_ret
      exact ⟨by rw [unhide HE2]; rfl, unhide HB1⟩
    · rw [hp, if_pos rfl] at HE2
      go_wp2_with fail
      go_ret
      exact ⟨by rw [unhide HE2]; rfl, unhide HB1⟩
  · have q : (er == 0) = false := by rw [beq_eq_false_iff_ne]; exact h0
    have HE2 := hide (show tgE T = er by rw [unhide HE, if_pos h0])
    clear h0 HE
    go_wp2_with fail
    go_ret
    exact ⟨by rw [unhide HE2]; rfl, unhide HB1⟩
end Go.Proofs.YtpclpjcemeckgaaDoor
