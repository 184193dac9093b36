/- A set among the arguments: opened into its four words, and shut again. -/
import Derived.Test.YtgamnhmkimonnaaAlive3
import Derived.ProofKit
import Derived.OpenShut
import Derived.Laws.IdiomArrays
namespace Go.Proofs.Ytgamnhmkimonnaa
open Go.ChangeShapes Go.WideShapes Go.ChangeAt Go.RowKit

theorem array4 {C : Array Value} (h : C.size = 4) : ∃ a b c d, C = #[a, b, c, d] := by
  obtain ⟨l⟩ := C
  match l, h with
  | [a, b, c, d], _ => exact ⟨a, b, c, d, rfl⟩
variable {H : Type} {enc : TypeId × Value → H} {w : World} {base : Nat} {spare : Nat → Bool} {held : Bool}
theorem open_set {r : Reach} {b0 : Nat} {v : Value} {d : DataW H} {ps : List MemPlace} (hv : Value.okWide Try.prog w r b0 24 v) (h : DataW.Trod enc Try.prog w base spare held 24 v d ps) :
    ∃ p : Nat → Bool, v = sv p ∧ ps = [] ∧ d = .agg [.lit (.int .u64 (wd p 0 : Int)), .lit (.int .u64 (wd p 1 : Int)), .lit (.int .u64 (wd p 2 : Int)), .lit (.int .u64 (wd p 3 : Int))] := by
  obtain ⟨cs, rfl, hsz⟩ : ∃ cs, v = .agg cs ∧ cs.size = Try.prog.cellsOf 24 := by
    simp only [Value.okWide, Try.underlying24] at hv
    obtain ⟨cs, h1, h2, _⟩ := hv
    exact ⟨cs, h1, h2⟩
  obtain ⟨a, b, c, e, rfl⟩ := array4 (hsz.trans cells_set)
  obtain ⟨fuel, hf⟩ := h
  obtain ⟨y0, y1, y2, y3, m, hx, hy0, hy1, hy2, hy3⟩ := trod_array4 Try.underlying24 cells_u64 hf
  obtain ⟨x0, e0, rfl, w0⟩ := DataW.trod_int Try.underlying22 hy0
  obtain ⟨x1, e1, rfl, w1⟩ := DataW.trod_int Try.underlying22 hy1
  obtain ⟨x2, e2, rfl, w2⟩ := DataW.trod_int Try.underlying22 hy2
  obtain ⟨x3, e3, rfl, w3⟩ := DataW.trod_int Try.underlying22 hy3
  simp at e0 e1 e2 e3
  subst e0 e1 e2 e3
  simp only [Prod.mk.injEq] at hx
  obtain ⟨rfl, rfl⟩ := hx
  have b0 := bounds_u64 w0
  have b1 := bounds_u64 w1
  have b2 := bounds_u64 w2
  have b3 := bounds_u64 w3
  have hs := sc_of x0.toNat x1.toNat x2.toNat x3.toNat (by omega) (by omega) (by omega) (by omega)
  refine ⟨ofWords x0.toNat x1.toNat x2.toNat x3.toNat, ?_, rfl, ?_⟩
  · unfold sv
    rw [hs]
    unfold u64v
    rw [Int.toNat_of_nonneg b0.1, Int.toNat_of_nonneg b1.1, Int.toNat_of_nonneg b2.1, Int.toNat_of_nonneg b3.1]
  · have k0 := congrArg (·[0]?) hs
    have k1 := congrArg (·[1]?) hs
    have k2 := congrArg (·[2]?) hs
    have k3 := congrArg (·[3]?) hs
    simp [sc, u64v] at k0 k1 k2 k3
    rw [k0, k1, k2, k3, Int.max_eq_left b0.1, Int.max_eq_left b1.1, Int.max_eq_left b2.1, Int.max_eq_left b3.1]
theorem shut_set (p : Nat → Bool) : DataW.Trod enc Try.prog w base spare held 24 (sv p) (.agg [.lit (.int .u64 (wd p 0 : Int)), .lit (.int .u64 (wd p 1 : Int)), .lit (.int .u64 (wd p 2 : Int)), .lit (.int .u64 (wd p 3 : Int))]) [] := by
  refine ⟨2, ?_⟩
  have w0 := wf_u64 _ (wd_lt p 0)
  have w1 := wf_u64 _ (wd_lt p 1)
  have w2 := wf_u64 _ (wd_lt p 2)
  have w3 := wf_u64 _ (wd_lt p 3)
  have r4 : List.range 4 = [0, 1, 2, 3] := rfl
  rw [sv_lit]
  simp [Value.cells, DataW.trod, Try.underlying24, Try.underlying22, cells_set, cells_u64, r4, w0, w1, w2, w3]
end Go.Proofs.Ytgamnhmkimonnaa
