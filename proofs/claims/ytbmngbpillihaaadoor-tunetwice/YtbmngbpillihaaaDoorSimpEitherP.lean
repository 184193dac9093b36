/- Two of which either may match: what tune.either makes of them. -/
import Derived.Test.YtbmngbpillihaaaDoorSimpWalkBP
import Derived.Test.YtbmngbpillihaaaDoorSimpFewPM
import Derived.Test.YtbmngbpillihaaaDoorScanHasP
import Derived.Test.YtbmngbpillihaaaDoorWords5P
import Derived.Deep.RegionHeld3
namespace Go.Proofs.YtbmngbpillihaaaDoor
open Go.RowKit

theorem sc_zero (p : Nat → Bool) : sc p = zerosS ↔ ∀ c, c < 256 → p c = false := by
  rw [zerosS_eq]
  constructor
  · intro h c hc
    have e : ∀ k, k < 4 → wd p k = wd (fun _ => false) k := fun k hk => by
      have h1 := sc_at p k hk
      rw [h, sc_at _ k hk] at h1
      injection h1 with h1
      injection h1 with _ h1
      omega
    have h2 := congrArg (fun n => n.testBit (c % 64)) (e (c / 64) (by omega))
    simp only [wd_bit] at h2
    rw [decide_eq_true (Nat.mod_lt _ (by decide)), Bool.true_and, Bool.true_and, Nat.div_add_mod] at h2
    exact h2
  · intro h
    exact sc_congr h
theorem of_saysE (t : ByteArray) (ht : t.size ≤ maxLen) (w : World) : Calls Tryd.prog 43 #[.string t] w fun e w' => e = .returned (.agg (sc (inB t))) ∧ Below w.heap.size w w' := by
  have := of_any t w ht
  rw [show inT t t.size = inB t from funext fun b => inT_inB t b] at this
  exact this
end Go.Proofs.YtbmngbpillihaaaDoor
