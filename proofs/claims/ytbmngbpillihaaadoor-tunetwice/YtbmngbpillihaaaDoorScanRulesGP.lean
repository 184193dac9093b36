/- Which rule has a name. What is wrong with rules; rules as a value. What is right: patterns and rules of which nothing is told. -/
import Derived.Test.YtbmngbpillihaaaDoorScanFillGP
import Derived.Test.YtbmngbpillihaaaDoorScanRepM
import Derived.Deep.QuietTactic
import Derived.BigQuiet
import Derived.Test.YtbmngbpillihaaaDoorPatBelowP
import Derived.Deep.RegionHeld3
import Derived.Test.YtbmngbpillihaaaDoorScanSimRP
namespace Go.Proofs.YtbmngbpillihaaaDoor
open Go.RowKit

theorem named_size {s : ByteArray} (h : named s = true) : s.size ≤ 16 := by
  unfold named at h
  rw [Bool.and_eq_true, decide_eq_true_eq] at h
  exact h.1
theorem errN_ok {T : PT} (h : errN T = 0) : okS T.k T.t T.n T.len ∧ T.k ≠ 0 ∧ ((21 ≤ T.k ∧ T.k ≤ 24) → T.nm.size ≤ 1000000) := by
  unfold errN at h
  split at h
  · exact absurd h (by decide)
  split at h
  · exact absurd h (by decide)
  split at h
  · exact absurd h (by decide)
  split at h
  · exact absurd h (by decide)
  split at h
  · exact absurd h (by decide)
  split at h
  · exact absurd h (by decide)
  rename_i h1 h2 h3 h4 h5 h6
  have hk : 1 ≤ T.k ∧ T.k ≤ 24 := by omega
  refine ⟨⟨hk, fun q => ?_, fun q => ?_, fun q => ?_, fun q => ?_⟩, by omega, fun q => ?_⟩
  · have : hasK T.k = 1 := by unfold hasK; rw [if_pos q]
    have := fun z => h2 ⟨this, z⟩
    omega
  · have : hasK T.k = 2 := by unfold hasK; rw [if_neg (by omega), if_pos q]
    have := fun z => h4 ⟨this, z⟩
    omega
  · have : leastK T.k = 2 := by unfold leastK; rw [if_pos q]
    omega
  · have e1 : leastK T.k = 1 := by unfold leastK; rw [if_neg (by omega), if_pos (by omega)]
    have e2 : mostK T.k = 1 := by unfold mostK; rw [if_neg (by omega), if_pos (by omega)]
    omega
  · have : hasK T.k = 3 := by unfold hasK; rw [if_neg (by omega), if_neg (by omega), if_pos q]
    have hn : named T.nm = true := by
      cases z : named T.nm with
      | true => rfl
      | false => exact absurd ⟨this, z⟩ h5
    have := named_size hn
    omega
theorem firstTo_zero {f : Nat → Int} : ∀ {n : Nat}, firstTo f n = 0 → ∀ i, i < n → f i = 0
  | 0, _, i, hi => by omega
  | n + 1, h, i, hi => by
    rw [firstTo] at h
    split at h
    · rename_i h0
      rcases Nat.lt_or_ge i n with q | q
      · exact firstTo_zero h0 i q
      · rw [show i = n by omega]; exact h
    · contradiction
theorem fine_of : ∀ T : PT, T.bad = 0 → FineS T ∧ NZ T := PT.ind fun T ih h => by
  rw [T.bad_eq] at h
  split at h
  · rename_i h0
    obtain ⟨h1, h2⟩ := errN_ok h0
    have hk := fun i hi => ih i hi (firstTo_zero h i hi)
    obtain ⟨k, t, n, nm, xa, b, o, len, cap, kids⟩ := T
    exact ⟨⟨h1, fun j => by have := (hk j.1 j.2).1; rwa [PT.kid_at (T := .node k t n nm xa b o len cap kids) j.2] at this⟩, ⟨h2, fun j => by have := (hk j.1 j.2).2; rwa [PT.kid_at (T := .node k t n nm xa b o len cap kids) j.2] at this⟩⟩
  · contradiction
theorem right_of {T : PT} (h : T.wrong = 0) : FineS T ∧ NZ T ∧ T.cnt ≤ 4096 := by
  unfold PT.wrong at h
  split at h
  · rename_i q
    unfold PT.fits at q
    rw [Bool.and_eq_true, decide_eq_true_eq] at q
    exact ⟨(fine_of T h).1, (fine_of T h).2, q.1⟩
  · exact absurd h (by decide)
end Go.Proofs.YtbmngbpillihaaaDoor
