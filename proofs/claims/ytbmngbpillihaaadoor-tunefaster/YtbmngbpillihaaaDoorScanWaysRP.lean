/- What slices.Clone makes of gifts: a row of its own with the same. What Ways does: what is wrong, or the ways that are told. Are gifts the same? What Ways answers of anything. All ways there are, if they can be told; have two patterns the same ways? What can be told whole: the ways of a pattern, as an algebra. Patterns that are made of others. -/
import Derived.Test.YtbmngbpillihaaaDoorScanSimM
import Derived.Lib.BufferMore
import Derived.Test.YtbmngbpillihaaaDoorScanWrongRM
import Derived.Test.YtbmngbpillihaaaDoorScanNextP
import Derived.Deep.RegionHeld3
import Derived.Deep.QuietTactic
import Derived.BigQuiet
import Derived.Test.YtbmngbpillihaaaDoorScanRootsM
namespace Go.Proofs.YtbmngbpillihaaaDoor
open Go.RowKit

def ItoaSays (dg : Nat → ByteArray) (Wd : World) : Prop := ∀ n : Nat, n ≤ 65536 → ∀ W, Below Wd.heap.size Wd W → Calls Tryd.prog 97 #[.int .i64 (n : Int)] W fun e w' => e = .returned (.string (dg n)) ∧ Below W.heap.size W w'
def RulesFine (RL : List (ByteArray × PT)) : Prop := ∀ (i : Nat) (R : ByteArray × PT), RL[i]? = some R → FineS R.2 ∧ NZ R.2 ∧ R.2.cnt ≤ 4096
theorem unl_new : ∀ n, unl (List.replicate n (-1)) = n
  | 0 => rfl
  | n + 1 => by
    have := unl_new n
    unfold unl at this ⊢
    rw [List.replicate_succ, List.filter_cons, if_pos (by decide), List.length_cons, this]
theorem rooted_new (X : Ctx) (N : List Nd) : Rooted X N (List.replicate X.RL.length (-1)) := ⟨List.length_replicate, fun r z hz => by
  rw [List.getElem?_replicate] at hz
  split at hz
  · injection hz with hz
    exact .inl hz.symm
  · cases hz⟩
theorem rc_new {X : Ctx} {v : Value} (h1 : X.Wd.heap.size ≤ X.B) (hV : RVal X.Wd X.RL v) (hrv : X.RL ≠ [] → X.m0.rv = v) (hl : X.RL.length ≤ 64) (hF : RulesFine X.RL) (e1 : X.rn = fun nm => ruleAt nm X.RL 0) (e2 : X.R = fun nm => ruleOf nm X.RL) (hI : ItoaSays X.dg X.Wd) (hr : X.m0.room ≤ 100000000000) (hy : X.y ≤ 5000) : RC X :=
  ⟨h1, fun q => by
    rcases hV.2 with ⟨z, -⟩ | ⟨b, o, cap, z, -, h3⟩
    · exact absurd z q
    · exact ⟨b, o, cap, h3, by rw [hrv q, z]⟩, hl, hF, e1, e2, hI, hr, hy⟩
theorem fresh_ns {w : World} {s : ByteArray} {N : List Nd} (h : Fresh 0 N) : NS w s N := fun i x hx => by
  obtain ⟨h1, h2⟩ := h i x (Nat.zero_le _) hx
  exact ⟨(fun b hb => by rw [h1] at hb; cases hb), (fun q => .inl (h2 (by omega))), (fun q => .inl (h2 (by omega)))⟩
end Go.Proofs.YtbmngbpillihaaaDoor

namespace Go.Proofs.YtbmngbpillihaaaDoor
open Go.RowKit

set_option maxRecDepth 100000 in
set_option maxHeartbeats 1000000 in
theorem sameGifts_same {w : World} {B B' : Nat} {v v' : Value} {G : List Gft} (h : Row w B 74 2 gfV v G) (h' : Row w B' 74 2 gfV v' G) :
    Calls Tryd.prog 18 #[v, v'] w fun e w' => e = .returned (.bool true) ∧ Below w.heap.size w w' := by
  obtain ⟨a, cap, hv, -, hca⟩ := h.len
  obtain ⟨a', cap', hv', -, hca'⟩ := h'.len
  have HA := hide (And.intro h (And.intro h' (And.intro hv hv')))
  have hmax := h.max
  unfold maxLen at hmax
  rw [hv, hv']
  clear h h' hv hv'
  go_enter Tryd.func18, Tryd.ntmps18
  go_wp2_with fail
  go_loopw [13] (fun i wr => ∃ k : Nat, k ≤ G.length ∧ i = .int .i64 (k : Int) ∧ Below w.heap.size w wr) (fun i _ => G.length - (intOf i).toNat)
  case atStart => exact ⟨0, Nat.zero_le _, rfl, Below.refl _ _⟩
  case round =>
    obtain ⟨k, hk, rfl, hb⟩ := hrel
    rcases Nat.lt_or_ge k G.length with hlt | hge
    · have hlt' : (k : Int) < (G.length : Int) := by omega
      obtain ⟨h, h', hv, hv'⟩ := unhide HA
      obtain ⟨g, c2, hg, -⟩ := h.form (by intro e; rw [e] at hlt; simp at hlt)
      obtain ⟨g', c2', hg', -⟩ := h'.form (by intro e; rw [e] at hlt; simp at hlt)
      rw [hv] at hg
      rw [hv'] at hg'
      injection hg with hg1 hg2 hg3
      injection hg' with hg1' hg2' hg3'
      subst hg1 hg1' hg3 hg3'
      obtain ⟨x, hx⟩ : ∃ x, G[k]? = some x := ⟨_, List.getElem?_eq_getElem hlt⟩
      have hr := h.later hb
      have hr' := h'.later hb
      have o0 : wr.cell? ⟨g, k * 2, none⟩ = some (.string x.1) := hr.cell gfV_len hv hx (k := 0) rfl
      have o1 : wr.cell? ⟨g, k * 2 + 1, none⟩ = some (.string x.2) := hr.cell gfV_len hv hx (k := 1) rfl
      have p0 : wr.cell? ⟨g', k * 2, none⟩ = some (.string x.1) := hr'.cell gfV_len hv' hx (k := 0) rfl
      have p1 : wr.cell? ⟨g', k * 2 + 1, none⟩ = some (.string x.2) := hr'.cell gfV_len hv' hx (k := 1) rfl
      have i0 := idx_run (g := g) (n := G.length) (cap := cap) Tryd.underlying44 size_gift hlt
      have i1 := idx_run (g := g') (n := G.length) (cap := cap') Tryd.underlying44 size_gift hlt
      have HBB := hide hb
      clear h h' hv hv' hr hr' hx hb
      go_wp2_with fail
      go_quiet (fail)
      go_wp2_with fail
      go_roundw
      case rel => exact ⟨k + 1, by omega, by simp, below_drewN (unhide HBB) _⟩
      case measure => simp [intOf]; omega
    · have hge' : ¬ (k : Int) < (G.length : Int) := by omega
      go_wp2_with fail
      go_ret
      exact ⟨rfl, hb⟩
end Go.Proofs.YtbmngbpillihaaaDoor

namespace Go.Proofs.YtbmngbpillihaaaDoor
open Go.RowKit

theorem ItoaSays.later {dg : Nat → ByteArray} {w w' : World} (h : ItoaSays dg w) (hb : Below w.heap.size w w') : ItoaSays dg w' := fun n hn W hW => h n hn W (bnext hb hW)
end Go.Proofs.YtbmngbpillihaaaDoor

namespace Go.Proofs.YtbmngbpillihaaaDoor
open Go.RowKit

section
variable (s : ByteArray) (R : ByteArray → Option PT) (dg : Nat → ByteArray)
def W (n : Nat) (T : PT) (i : Nat) (g : List Gft) : Sq := onlyW (D s R dg n T i g)
end

end Go.Proofs.YtbmngbpillihaaaDoor
