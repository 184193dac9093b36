/- Who has more time comes to the same: what look finds with other fuel. And what is found first is the first way. -/
import Derived.Test.YtbmngbpillihaaaDoorScanWrongRM
import Derived.Test.YtbmngbpillihaaaDoorScanNextP
import Derived.BigRegion
import Derived.Deep.QuietTactic
import Derived.BigQuiet
import Derived.Deep.OwnRows
import Derived.Test.YtbmngbpillihaaaDoorScanWaysRP
import Derived.Test.YtbmngbpillihaaaDoorScanRootsM
import Derived.Laws.ResultCell
namespace Go.Proofs.YtbmngbpillihaaaDoor
open Go.RowKit

theorem en_thn {p q : Sq} (hp : p.2 ≤ 3) (hq : q.2 ≤ 3) : (thn p q).2 ≤ 3 := by
  unfold thn
  split
  · exact hq
  · exact hp
theorem en_bnd {n : Nat} {f : Nat → List Gft → Sq} (hn : n ≤ 3) (hf : ∀ e g, (f e g).2 ≤ 3) : ∀ l, (bnd l n f).2 ≤ 3
  | [] => hn
  | x :: l => by
    rw [bnd]
    split
    · exact en_thn (hf _ _) (en_bnd hn hf l)
    · exact en_bnd hn hf l
theorem en_bd {q : Sq} {f : Nat → List Gft → Sq} (hq : q.2 ≤ 3) (hf : ∀ e g, (f e g).2 ≤ 3) : (bd q f).2 ≤ 3 := en_bnd hq hf q.1
theorem en_alts {f : PT → Nat → List Gft → Sq} {T : PT} {i : Nat} {g : List Gft} (hf : ∀ U i g, (f U i g).2 ≤ 3) : ∀ m j, (alts f T i g m j).2 ≤ 3
  | 0, _ => by rw [alts]; decide
  | m + 1, j => by rw [alts]; exact en_thn (hf _ _ _) (en_alts hf m (j + 1))
theorem en_cats {f : PT → Nat → List Gft → Sq} {T : PT} (hf : ∀ U i g, (f U i g).2 ≤ 3) : ∀ m j i g, (cats f T m j i g).2 ≤ 3
  | 0, j, i, g => by rw [cats]; exact hf _ _ _
  | m + 1, j, i, g => by rw [cats]; exact en_bd (hf _ _ _) fun e g' => en_cats hf m (j + 1) e g'
theorem en_agn {f : PT → Nat → List Gft → Sq} {T : PT} (hf : ∀ U i g, (f U i g).2 ≤ 3) : ∀ m i g, (agn f T m i g).2 ≤ 3
  | 0, _, _ => by rw [agn]; decide
  | m + 1, i, g => by
    rw [agn]
    refine en_bd (hf _ _ _) fun e g' => ?_
    show (ite (e = i) nil (agn f T m e g')).2 ≤ 3
    split
    · decide
    · exact en_agn hf m e g'
theorem en_ite {c : Prop} [Decidable c] {p q : Sq} (hp : p.2 ≤ 3) (hq : q.2 ≤ 3) : (if c then p else q).2 ≤ 3 := by
  split
  · exact hp
  · exact hq
section
variable {s : ByteArray} {R : ByteArray → Option PT} {dg : Nat → ByteArray}
theorem D_end : ∀ n T i g, (D s R dg n T i g).2 ≤ 3
  | 0, _, _, _ => by rw [D]; decide
  | n + 1, T, i, g => by
    have ih : ∀ U i g, (D s R dg n U i g).2 ≤ 3 := D_end n
    rw [D]
    refine en_ite (by decide) (en_ite (by show 1 ≤ 3; decide) (en_ite (en_agn ih _ _ _) (en_ite (en_alts ih _ _) (en_ite (by rw [arbs_end]; decide) (en_ite (by rw [bxs_end]; decide) (en_ite (by rw [bls_end]; decide) (en_ite (en_cats ih _ _ _ _) (en_ite (en_bd (ih _ _ _) fun _ _ => by show 0 ≤ 3; decide) (en_ite (en_bd (ih _ _ _) fun _ _ => by show 0 ≤ 3; decide) (en_ite ?_ (en_ite (by show 0 ≤ 3; decide) ?_)))))))))))
    · split
      · exact ih _ _ _
      · decide
    · split
      · show 0 ≤ 3; decide
      · decide
end
end Go.Proofs.YtbmngbpillihaaaDoor
