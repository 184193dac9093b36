/- What the law SetsReckon answers, for every two sets, text and byte: true. -/
import Derived.Test.YtgamnhmkimonnaaReckonAbs
import Derived.Test.YtgamnhmkimonnaaTwoW1
import Derived.Test.YtgamnhmkimonnaaTwoW2
import Derived.Test.YtgamnhmkimonnaaTwoW3
import Derived.Test.YtgamnhmkimonnaaTwoW4
import Derived.Test.YtgamnhmkimonnaaRefOf3
import Derived.Test.YtgamnhmkimonnaaRefText3
import Derived.Test.YtgamnhmkimonnaaText
import Derived.Test.YtgamnhmkimonnaaSetNot
import Derived.OpenShut
namespace Go.Proofs.Ytgamnhmkimonnaa
open Go.RowKit

theorem setsReckon_walk (p q : Nat → Bool) (t : ByteArray) (c : Int) (ht : t.size ≤ maxLen) (hc : (Lit.int .u8 c).wf = true) (w : World) :
    Calls Try.prog 3 #[sv p, sv q, .string t, .int .u8 c] w fun e w' => e = .returned (.bool true) ∧ Below w.heap.size w w' := by
  have b := bounds_u8 hc
  obtain ⟨k, rfl⟩ : ∃ k : Nat, c = (k : Int) := ⟨c.toNat, (Int.toNat_of_nonneg b.1).symm⟩
  have hk : k < 256 := by omega
  exact reckon_abs (wd p 0) (wd p 1) (wd p 2) (wd p 3) (wd q 0) (wd q 1) (wd q 2) (wd q 3) (cnt p 256) k p _ t (bl p)
    (sc (inT t t.size)) (sc fun c => p c || q c) (sc fun c => p c && q c) (sc fun c => p c && !q c) (sc fun c => !p c)
    (fun W => of_any t W ht) (fun W => refOf_any t W ht) (fun W => text_any p W) (fun W => refText_any p W) (fun W => size_any p W) (fun W => has_any p k hk W) (fun W => bytes_any p W)
    (fun W => union_any p q W) (fun W => two_1 (wd p 0) (wd p 1) (wd p 2) (wd p 3) (wd q 0) (wd q 1) (wd q 2) (wd q 3) (bl p) (bl q) W (bl_size p) (bl_size q) (bl_one p) (bl_one q) p q (bl_at p) (bl_at q) (fun W => bytes_any p W) (fun W => bytes_any q W))
    (fun W => meet_any p q W) (fun W => two_2 (wd p 0) (wd p 1) (wd p 2) (wd p 3) (wd q 0) (wd q 1) (wd q 2) (wd q 3) (bl p) (bl q) W (bl_size p) (bl_size q) (bl_one p) (bl_one q) p q (bl_at p) (bl_at q) (fun W => bytes_any p W) (fun W => bytes_any q W))
    (fun W => less_any p q W) (fun W => two_3 (wd p 0) (wd p 1) (wd p 2) (wd p 3) (wd q 0) (wd q 1) (wd q 2) (wd q 3) (bl p) (bl q) W (bl_size p) (bl_size q) (bl_one p) (bl_one q) p q (bl_at p) (bl_at q) (fun W => bytes_any p W) (fun W => bytes_any q W))
    (fun W => not_any p W) (fun W => two_4 (wd p 0) (wd p 1) (wd p 2) (wd p 3) (wd p 0) (wd p 1) (wd p 2) (wd p 3) (bl p) (bl p) W (bl_size p) (bl_size p) (bl_one p) (bl_one p) p p (bl_at p) (bl_at p) (fun W => bytes_any p W) (fun W => bytes_any p W))
    (fun W => eq_set _ W) (fun W => eq_set _ W) (fun W => eq_set _ W) (fun W => eq_set _ W) (fun W => eq_set _ W) hk rfl (bl_at p) w
end Go.Proofs.Ytgamnhmkimonnaa
