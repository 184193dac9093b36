/- The document's Print of a statement. -/
import Derived.Test.YtpphjddljngkmaaGreatDoorPrintExt4M
import Derived.Test.YtpphjddljngkmaaGreatDoorWrNP
namespace Go.Proofs.YtpphjddljngkmaaGreatDoor
open Go.RowKit

/-- The pattern, between its brackets, where there is one. -/
def ptB (S : SV) : ByteArray := if S.k = 4 ∨ S.k = 5 ∨ S.k = 6 then ⟨#[91]⟩ ++ ⟨S.pa.txt.toArray⟩ ++ ⟨#[93]⟩ else ⟨#[]⟩
theorem bA_pt (S : SV) : bA [ptI S] = ⟨#[91]⟩ ++ ⟨S.pa.txt.toArray⟩ ++ ⟨#[93]⟩ := by
  apply ByteArray.ext
  apply Array.ext'
  simp [bA, flt, ptI, pa, It.b]
theorem bA_lab (S : SV) : bA (if S.lab.size = 0 then [] else [wd S.lab]) = S.lab := by
  split
  · rename_i h
    rw [empty_of h]; rfl
  · exact bA_wd _
/-- What stands ahead of the ways. -/
def hdB (S : SV) : ByteArray := S.lab ++ bA (bodyI S)
def wy1 (S : SV) : ByteArray := if S.al.size = 0 then ⟨#[]⟩ else ⟨#[32, 58, 40]⟩ ++ S.al ++ ⟨#[41]⟩
def wy2 (S : SV) : ByteArray := if S.ye.size = 0 then (if S.no.size = 0 then ⟨#[]⟩ else ⟨#[32, 58, 70, 40]⟩ ++ S.no ++ ⟨#[41]⟩) else (if S.no.size = 0 then ⟨#[32, 58, 83, 40]⟩ ++ S.ye ++ ⟨#[41]⟩ else ⟨#[32, 58, 83, 40]⟩ ++ S.ye ++ ⟨#[41, 70, 40]⟩ ++ S.no ++ ⟨#[41]⟩)
theorem ways_bA {S : SV} (h : WayOK S) : bA (waysI S) = wy1 S ++ wy2 S := by
  have e0 : (⟨#[]⟩ : ByteArray) = ByteArray.empty := rfl
  unfold waysI wy1 wy2 wayI
  by_cases ha : S.al.size = 0
  · by_cases hy : S.ye.size = 0
    · by_cases hn : S.no.size = 0
      · rw [if_pos ⟨ha, hy, hn⟩, if_pos ha, if_pos hy, if_pos hn]; rfl
      · rw [if_neg (fun q => hn q.2.2), if_pos ha, if_pos ha, if_pos hy, if_pos hy, if_neg hn, if_neg hn]
        apply ByteArray.ext
        apply Array.ext'
        simp [bA, flt, It.b, bl, sg, wd, sgn]
    · by_cases hn : S.no.size = 0
      · rw [if_neg (fun q => hy q.2.1), if_pos ha, if_pos ha, if_neg hy, if_neg hy, if_pos hn, if_pos hn]
        apply ByteArray.ext
        apply Array.ext'
        simp [bA, flt, It.b, bl, sg, wd, sgn]
      · rw [if_neg (fun q => hy q.2.1), if_pos ha, if_pos ha, if_neg hy, if_neg hy, if_neg hn, if_neg hn]
        apply ByteArray.ext
        apply Array.ext'
        simp [bA, flt, It.b, bl, sg, wd, sgn]
  · obtain ⟨hy, hn⟩ := h.one ha
    rw [if_neg (fun q => ha q.1), if_neg ha, if_neg ha, if_pos hy, if_pos hn, if_pos hy, if_pos hn]
    apply ByteArray.ext
    apply Array.ext'
    simp [bA, flt, It.b, bl, sg, wd, sgn]
theorem st_bA {S : SV} (h : WayOK S) : bA (stI S) = hdB S ++ wy1 S ++ wy2 S := by
  unfold stI hdB
  rw [bA_app, bA_app, bA_lab, ways_bA h, ByteArray.append_assoc, ByteArray.append_assoc]
theorem exI_one (T : PT) : T.atl 1 = T.exI := by
  unfold PT.atl
  rw [decide_eq_false (by have := lev_ge T.k; omega)]
  rfl
end Go.Proofs.YtpphjddljngkmaaGreatDoor
