/- What the law TextsTell answers, for every two texts and number: true. -/
import Derived.Test.YtcphfhkefgaalaaDoorReverse
import Derived.Test.YtcphfhkefgaalaaDoorRotate
import Derived.Test.YtcphfhkefgaalaaDoorRefReverse
import Derived.Test.YtcphfhkefgaalaaDoorRefRotate
import Derived.Test.YtcphfhkefgaalaaDoorRefTrim
import Derived.Test.YtcphfhkefgaalaaDoorRefCompare
import Derived.Test.YtcphfhkefgaalaaDoorRefCount
namespace Go.Proofs.YtcphfhkefgaalaaDoor
open Go.RowKit

set_option maxHeartbeats 1000000 in
theorem textsTell_walk (a0 : ByteArray) (a1 : ByteArray) (a2 : Int) (w0 : a0.size ≤ maxLen) (w1 : a1.size ≤ maxLen) (w2 : (Lit.int .i64 a2).wf = true) (w : World) (m : Int) (hm : w.cell? ⟨0, 0, none⟩ = some (.int .i64 m)) :
    Calls Tryd.prog 3 #[.string a0, .string a1, .int .i64 a2] w fun e w' => e = .returned (.bool true) ∧ Below w.heap.size w w' := by
  have b2 := bounds_i64 w2
  clear w2
  have HM := hide hm
  clear hm
  have C7 := hide (fun W => compare_any a0 a1 W w0 w1)
  have C8 := hide (fun W => refCompare_any a0 a1 W w0 w1)
  have C9 := hide (fun W hW => count_any a0 a1 m W w0 w1 hW)
  have C10 := hide (fun W => refCount_any a0 a1 W w0 w1)
  generalize cmpV a0 a1 = cv at *
  generalize cmpE a0 a1 = ce at *
  generalize countV a0 a1 = nv at *
  generalize countE a0 a1 = ne at *
  by_cases h0 : a0.size ≤ 65536
  · have C1 := hide (fun W => trim_ok a0 W h0)
    have C2 := hide (fun W => refTrim_ok a0 W h0)
    have C3 := hide (fun W => reverse_ok a0 W h0)
    have C4 := hide (fun W => refReverse_ok a0 W h0)
    have C5 := hide (fun W => rotate_ok a0 a2 W h0 b2.1 b2.2)
    have C6 := hide (fun W => refRotate_ok a0 a2 W h0 b2.1 b2.2)
    generalize trimT a0 = x at *
    generalize rev a0 = y at *
    generalize rot a0 a2 = z at *
    go_enter Tryd.func3, Tryd.ntmps3
    go_wp2_with fail
    refine (unhide C1 _).mono ?_
    rintro e W1 ⟨rfl, hb1⟩
    go_wp2_with fail
    refine (unhide C2 _).mono ?_
    rintro e W2 ⟨rfl, hb2⟩
    have hb2 := bnext hb1 hb2
    clear hb1
    go_wp2_with fail
    refine (unhide C3 _).mono ?_
    rintro e W3 ⟨rfl, hb3⟩
    have hb3 := bnext hb2 hb3
    clear hb2
    go_wp2_with fail
    refine (unhide C4 _).mono ?_
    rintro e W4 ⟨rfl, hb4⟩
    have hb4 := bnext hb3 hb4
    clear hb3
    go_wp2_with fail
    refine (unhide C5 _).mono ?_
    rintro e W5 ⟨rfl, hb5⟩
    have hb5 := bnext hb4 hb5
    clear hb4
    go_wp2_with fail
    refine (unhide C6 _).mono ?_
    rintro e W6 ⟨rfl, hb6⟩
    have hb6 := bnext hb5 hb6
    clear hb5
    go_wp2_with fail
    refine (unhide C7 _).mono ?_
    rintro e W7 ⟨rfl, hb7⟩
    have hb7 := bnext hb6 hb7
    clear hb6
    go_wp2_with fail
    refine (unhide C8 _).mono ?_
    rintro e W8 ⟨rfl, hb8⟩
    have hb8 := bnext hb7 hb8
    clear hb7
    go_wp2_with fail
    refine (unhide C9 _ (cell_later hb8 (unhide HM))).mono ?_
    rintro e W9 ⟨rfl, hb9⟩
    have hb9 := bnext hb8 hb9
    clear hb8
    go_wp2_with fail
    refine (unhide C10 _).mono ?_
    rintro e W10 ⟨rfl, hb10⟩
    have hb10 := bnext hb9 hb10
    clear hb9
    go_wp2
    go_ret
    exact ⟨rfl, hb10⟩
  · have hl : 65536 < a0.size := by omega
    have C1 := hide (fun W => trim_much a0 W w0 hl)
    have C2 := hide (fun W => refTrim_much a0 W w0 hl)
    have C3 := hide (fun W => reverse_much a0 W w0 hl)
    have C4 := hide (fun W => refReverse_much a0 W w0 hl)
    have C5 := hide (fun W => rotate_much a0 a2 W w0 hl)
    have C6 := hide (fun W => refRotate_much a0 a2 W w0 hl)
    go_enter Tryd.func3, Tryd.ntmps3
    go_wp2_with fail
    refine (unhide C1 _).mono ?_
    rintro e W1 ⟨rfl, hb1⟩
    go_wp2_with fail
    refine (unhide C2 _).mono ?_
    rintro e W2 ⟨rfl, hb2⟩
    have hb2 := bnext hb1 hb2
    clear hb1
    go_wp2_with fail
    refine (unhide C3 _).mono ?_
    rintro e W3 ⟨rfl, hb3⟩
    have hb3 := bnext hb2 hb3
    clear hb2
    go_wp2_with fail
    refine (unhide C4 _).mono ?_
    rintro e W4 ⟨rfl, hb4⟩
    have hb4 := bnext hb3 hb4
    clear hb3
    go_wp2_with fail
    refine (unhide C5 _).mono ?_
    rintro e W5 ⟨rfl, hb5⟩
    have hb5 := bnext hb4 hb5
    clear hb4
    go_wp2_with fail
    refine (unhide C6 _).mono ?_
    rintro e W6 ⟨rfl, hb6⟩
    have hb6 := bnext hb5 hb6
    clear hb5
    go_wp2_with fail
    refine (unhide C7 _).mono ?_
    rintro e W7 ⟨rfl, hb7⟩
    have hb7 := bnext hb6 hb7
    clear hb6
    go_wp2_with fail
    refine (unhide C8 _).mono ?_
    rintro e W8 ⟨rfl, hb8⟩
    have hb8 := bnext hb7 hb8
    clear hb7
    go_wp2_with fail
    refine (unhide C9 _ (cell_later hb8 (unhide HM))).mono ?_
    rintro e W9 ⟨rfl, hb9⟩
    have hb9 := bnext hb8 hb9
    clear hb8
    go_wp2_with fail
    refine (unhide C10 _).mono ?_
    rintro e W10 ⟨rfl, hb10⟩
    have hb10 := bnext hb9 hb10
    clear hb9
    go_wp2
    go_ret
    exact ⟨rfl, hb10⟩
end Go.Proofs.YtcphfhkefgaalaaDoor
