/- The walk of the law on what makes texts: copying, replacing, cutting, filling up. -/
import Derived.Test.YtcphfhkefgaalaaRefReplace
import Derived.Test.YtcphfhkefgaalaaRefSubstr
import Derived.Test.YtcphfhkefgaalaaRefPad
namespace Go.Proofs.Ytcphfhkefgaalaa
open Go.RowKit

set_option maxHeartbeats 1000000 in
theorem textsMake_walk (a0 : ByteArray) (a1 : ByteArray) (a2 : ByteArray) (a3 : Int) (a4 : Int) (w0 : a0.size ≤ maxLen) (w1 : a1.size ≤ maxLen) (w2 : a2.size ≤ maxLen) (w3 : (Lit.int .i64 a3).wf = true) (w4 : (Lit.int .i64 a4).wf = true) (w : World) :
    Calls Try.prog 3 #[.string a0, .string a1, .string a2, .int .i64 a3, .int .i64 a4] w fun e w' => e = .returned (.bool true) ∧ Below w.heap.size w w' := by
  have b3 := bounds_i64 w3
  have b4 := bounds_i64 w4
  clear w3 w4
  have C1 := hide (fun W => dupl_any a0 a4 W w0 b4.2)
  have C2 := hide (fun W => refDupl_any a0 a4 W w0 b4.2)
  have C3 := hide (fun W => replace_any a0 a1 a2 W w0 w1 w2)
  have C4 := hide (fun W => refReplace_any a0 a1 a2 W w0 w1 w2)
  have C5 := hide (fun W => substr_any a0 a3 a4 W w0 b3.1 b3.2)
  have C6 := hide (fun W => refSubstr_any a0 a3 a4 W w0 b3.1 b3.2)
  have C7 := hide (fun W => lpad_any a0 a4 a1 W w0 w1 b4.1 b4.2)
  have C8 := hide (fun W => refLpad_any a0 a4 a1 W w0 w1 b4.1)
  have C9 := hide (fun W => rpad_any a0 a4 a2 W w0 w2 b4.1 b4.2)
  have C10 := hide (fun W => refRpad_any a0 a4 a2 W w0 w2 b4.1)
  generalize duplV a0 a4 = v1 at *
  generalize duplE a0 a4 = e1 at *
  generalize replV a0 a1 a2 = v2 at *
  generalize replE a0 a1 a2 = e2 at *
  generalize subV a0 a3 a4 = v3 at *
  generalize subE a0 a3 a4 = e3 at *
  generalize lpadV a0 a4 a1 = v4 at *
  generalize padE a0 a4 a1 = e4 at *
  generalize rpadV a0 a4 a2 = v5 at *
  generalize padE a0 a4 a2 = e5 at *
  clear b3 b4
  go_enter Try.func3, Try.ntmps3
  go_wp2_with fail
  refine (unhide C1 _).mono ?_
  rintro e W1 ⟨rfl, hb1⟩
  go_wp2_with fail
  refine (unhide C2 _).mono ?_
  rintro e W2 ⟨rfl, hb2⟩
  have hb2 := bnext hb1 hb2
  clear hb1
  go_wp2_with fail
  refine (unhide C3 _).mono ?_
  rintro e W3 ⟨rfl, hb3⟩
  have hb3 := bnext hb2 hb3
  clear hb2
  go_wp2_with fail
  refine (unhide C4 _).mono ?_
  rintro e W4 ⟨rfl, hb4⟩
  have hb4 := bnext hb3 hb4
  clear hb3
  go_wp2_with fail
  refine (unhide C5 _).mono ?_
  rintro e W5 ⟨rfl, hb5⟩
  have hb5 := bnext hb4 hb5
  clear hb4
  go_wp2_with fail
  refine (unhide C6 _).mono ?_
  rintro e W6 ⟨rfl, hb6⟩
  have hb6 := bnext hb5 hb6
  clear hb5
  go_wp2_with fail
  refine (unhide C7 _).mono ?_
  rintro e W7 ⟨rfl, hb7⟩
  have hb7 := bnext hb6 hb7
  clear hb6
  go_wp2_with fail
  refine (unhide C8 _).mono ?_
  rintro e W8 ⟨rfl, hb8⟩
  have hb8 := bnext hb7 hb8
  clear hb7
  go_wp2_with fail
  refine (unhide C9 _).mono ?_
  rintro e W9 ⟨rfl, hb9⟩
  have hb9 := bnext hb8 hb9
  clear hb8
  go_wp2_with fail
  refine (unhide C10 _).mono ?_
  rintro e W10 ⟨rfl, hb10⟩
  have hb10 := bnext hb9 hb10
  clear hb9
  go_wp2_with fail
  go_ret
  exact ⟨rfl, hb10⟩
end Go.Proofs.Ytcphfhkefgaalaa
