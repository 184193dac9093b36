/- What pats.Print answers; PatsPrint's walk: the document's Print answers the same. -/
import Derived.Test.YtccnomomdfjpmaaDoorPrintPat4P
import Derived.Test.YtccnomomdfjpmaaDoorOpenPat6P
import Derived.Lib.LaidTab
import Derived.Deep.DeepHandedRow
import Derived.Stop.LaidErr
namespace Go.Proofs.YtccnomomdfjpmaaDoor
open Go.RowKit

theorem Ready.later {w w' : World} (h : Ready w) (hb : Below w.heap.size w w') : Ready w' := by
  obtain ⟨m, hm⟩ := h.lim
  exact ⟨h.shapes.later hb, ⟨m, cell_later hb hm⟩, Lib.tabBelow_of_tabIs (h.pow w' hb)⟩
theorem out_str4 {w : World} {B : Nat} {v : Value} {l : List UInt8} (ho : Bytes w B v l) :
    (convert 39 9 v).run Tryd.prog w = .ok (.string ⟨l.toArray⟩) w := by
  rcases ho.2 with ⟨rfl, h0⟩ | ⟨g, cap, cur, rfl, _, _, _, _, _, _⟩
  · have : l = [] := List.eq_nil_of_length_eq_zero h0
    subst this
    exact run_convert_bytes_nil (P := Tryd.prog) w 39 5 Tryd.underlying39 Tryd.underlying5 0 0 9 Tryd.underlying9
  · exact run_convert_bytes_back (P := Tryd.prog) w 39 9 5 ⟨g, 0, none⟩ cap l Tryd.underlying39 Tryd.underlying5 Tryd.underlying9 (fun j hj => World.ownsRow.cells ho rfl j _ (by simp only [List.getElem?_map, List.getElem?_eq_getElem hj, Option.map_some, bc]))
set_option maxRecDepth 100000 in
set_option maxHeartbeats 2000000 in
theorem print_any (T : PT) (w : World) (hR : Ready w) (hT : T.In w) :
    Calls Tryd.prog 6 #[pv T] w fun e w' => e = .returned (printSaid T) ∧ Below w.heap.size w w' := by
  have HW := hide (fun W (h : Below w.heap.size w W) => wrong_any T W (PT.In.later h hT) (hR.shapes.later h))
  have hk0 := (Below.refl w.heap.size w).alloc (Nat.le_refl _) (.cells #[.int .i64 T.k, .string T.t, .int .i64 T.n, .string T.nm, .slice T.xa T.len T.cap] 24)
  have HP := hide (fun W (h : Below w.heap.size w W) hb hc => pat_any T w W (.slice none 0 0) [] hR hT h hb (World.ownsRow_nil _ _ _ _) (by show max 0 196700 + _ ≤ _; omega) hc)
  unfold pv at HW ⊢
  clear hT hR
  go_enter Tryd.func6, Tryd.ntmps6
  go_wp2_with fail
  refine (unhide HW _ hk0).mono ?_
  rintro e w1 ⟨rfl, hb1⟩
  have H1 := hide (bnext hk0 hb1)
  obtain ⟨c0, c1, c2, c3, c4⟩ := cells5s (row_below (at_new rfl) hb1)
  clear hk0 hb1 HW
  by_cases hz : T.wrong = 0
  · have HC := hide (wrong_nought hz)
    have HS := hide (show printSaid T = (if 65536 < T.txt.length then .tuple #[.string ⟨#[]⟩, .int .i64 4] else .tuple #[.string ⟨T.txt.toArray⟩, .int .i64 0]) by unfold printSaid; rw [if_pos hz])
    rw [hz]
    clear hz
    go_wp2_with fail
    refine (unhide HP _ (unhide H1) (unhide HC).1 (unhide HC).2).mono ?_
    rintro e w2 ⟨v2, r2, rfl, hb2, -, hB2, hg2⟩
    have H2 := hide hB2
    have hlen := len_own4 hb2
    have hout := out_str4 hb2
    have hs := hg2.same
    have hl := hg2.long
    rw [List.nil_append] at hs hl
    clear c0 c1 c2 c3 c4 hB2
    by_cases hq : 65536 < T.txt.length
    · have h1 : (65536 : Int) < (r2.length : Int) := by have := hl hq; omega
      have HE := hide (show printSaid T = .tuple #[.string ⟨#[]⟩, .int .i64 4] by rw [unhide HS, if_pos hq])
      clear hq hs hl hg2 hb2
      go_wp2_with fail
      go_ret2
      exact ⟨by rw [unhide HE]; rfl, unhide H2⟩
    · have e := hs (by omega)
      subst e
      have h1 : ¬ (65536 : Int) < (T.txt.length : Int) := by omega
      have HE := hide (show printSaid T = .tuple #[.string ⟨T.txt.toArray⟩, .int .i64 0] by rw [unhide HS, if_neg hq])
      generalize T.txt = tx at *
      clear hq hs hl hg2 hb2
      go_wp2_with fail
      go_ret2
      exact ⟨by rw [unhide HE]; rfl, unhide H2⟩
  · have HS := hide (show printSaid T = .tuple #[.string ⟨#[]⟩, .int .i64 T.wrong] by unfold printSaid; rw [if_neg hz])
    have hne : (T.wrong != 0) = true := by rw [bne_iff_ne]; exact hz
    clear hz
    go_wp2_with fail
    go_ret2
    exact ⟨by rw [unhide HS]; rfl, unhide H1⟩
end Go.Proofs.YtccnomomdfjpmaaDoor
