/- What pats.Print answers; PatsPrint's walk: the document's Print answers the same. -/
import Derived.Test.YtnbcklkomdalgaaDoorPrintPat4
import Derived.Test.YtnbcklkomdalgaaDoorOpenPat6
import Derived.Lib.LaidTab
import Derived.Deep.DeepHandedRow
import Derived.Stop.LaidErr
namespace Go.Proofs.YtnbcklkomdalgaaDoor
open Go.RowKit

theorem Ready.later {w w' : World} (h : Ready w) (hb : Below w.heap.size w w') : Ready w' := by
  obtain ⟨m, hm⟩ := h.lim
  exact ⟨h.shapes.later hb, ⟨m, cell_later hb hm⟩, Lib.tabBelow_of_tabIs (h.pow w' hb)⟩
theorem out_str4 {w : World} {B : Nat} {v : Value} {l : List UInt8} (ho : Bytes w B v l) :
    (convert 39 9 v).run Tryd.prog w = .ok (.string ⟨l.toArray⟩) w := by
  rcases ho.2 with ⟨rfl, h0⟩ | ⟨g, cap, cur, rfl, _, _, _, _, _, _⟩
  · have : l = [] := List.eq_nil_of_length_eq_zero h0
    subst this
    exact run_convert_bytes_nil (P := Tryd.prog) w 39 5 Tryd.underlying39 Tryd.underlying5 0 0 9 Tryd.underlying9
  · exact run_convert_bytes_back (P := Tryd.prog) w 39 9 5 ⟨g, 0, none⟩ cap l Tryd.underlying39 Tryd.underlying5 Tryd.underlying9 (fun j hj => World.ownsRow.cells ho rfl j _ (by simp only [List.getElem?_map, List.getElem?_eq_getElem hj, Option.map_some, bc]))
set_option maxRecDepth 100000 in
set_option maxHeartbeats 2000000 in
theorem print_any (T : PT) (w : World) (hR : Ready w) (hT : T.In w) :
    Calls Tryd.prog 6 #[pv T] w fun e w' => e = .returned (printSaid T) ∧ Below w.heap.size w w' := by
  have HW := hide (fun W (h : Below w.heap.size w W) => wrong_any T W (PT.In.later h hT) (hR.shapes.later h))
  have hk0 := (Below.refl w.heap.size w).alloc (Nat.le_refl _) (.cells #[.int .i64 T.k, .string T.t, .int .i64 T.n, .string T.nm, .slice T.xa T.len T.cap] 24)
  have HP := hide (fun W (h : Below w.heap.size w W) hb hc => pat_any T w W (.slice none 0 0) [] hR hT h hb (World.ownsRow_nil _ _ _ _) (by show max 0 196700 + _ ≤ _; omega) hc)
  unfold pv at HW ⊢
  clear hT hR
  go_enter Tryd.func6, Tryd.ntmps6
  go_wp2_with fail
  refine (unhide HW _ hk0).mono ?_
  rintro e w1 ⟨rfl, hb1⟩
  have H1 := hide (bnext hk0 hb1)
  obtain ⟨c0, c1, c2, c3, c4⟩ := cells5s (row_below (at_new rfl) hb1)
  clear hk0 hb1 HW
  by_cases hz : T.wrong = 0
  · have HC := hide (wrong_nought hz)
    have HS := hide (show printSaid T = (if 65536 < T.txt.length then .tuple #[.string ⟨#[]⟩, .int .i64 4] else .tuple #[.string ⟨T.txt.toArray⟩, .int .i64 0]) by unfold printSaid; rw [if_pos hz])
    rw [hz]
    clear hz
    go_wp2_with fail
    refine (unhide HP _ (unhide H1) (unhide HC).1 (unhide HC).2).mono ?_
    rintro e w2 ⟨v2, r2, rfl, hb2, -, hB2, hg2⟩
    have H2 := hide hB2
    have hlen := len_own4 hb2
    have hout := out_str4 hb2
    have hs := hg2.same
    have hl := hg2.long
    rw [List.nil_append] at hs hl
    clear c0 c1 c2 c3 c4 hB2
    by_cases hq : 65536 < T.txt.length
    · have h1 : (65536 : Int) < (r2.length : Int) := by have := hl hq; omega
      have HE := hide (show printSaid T = .tuple #[.string ⟨#[]⟩, .int .i64 4] by rw [unhide HS, if_pos hq])
      clear hq hs hl hg2 hb2
      go_wp2_with fail
      go_ret2
      exact ⟨by rw [unhide HE]; rfl, unhide H2⟩
    · have e := hs (by omega)
      subst e
      have h1 : ¬ (65536 : Int) < (T.txt.length : Int) := by omega
      have HE := hide (show printSaid T = .tuple #[.string ⟨T.txt.toArray⟩, .int .i64 0] by rw [unhide HS, if_neg hq])
      generalize T.txt = tx at *
      clear hq hs hl hg2 hb2
      go_wp2_with fail
      go_ret2
      exact ⟨by rw [unhide HE]; rfl, unhide H2⟩
  · have HS := hide (show printSaid T = .tuple #[.string ⟨#[]⟩, .int .i64 T.wrong] by unfold printSaid; rw [if_neg hz])
    have hne : (T.wrong != 0) = true := by rw [bne_iff_ne]; exact hz
    clear hz
    go_wp2_with fail
    go_ret2
    exact ⟨by rw [unhide HS]; rfl, unhide H1⟩
theorem said_two (T : PT) : ∃ (s : ByteArray) (e : Int), printSaid T = .tuple #[.string s, .int .i64 e] := by
  unfold printSaid
  split
  · split
    · exact ⟨_, _, rfl⟩
    · exact ⟨_, _, rfl⟩
  · exact ⟨_, _, rfl⟩
set_option maxRecDepth 100000 in
set_option maxHeartbeats 2000000 in
theorem patsPrint_walk (T : PT) (w : World) (hT : T.In w) (hR : Ready w) (hN : T.cnt ≤ 1048576) :
    Calls Tryd.prog 3 #[pv T] w fun e w' => e = .returned (.bool true) ∧ Below w.heap.size w w' := by
  obtain ⟨s, er, hsd⟩ := said_two T
  have hk0 := (Below.refl w.heap.size w).alloc (Nat.le_refl _) (.cells #[.int .i64 T.k, .string T.t, .int .i64 T.n, .string T.nm, .slice T.xa T.len T.cap] 24)
  have HP := hide (fun W (h : Below w.heap.size w W) => print_any T W (hR.later h) (PT.In.later h hT))
  have HD := hide (fun W (h : Below w.heap.size w W) => refPrint_any T W (PT.In.later h hT) hN)
  rw [hsd] at HP HD
  unfold pv at HP HD ⊢
  clear hT hR hsd
  go_enter Tryd.func3, Tryd.ntmps3
  go_wp2_with fail
  refine (unhide HP _ hk0).mono ?_
  rintro e w1 ⟨rfl, hb1⟩
  have H1 := hide (bnext hk0 hb1)
  obtain ⟨c0, c1, c2, c3, c4⟩ := cells5s (row_below (at_new rfl) hb1)
  clear hk0 hb1
  go_wp2_with fail
  refine (unhide HD _ (unhide H1)).mono ?_
  rintro e w2 ⟨rfl, hb2⟩
  have H2 := hide (bnext (unhide H1) hb2)
  clear hb2 c0 c1 c2 c3 c4
  go_wp2_with fail
  go_ret
  exact ⟨by simp, unhide H2⟩
theorem tabs_print {w : World} (h : laidMetH Tryd.prog Rows.patsPrintUptoRow.laid w) : Shapes w ∧ Lib.TabIs Tryd.prog w "internal/strconv.uint64pow10" .u64 Lib.pow10Tab := by
  have e : (Rows.patsPrintUptoRow.laid.filter fun x => x.2.handleName?.isSome) = [] := by kernel_rfl
  have h' : laidMet Tryd.prog Rows.patsPrintUptoRow.laid w := by
    have hp := h
    unfold laidMetH at hp
    rw [e] at hp
    exact hp
  refine ⟨shapes_of (rest := _) (laidMet.tail (laidMet.tail (laidMet.tail (laidMet.tail h')))), ?_⟩
  exact Lib.tabIs_of_head (g := 4) (t := 120) (e := 97) (n := 20) (by kernel_rfl) (by kernel_rfl) Tryd.underlying120 Tryd.underlying97 (by kernel_rfl) (by kernel_rfl) (rest := _) (show laidMet Tryd.prog (("internal/strconv.uint64pow10", Lib.tabData .u64 Lib.pow10Tab) :: _) w from h'.tail.tail)
set_option maxRecDepth 100000 in
theorem open_argCnt {H : Type} {enc : TypeId × Value → H} {W : World} {base : Nat} {v : Value} {d : DataW H} {p : List MemPlace}
    (hval : Value.okWide Tryd.prog W .any base 24 v) (h : DataW.Trod enc Tryd.prog W 0 (fun _ => true) true 24 v d p) : ∃ T : PT, T.In W ∧ v = pv T ∧ T.cnt ≤ Rows.uptoBulk d := by
  obtain ⟨cs, rfl, hsz⟩ : ∃ cs, v = .agg cs ∧ cs.size = Tryd.prog.cellsOf 24 := by
    simp only [Value.okWide, Tryd.underlying24] at hval
    obtain ⟨cs, h1, h2, _⟩ := hval
    exact ⟨cs, h1, h2⟩
  obtain ⟨fuel, hf⟩ := h
  obtain ⟨T, hT, hrow, hcnt⟩ := open_pat _ fuel _ d p (Nat.le_refl _) hf
  refine ⟨T, hT, ?_, hcnt⟩
  unfold pv
  have : cs.toList = [.int .i64 T.k, .string T.t, .int .i64 T.n, .string T.nm, .slice T.xa T.len T.cap] := hrow
  rw [← this]
end Go.Proofs.YtnbcklkomdalgaaDoor
