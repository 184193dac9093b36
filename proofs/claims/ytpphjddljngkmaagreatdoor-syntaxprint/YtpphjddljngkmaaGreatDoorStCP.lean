/- Statements: what is wrong with one. -/
import Derived.Test.YtpphjddljngkmaaGreatDoorStBM
import Derived.Deep.Cut
import Derived.Deep.CutRange
namespace Go.Proofs.YtpphjddljngkmaaGreatDoor
open Go.RowKit

def okL (t : ByteArray) : Bool := t.toList.isEmpty || named t
def SV.dfE (S : SV) : Int := if fst0 [nmsE [S.nm, S.en], nmsE S.ps.l, nmsE S.ls.l] = 0 ∧ (8 < S.ps.l.length ∨ 8 < S.ls.l.length) then 5 else fst0 [nmsE [S.nm, S.en], nmsE S.ps.l, nmsE S.ls.l]
/-- What is wrong with what a statement's kind has. -/
def SV.kndE (S : SV) : Int :=
  if S.k = 1 then 0
  else if S.k = 2 then S.va.wrongX
  else if S.k = 4 then fst0 [S.va.wrongX, S.pa.wrong]
  else if S.k = 3 then fst0 [tgE S.tg, S.va.wrongX]
  else if S.k = 5 then fst0 [tgE S.tg, S.pa.wrong, S.va.wrongX]
  else if S.k = 6 then fst0 [nmsE [S.nm], S.pa.wrong]
  else if S.k = 7 then S.dfE
  else 1
def SV.lbl (S : SV) : List ByteArray := [S.lab, S.al, S.ye, S.no]
def SV.wrong (S : SV) : Int :=
  if S.lbl.all okL = true then (if S.al.toList.isEmpty = false ∧ (S.ye.toList.isEmpty = false ∨ S.no.toList.isEmpty = false) then 8 else S.kndE) else 7
theorem size_stmt : (Tryz.prog.info? 33).map (·.size) = some 24 := by kernel_rfl
theorem okl_take {l : List ByteArray} {k : Nat} (h : (l.take k).all okL = true) {t : ByteArray} (ht : l[k]? = some t) (hn : okL t = true) : (l.take (k + 1)).all okL = true := by
  rw [List.take_add_one, ht]
  simp only [Option.toList_some, List.all_append, h, List.all_cons, hn, List.all_nil, Bool.and_self]
theorem okl_not {l : List ByteArray} {k : Nat} {t : ByteArray} (ht : l[k]? = some t) (hn : okL t = false) : l.all okL = false := by
  rw [← Bool.not_eq_true, List.all_eq_true]
  intro h
  rw [h t (List.mem_of_getElem? ht)] at hn
  cases hn
theorem nl_at {W : World} {g : Nat} {cs : Array Value} {l : List ByteArray} (hg : W.heap[g]? = some (.cells cs 9 (0, 0))) (hcs : cs = (l.map fun t => Value.string t).toArray) (hl : ∀ t ∈ l, t.size ≤ maxLen) (hn : l.length ≤ 100) : NL.In W ⟨some ⟨g, 0, none⟩, g, 0, l.length, l⟩ :=
  ⟨Nat.le_refl _, by show l.length ≤ maxLen; unfold maxLen; omega, fun _ => rfl, fun i t ht => ⟨by
    rw [Nat.zero_add, cell_of_row _ _ _ _ _ _ hg, hcs]
    have ht : l[i]? = some t := ht
    simp [ht], hl t (List.mem_of_getElem? ht)⟩⟩
theorem errs_at {w : World} {g : Nat} {t : TypeId} {l : List Int} (h : w.heap[g]? = some (.cells (l.map fun n => Value.int .i64 n).toArray t (0, 0))) : ∀ i x, l[i]? = some x → w.cell? ⟨g, i, none⟩ = some (.int .i64 x) := fun i x hx => by
  rw [cell_of_row _ _ _ _ _ _ h]
  simp [hx]
set_option maxRecDepth 100000 in
set_option maxHeartbeats 4000000 in
theorem wrongDefine_any (S : SV) (w : World) (hS : S.In w) :
    Calls Tryz.prog 21 #[S.v] w fun e w' => e = .returned (.int .i64 S.dfE) ∧ Below w.heap.size w w' := by
  have HI := hide hS
  clear hS
  unfold SV.v SV.cells NL.v
  obtain ⟨w1, hw1⟩ : ∃ w1, w1 = w.alloc (.cells #[.string S.lab, .int .i64 S.k, .int .i64 S.tg.k, .string S.tg.t, .int .i64 S.tg.n, .string S.tg.nm, .slice S.tg.xa S.tg.len S.tg.cap, .int .i64 S.va.k, .string S.va.t, .int .i64 S.va.n, .string S.va.nm, .slice S.va.xa S.va.len S.va.cap, .int .i64 S.pa.k, .string S.pa.t, .int .i64 S.pa.n, .string S.pa.nm, .slice S.pa.xa S.pa.len S.pa.cap, .string S.nm, .string S.en, .slice S.ps.xa S.ps.l.length S.ps.cap, .slice S.ls.xa S.ls.l.length S.ls.cap, .string S.al, .string S.ye, .string S.no] 33) := ⟨_, rfl⟩
  have hb1 : Below w.heap.size w w1 := by rw [hw1]; exact ba _
  have hr1 : w1.heap[w.heap.size]? = some (.cells #[.string S.lab, .int .i64 S.k, .int .i64 S.tg.k, .string S.tg.t, .int .i64 S.tg.n, .string S.tg.nm, .slice S.tg.xa S.tg.len S.tg.cap, .int .i64 S.va.k, .string S.va.t, .int .i64 S.va.n, .string S.va.nm, .slice S.va.xa S.va.len S.va.cap, .int .i64 S.pa.k, .string S.pa.t, .int .i64 S.pa.n, .string S.pa.nm, .slice S.pa.xa S.pa.len S.pa.cap, .string S.nm, .string S.en, .slice S.ps.xa S.ps.l.length S.ps.cap, .slice S.ls.xa S.ls.l.length S.ls.cap, .string S.al, .string S.ye, .string S.no] 33 (0, 0)) := by rw [hw1]; exact at_new rfl
  have hsz1 : w1.heap.size = w.heap.size + 1 := by rw [hw1, World.size_alloc]
  have HB1 := hide hb1
  have HWN : Hid (Calls Tryz.prog 20 #[.slice (some ⟨w1.heap.size, 0, none⟩) 2 2] (w1.alloc (.cells #[.string S.nm, .string S.en] 9)).drew fun e w' => e = .returned (.int .i64 (nmsE [S.nm, S.en])) ∧ Below w1.heap.size w1 w') := hide ((wrongNames_any ⟨some ⟨w1.heap.size, 0, none⟩, w1.heap.size, 0, 2, [S.nm, S.en]⟩ _ (nl_at (l := [S.nm, S.en]) (show (w1.alloc (.cells #[.string S.nm, .string S.en] 9)).drew.heap[w1.heap.size]? = some (.cells #[.string S.nm, .string S.en] 9 (0, 0)) from at_new rfl) rfl (fun t ht => by
      simp only [List.mem_cons, List.not_mem_nil, or_false] at ht
      rcases ht with rfl | rfl
      · exact (unhide HI).txt.2.1
      · exact (unhide HI).txt.2.2.1) (by simp))).mono fun e w' q => ⟨q.1, q.2 ▸ (ba _).drew⟩)
  have HPS := hide (fun W (h : Below w1.heap.size w1 W) => (show Calls Tryz.prog 20 #[.slice S.ps.xa S.ps.l.length S.ps.cap] W fun e w' => e = .returned (.int .i64 (nmsE S.ps.l)) ∧ w' = W from wrongNames_any S.ps W (((unhide HI).ps.later (unhide HB1)).later h)))
  have HLS := hide (fun W (h : Below w1.heap.size w1 W) => (show Calls Tryz.prog 20 #[.slice S.ls.xa S.ls.l.length S.ls.cap] W fun e w' => e = .returned (.int .i64 (nmsE S.ls.l)) ∧ w' = W from wrongNames_any S.ls W (((unhide HI).ls.later (unhide HB1)).later h)))
  have c17 : w1.cell? ⟨w.heap.size, 17, none⟩ = some (.string S.nm) := cr hr1
  have c18 : w1.cell? ⟨w.heap.size, 18, none⟩ = some (.string S.en) := cr hr1
  have c19 : w1.cell? ⟨w.heap.size, 19, none⟩ = some (.slice S.ps.xa S.ps.l.length S.ps.cap) := cr hr1
  have c20 : w1.cell? ⟨w.heap.size, 20, none⟩ = some (.slice S.ls.xa S.ls.l.length S.ls.cap) := cr hr1
  have HSZ := hide hsz1
  have HW1 := hide hw1
  have hpm := (unhide HI).ps.max
  have hpc := (unhide HI).ps.cap
  have hlm := (unhide HI).ls.max
  have hlc := (unhide HI).ls.cap
  unfold maxLen at hpm hlm
  have HDF : Hid (S.dfE = if fst0 [nmsE [S.nm, S.en], nmsE S.ps.l, nmsE S.ls.l] = 0 ∧ (8 < S.ps.l.length ∨ 8 < S.ls.l.length) then 5 else fst0 [nmsE [S.nm, S.en], nmsE S.ps.l, nmsE S.ls.l]) := hide (rfl)
  have HRW : Hid (w.alloc (.cells #[.string S.lab, .int .i64 S.k, .int .i64 S.tg.k, .string S.tg.t, .int .i64 S.tg.n, .string S.tg.nm, .slice S.tg.xa S.tg.len S.tg.cap, .int .i64 S.va.k, .string S.va.t, .int .i64 S.va.n, .string S.va.nm, .slice S.va.xa S.va.len S.va.cap, .int .i64 S.pa.k, .string S.pa.t, .int .i64 S.pa.n, .string S.pa.nm, .slice S.pa.xa S.pa.len S.pa.cap, .string S.nm, .string S.en, .slice S.ps.xa S.ps.l.length S.ps.cap, .slice S.ls.xa S.ls.l.length S.ls.cap, .string S.al, .string S.ye, .string S.no] 33) = w1) := hide (hw1.symm)
  generalize S.ps.l.length = np at *
  generalize S.ls.l.length = nl at *
  clear hw1 hb1 hr1 hsz1
  generalize nmsE [S.nm, S.en] = n1 at *
  generalize nmsE S.ps.l = n2 at *
  generalize nmsE S.ls.l = n3 at *
  have HKP : Hid (∀ w' : World, Below w1.heap.size w1 w' → (w'.cell? ⟨w.heap.size, 17, none⟩ = some (.string S.nm) ∧ w'.cell? ⟨w.heap.size, 18, none⟩ = some (.string S.en) ∧ w'.cell? ⟨w.heap.size, 19, none⟩ = some (.slice S.ps.xa np S.ps.cap) ∧ w'.cell? ⟨w.heap.size, 20, none⟩ = some (.slice S.ls.xa nl S.ls.cap))) := hide (fun w' h => ⟨cell_later h c17, cell_later h c18, cell_later h c19, cell_later h c20⟩)
  have hA : Below w1.heap.size w1 w1.drew := (Below.refl _ _).drew
  go_enter Tryz.func21, Tryz.ntmps21
  go_wp2_with fail
  rw [show w.alloc (.cells #[.string S.lab, .int .i64 S.k, .int .i64 S.tg.k, .string S.tg.t, .int .i64 S.tg.n, .string S.tg.nm, .slice S.tg.xa S.tg.len S.tg.cap, .int .i64 S.va.k, .string S.va.t, .int .i64 S.va.n, .string S.va.nm, .slice S.va.xa S.va.len S.va.cap, .int .i64 S.pa.k, .string S.pa.t, .int .i64 S.pa.n, .string S.pa.nm, .slice S.pa.xa S.pa.len S.pa.cap, .string S.nm, .string S.en, .slice S.ps.xa np S.ps.cap, .slice S.ls.xa nl S.ls.cap, .string S.al, .string S.ye, .string S.no] 33) = w1 from unhide HRW]
  go_region_held3 (fun w' => w'.cell? ⟨w.heap.size, 17, none⟩ = some (.string S.nm) ∧ w'.cell? ⟨w.heap.size, 18, none⟩ = some (.string S.en) ∧ w'.cell? ⟨w.heap.size, 19, none⟩ = some (.slice S.ps.xa np S.ps.cap) ∧ w'.cell? ⟨w.heap.size, 20, none⟩ = some (.slice S.ls.xa nl S.ls.cap))
    (first | exact unhide HKP _ hA | exact unhide HKP _ (hA.alloc (by have := hA.size; omega) _))
    (first
      | (go_at_call 20; (with_reducible refine (unhide HWN).mono ?_); rintro e w7 ⟨rfl, hb7⟩; have hA := hb7; clear hb7)
      | (go_at_call 20; (with_reducible refine (unhide HPS _ hA).mono ?_); rintro e w7 ⟨rfl, rfl⟩)
      | (go_at_call 20; (with_reducible refine (unhide HLS _ hA).mono ?_); rintro e w7 ⟨rfl, rfl⟩)
      | (go_at_call 17; refine (first_any [n1, n2, n3] _ _ (by simp) (errs_at (at_new rfl))).mono ?_; rintro e w7 ⟨rfl, rfl⟩; have hA := hA.alloc (by have := hA.size; omega) (.cells #[.int .i64 n1, .int .i64 n2, .int .i64 n3] 26)))
  obtain ⟨-, -, d19, d20⟩ := unhide HKP _ hA
  have HBZ := hide (bnext (unhide HB1) hA)
  clear c17 c18 c19 c20 hA
  generalize fst0 [n1, n2, n3] = er at *
  by_cases h0 : er = 0
  · have q : (er == 0) = true := bt h0
    by_cases h1 : 8 < np
    · have HE : Hid (S.dfE = 5) := hide (by rw [unhide HDF, if_pos ⟨h0, .inl h1⟩])
      have g1 : (8 : Int) < (np : Int) := by omega
      clear h0 h1 HDF
      go_wp2_with fail
      go_ret
      exact ⟨by rw [unhide HE]; rfl, unhide HBZ⟩
    · by_cases h2 : 8 < nl
      · have HE : Hid (S.dfE = 5) := hide (by rw [unhide HDF, if_pos ⟨h0, .inr h2⟩])
        have g1 : ¬ (8 : Int) < (np : Int) := by omega
        have g2 : (8 : Int) < (nl : Int) := by omega
        clear h0 h1 h2 HDF
        go_wp2_with fail
        go_ret
        exact ⟨by rw [unhide HE]; rfl, unhide HBZ⟩
      · have HE : Hid (S.dfE = er) := hide (by rw [unhide HDF, if_neg (fun h => by rcases h.2 with h | h; exact h1 h; exact h2 h)])
        have g1 : ¬ (8 : Int) < (np : Int) := by omega
        have g2 : ¬ (8 : Int) < (nl : Int) := by omega
        clear h0 h1 h2 HDF
        go_wp2_with fail
        go_ret
        exact ⟨by rw [unhide HE]; rfl, unhide HBZ⟩
  · have q : (er == 0) = false := bn h0
    have HE : Hid (S.dfE = er) := hide (by rw [unhide HDF, if_neg (fun h => h0 h.1)])
    clear h0 HDF
    go_wp2_with fail
    go_ret
    exact ⟨by rw [unhide HE]; rfl, unhide HBZ⟩
set_option maxRecDepth 100000 in
set_option maxHeartbeats 16000000 in
theorem stmt_any (S : SV) (w : World) (hS : S.In w) (hX : ShapesX w) (hP : Shapes w) :
    Calls Tryz.prog 6 #[S.v] w fun e w' => e = .returned (.int .i64 S.wrong) ∧ Below w.heap.size w w' := by
  have HI := hide hS
  have htx := hS.txt
  have HSH := hide (And.intro hX hP)
  clear hS hX hP
  have HKK : Hid (S.k = 1 ∨ S.k = 2 ∨ S.k = 4 ∨ S.k = 3 ∨ S.k = 5 ∨ S.k = 6 ∨ S.k = 7 ∨ (S.k < 1 ∨ 7 < S.k)) := hide (by omega)
  unfold SV.v SV.cells NL.v
  go_enter Tryz.func6, Tryz.ntmps6
  go_wp2_with fail
  obtain ⟨w1, hw1⟩ : ∃ w1, w1 = (w.alloc (.cells #[.string S.lab, .int .i64 S.k, .int .i64 S.tg.k, .string S.tg.t, .int .i64 S.tg.n, .string S.tg.nm, .slice S.tg.xa S.tg.len S.tg.cap, .int .i64 S.va.k, .string S.va.t, .int .i64 S.va.n, .string S.va.nm, .slice S.va.xa S.va.len S.va.cap, .int .i64 S.pa.k, .string S.pa.t, .int .i64 S.pa.n, .string S.pa.nm, .slice S.pa.xa S.pa.len S.pa.cap, .string S.nm, .string S.en, .slice S.ps.xa S.ps.l.length S.ps.cap, .slice S.ls.xa S.ls.l.length S.ls.cap, .string S.al, .string S.ye, .string S.no] 33)).alloc (.cells #[.string S.lab, .string S.al, .string S.ye, .string S.no] 9) := ⟨_, rfl⟩
  rw [← hw1]
  have hb1 : Below w.heap.size w w1 := by rw [hw1]; exact (ba _).alloc (by rw [World.size_alloc]; omega) _
  have hsz1 : w1.heap.size = w.heap.size + 1 + 1 := by rw [hw1, World.size_alloc, World.size_alloc]
  have hr1 : w1.heap[w.heap.size]? = some (.cells #[.string S.lab, .int .i64 S.k, .int .i64 S.tg.k, .string S.tg.t, .int .i64 S.tg.n, .string S.tg.nm, .slice S.tg.xa S.tg.len S.tg.cap, .int .i64 S.va.k, .string S.va.t, .int .i64 S.va.n, .string S.va.nm, .slice S.va.xa S.va.len S.va.cap, .int .i64 S.pa.k, .string S.pa.t, .int .i64 S.pa.n, .string S.pa.nm, .slice S.pa.xa S.pa.len S.pa.cap, .string S.nm, .string S.en, .slice S.ps.xa S.ps.l.length S.ps.cap, .slice S.ls.xa S.ls.l.length S.ls.cap, .string S.al, .string S.ye, .string S.no] 33 (0, 0)) := by rw [hw1]; exact at_old (by rw [World.size_alloc]; omega) (at_new rfl)
  have hl1 : w1.heap[w.heap.size + 1]? = some (.cells #[.string S.lab, .string S.al, .string S.ye, .string S.no] 9 (0, 0)) := by rw [hw1]; exact at_new (by rw [World.size_alloc])
  have HB1 := hide hb1
  have HR1 := hide hr1
  have HC : Hid (∀ i t, S.lbl[i]? = some t → w1.cell? ⟨w.heap.size + 1, i, none⟩ = some (.string t) ∧ t.size ≤ maxLen) := hide (fun i t ht => by
    rw [cell_of_row _ _ _ _ _ _ hl1]
    match i, ht with
    | 0, ht => obtain rfl : S.lab = t := by simpa [SV.lbl] using ht
               exact ⟨rfl, htx.1⟩
    | 1, ht => obtain rfl : S.al = t := by simpa [SV.lbl] using ht
               exact ⟨rfl, htx.2.2.2.1⟩
    | 2, ht => obtain rfl : S.ye = t := by simpa [SV.lbl] using ht
               exact ⟨rfl, htx.2.2.2.2.1⟩
    | 3, ht => obtain rfl : S.no = t := by simpa [SV.lbl] using ht
               exact ⟨rfl, htx.2.2.2.2.2⟩
    | i + 4, ht => simp [SV.lbl] at ht)
  have HW : Hid (S.wrong = if S.lbl.all okL = true then (if S.al.toList.isEmpty = false ∧ (S.ye.toList.isEmpty = false ∨ S.no.toList.isEmpty = false) then 8 else S.kndE) else 7) := hide (rfl)
  have HLL : Hid (S.lbl.length = 4) := hide (rfl)
  have HSZ1 := hide hsz1
  clear hw1 hb1 hr1 hl1 htx hsz1
  generalize S.lbl = LL at *
  go_loop [15] (fun i => ∃ k : Nat, k ≤ 4 ∧ i = .int .i64 (k : Int) ∧ Hid ((LL.take k).all okL = true)) (fun i => 4 - (intOf i).toNat)
  case atStart => exact ⟨0, by omega, rfl, rfl⟩
  case round =>
    obtain ⟨k, hk, rfl, HT⟩ := hrel
    rcases Nat.lt_or_ge k 4 with hlt | hge
    · obtain ⟨t, ht⟩ : ∃ t, LL[k]? = some t := ⟨LL[k]'(by have := unhide HLL; omega), List.getElem?_eq_getElem _⟩
      obtain ⟨ct, hts⟩ := unhide HC k t ht
      have HNA := hide (named_any t w1 hts)
      have HS1 := hide (fun h => okl_take (unhide HT) ht h)
      have HS0 := hide (fun h => okl_not ht h)
      clear ht hts
      have hg : (k : Int) < 4 := by omega
      have hix := sl_idx (g := w.heap.size + 1) (o := 0) (cap := 4) (i := k) (n := 4) Tryz.underlying31 size_strS hlt
      rw [Nat.zero_add] at hix
      cases hemp : t.toList.isEmpty
      · cases hq : named t
        · have HE : Hid (S.wrong = 7) := hide (by rw [unhide HW, unhide HS0 (by unfold okL; rw [hemp, hq]; rfl), if_neg (by decide)])
          rw [hq] at HNA
          clear hq HS1 HS0
          go_wp2_with fail
          refine (unhide HNA).mono ?_
          rintro e w1 ⟨rfl, rfl⟩
          go_wp2_with fail
          go_ret
          exact ⟨by rw [unhide HE]; rfl, unhide HB1⟩
        · have HA := hide (unhide HS1 (by unfold okL; rw [hq, Bool.or_true]))
          rw [hq] at HNA
          clear hq HS1 HS0
          go_wp2_with fail
          refine (unhide HNA).mono ?_
          rintro e w1 ⟨rfl, rfl⟩
          go_wp2_with fail
          exact ⟨⟨k + 1, by omega, rfl, unhide HA⟩, by simp [intOf]; omega⟩
      · have HA := hide (unhide HS1 (by unfold okL; rw [hemp, Bool.true_or]))
        clear HS1 HS0
        go_wp2_with fail
        exact ⟨⟨k + 1, by omega, rfl, unhide HA⟩, by simp [intOf]; omega⟩
    · obtain rfl : k = 4 := by omega
      have HW2 : Hid (S.wrong = if S.al.toList.isEmpty = false ∧ (S.ye.toList.isEmpty = false ∨ S.no.toList.isEmpty = false) then 8 else S.kndE) := hide (by
        have h := unhide HT
        rw [← unhide HLL, List.take_length] at h
        rw [unhide HW, if_pos h])
      clear HW HT HC HLL hk hge
      have c0 : w1.cell? ⟨w.heap.size, 0, none⟩ = some (.string S.lab) := cr (unhide HR1)
      have c1 : w1.cell? ⟨w.heap.size, 1, none⟩ = some (.int .i64 S.k) := cr (unhide HR1)
      have c2 : w1.cell? ⟨w.heap.size, 2, none⟩ = some (.int .i64 S.tg.k) := cr (unhide HR1)
      have c3 : w1.cell? ⟨w.heap.size, 3, none⟩ = some (.string S.tg.t) := cr (unhide HR1)
      have c4 : w1.cell? ⟨w.heap.size, 4, none⟩ = some (.int .i64 S.tg.n) := cr (unhide HR1)
      have c5 : w1.cell? ⟨w.heap.size, 5, none⟩ = some (.string S.tg.nm) := cr (unhide HR1)
      have c6 : w1.cell? ⟨w.heap.size, 6, none⟩ = some (.slice S.tg.xa S.tg.len S.tg.cap) := cr (unhide HR1)
      have c7 : w1.cell? ⟨w.heap.size, 7, none⟩ = some (.int .i64 S.va.k) := cr (unhide HR1)
      have c8 : w1.cell? ⟨w.heap.size, 8, none⟩ = some (.string S.va.t) := cr (unhide HR1)
      have c9 : w1.cell? ⟨w.heap.size, 9, none⟩ = some (.int .i64 S.va.n) := cr (unhide HR1)
      have c10 : w1.cell? ⟨w.heap.size, 10, none⟩ = some (.string S.va.nm) := cr (unhide HR1)
      have c11 : w1.cell? ⟨w.heap.size, 11, none⟩ = some (.slice S.va.xa S.va.len S.va.cap) := cr (unhide HR1)
      have c12 : w1.cell? ⟨w.heap.size, 12, none⟩ = some (.int .i64 S.pa.k) := cr (unhide HR1)
      have c13 : w1.cell? ⟨w.heap.size, 13, none⟩ = some (.string S.pa.t) := cr (unhide HR1)
      have c14 : w1.cell? ⟨w.heap.size, 14, none⟩ = some (.int .i64 S.pa.n) := cr (unhide HR1)
      have c15 : w1.cell? ⟨w.heap.size, 15, none⟩ = some (.string S.pa.nm) := cr (unhide HR1)
      have c16 : w1.cell? ⟨w.heap.size, 16, none⟩ = some (.slice S.pa.xa S.pa.len S.pa.cap) := cr (unhide HR1)
      have c17 : w1.cell? ⟨w.heap.size, 17, none⟩ = some (.string S.nm) := cr (unhide HR1)
      have c18 : w1.cell? ⟨w.heap.size, 18, none⟩ = some (.string S.en) := cr (unhide HR1)
      have c19 : w1.cell? ⟨w.heap.size, 19, none⟩ = some (.slice S.ps.xa S.ps.l.length S.ps.cap) := cr (unhide HR1)
      have c20 : w1.cell? ⟨w.heap.size, 20, none⟩ = some (.slice S.ls.xa S.ls.l.length S.ls.cap) := cr (unhide HR1)
      have c21 : w1.cell? ⟨w.heap.size, 21, none⟩ = some (.string S.al) := cr (unhide HR1)
      have c22 : w1.cell? ⟨w.heap.size, 22, none⟩ = some (.string S.ye) := cr (unhide HR1)
      have c23 : w1.cell? ⟨w.heap.size, 23, none⟩ = some (.string S.no) := cr (unhide HR1)
      obtain ⟨bb, hbb⟩ : ∃ bb : Bool, bb = (!S.al.toList.isEmpty && (!S.ye.toList.isEmpty || !S.no.toList.isEmpty)) := ⟨_, rfl⟩
      have HE0 : Hid (S.wrong = if bb = true then 8 else S.kndE) := hide (by rw [unhide HW2, hbb]; cases S.al.toList.isEmpty <;> cases S.ye.toList.isEmpty <;> cases S.no.toList.isEmpty <;> simp)
      have HBB := hide hbb
      clear hbb HW2
      go_upto_region 7 with fail
      go_cut [39] from 27 (fun s39 wx => s39 = .bool bb ∧ w1 = wx)
      case first =>
        have hbb := unhide HBB
        clear HBB HE0 HKK
        cases ha : S.al.toList.isEmpty <;> cases hy : S.ye.toList.isEmpty <;> cases hn : S.no.toList.isEmpty <;> (rw [ha, hy, hn] at hbb; go_wp2_with fail; go_meet; case rel => exact ⟨by rw [hbb]; rfl, rfl⟩)
      case rest =>
        obtain ⟨rfl, rfl⟩ := hcut
        clear HBB
        cases bb
        · have HE : Hid (S.wrong = S.kndE) := hide (by rw [unhide HE0, if_neg (by decide)])
          clear HE0
          rcases unhide HKK with HK | HK | HK | HK | HK | HK | HK | HK
          · replace HK := hide HK
            clear HKK
            as_aux_lemma =>
              have hk := unhide HK
              have HE : Hid (S.wrong = 0) := hide (by rw [unhide HE, SV.kndE, if_pos hk])
              have e1 : (S.k == 1) = true := bt hk
              clear hk
              go_wp2_with fail
              go_ret
              exact ⟨by rw [unhide HE]; rfl, unhide HB1⟩
          · replace HK := hide HK
            clear HKK
            as_aux_lemma =>
              have hk := unhide HK
              have HX := hide (fun W (h : Below w1.heap.size w1 W) => expr_any S.va W (PT.In.later h (PT.In.later (unhide HB1) (unhide HI).va)) (((unhide HSH).1.later (unhide HB1)).later h))
              unfold pv at HX
              have HE : Hid (S.wrong = S.va.wrongX) := hide (by rw [unhide HE, SV.kndE, if_neg (by omega), if_pos hk])
              have e1 : (S.k == 1) = false := bn
              have e2 : (S.k == 2) = true := bt hk
              clear hk
              generalize S.va.wrongX = ex at *
              have hA : Below w1.heap.size w1 w1 := Below.refl _ _
              go_wp2_with fail
              refine (unhide HX w1 hA).mono ?_
              rintro e w7 ⟨rfl, hb7⟩
              have hA := bnext hA hb7
              clear hb7
              go_wp2_with fail
              go_ret
              exact ⟨by rw [unhide HE]; rfl, bnext (unhide HB1) hA⟩
          · replace HK := hide HK
            clear HKK
            as_aux_lemma =>
              have hk := unhide HK
              have HX := hide (fun W (h : Below w1.heap.size w1 W) => expr_any S.va W (PT.In.later h (PT.In.later (unhide HB1) (unhide HI).va)) (((unhide HSH).1.later (unhide HB1)).later h))
              have HPW := hide (fun W (h : Below w1.heap.size w1 W) => wrong_any S.pa W (PT.In.later h (PT.In.later (unhide HB1) (unhide HI).pa)) (((unhide HSH).2.later (unhide HB1)).later h))
              unfold pv at HX HPW
              have HE : Hid (S.wrong = fst0 [S.va.wrongX, S.pa.wrong]) := hide (by rw [unhide HE, SV.kndE, if_neg (by omega), if_neg (by omega), if_pos hk])
              have e1 : (S.k == 1) = false := bn
              have e2 : (S.k == 2) = false := bn
              have e4 : (S.k == 4) = true := bt hk
              clear hk
              generalize S.va.wrongX = ex at *
              generalize S.pa.wrong = pw at *
              have HKP : Hid (∀ w' : World, Below w1.heap.size w1 w' → (w'.cell? ⟨w.heap.size, 7, none⟩ = some (.int .i64 S.va.k) ∧ w'.cell? ⟨w.heap.size, 8, none⟩ = some (.string S.va.t) ∧ w'.cell? ⟨w.heap.size, 9, none⟩ = some (.int .i64 S.va.n) ∧ w'.cell? ⟨w.heap.size, 10, none⟩ = some (.string S.va.nm) ∧ w'.cell? ⟨w.heap.size, 11, none⟩ = some (.slice S.va.xa S.va.len S.va.cap) ∧ w'.cell? ⟨w.heap.size, 12, none⟩ = some (.int .i64 S.pa.k) ∧ w'.cell? ⟨w.heap.size, 13, none⟩ = some (.string S.pa.t) ∧ w'.cell? ⟨w.heap.size, 14, none⟩ = some (.int .i64 S.pa.n) ∧ w'.cell? ⟨w.heap.size, 15, none⟩ = some (.string S.pa.nm) ∧ w'.cell? ⟨w.heap.size, 16, none⟩ = some (.slice S.pa.xa S.pa.len S.pa.cap))) := hide (fun w' h => ⟨cell_later h c7, cell_later h c8, cell_later h c9, cell_later h c10, cell_later h c11, cell_later h c12, cell_later h c13, cell_later h c14, cell_later h c15, cell_later h c16⟩)
              have hA : Below w1.heap.size w1 w1.drew := (Below.refl _ _).drew
              go_wp2_with fail
              go_region_held3 (fun w' => w'.cell? ⟨w.heap.size, 7, none⟩ = some (.int .i64 S.va.k) ∧ w'.cell? ⟨w.heap.size, 8, none⟩ = some (.string S.va.t) ∧ w'.cell? ⟨w.heap.size, 9, none⟩ = some (.int .i64 S.va.n) ∧ w'.cell? ⟨w.heap.size, 10, none⟩ = some (.string S.va.nm) ∧ w'.cell? ⟨w.heap.size, 11, none⟩ = some (.slice S.va.xa S.va.len S.va.cap) ∧ w'.cell? ⟨w.heap.size, 12, none⟩ = some (.int .i64 S.pa.k) ∧ w'.cell? ⟨w.heap.size, 13, none⟩ = some (.string S.pa.t) ∧ w'.cell? ⟨w.heap.size, 14, none⟩ = some (.int .i64 S.pa.n) ∧ w'.cell? ⟨w.heap.size, 15, none⟩ = some (.string S.pa.nm) ∧ w'.cell? ⟨w.heap.size, 16, none⟩ = some (.slice S.pa.xa S.pa.len S.pa.cap))
                (first | exact unhide HKP _ hA | exact unhide HKP _ (hA.alloc (by have := hA.size; omega) _))
                (first
                  | (go_at_call 4; (with_reducible refine (unhide HX _ hA).mono ?_); rintro e w7 ⟨rfl, hb7⟩; have hA := bnext hA hb7; clear hb7)
                  | (go_at_call 18; (with_reducible refine (unhide HPW _ hA).mono ?_); rintro e w7 ⟨rfl, hb7⟩; have hA := bnext hA hb7; clear hb7)
                  | (go_at_call 17; refine (first_any [ex, pw] _ _ (by simp) (errs_at (at_new rfl))).mono ?_; rintro e w7 ⟨rfl, rfl⟩; have hA := hA.alloc (by have := hA.size; omega) (.cells #[.int .i64 ex, .int .i64 pw] 26)))
              go_wp2_with fail
              go_ret
              exact ⟨by rw [unhide HE]; rfl, bnext (unhide HB1) hA⟩
          · replace HK := hide HK
            clear HKK
            as_aux_lemma =>
              have hk := unhide HK
              have HX := hide (fun W (h : Below w1.heap.size w1 W) => expr_any S.va W (PT.In.later h (PT.In.later (unhide HB1) (unhide HI).va)) (((unhide HSH).1.later (unhide HB1)).later h))
              have HTG := hide (fun W (h : Below w1.heap.size w1 W) => wrongTarget_any S.tg W (PT.In.later h (PT.In.later (unhide HB1) (unhide HI).tg)) (((unhide HSH).1.later (unhide HB1)).later h))
              unfold pv at HX HTG
              have HE : Hid (S.wrong = fst0 [tgE S.tg, S.va.wrongX]) := hide (by rw [unhide HE, SV.kndE, if_neg (by omega), if_neg (by omega), if_neg (by omega), if_pos hk])
              have e1 : (S.k == 1) = false := bn
              have e2 : (S.k == 2) = false := bn
              have e4 : (S.k == 4) = false := bn
              have e3 : (S.k == 3) = true := bt hk
              clear hk
              generalize S.va.wrongX = ex at *
              generalize tgE S.tg = tw at *
              have HKP : Hid (∀ w' : World, Below w1.heap.size w1 w' → (w'.cell? ⟨w.heap.size, 2, none⟩ = some (.int .i64 S.tg.k) ∧ w'.cell? ⟨w.heap.size, 3, none⟩ = some (.string S.tg.t) ∧ w'.cell? ⟨w.heap.size, 4, none⟩ = some (.int .i64 S.tg.n) ∧ w'.cell? ⟨w.heap.size, 5, none⟩ = some (.string S.tg.nm) ∧ w'.cell? ⟨w.heap.size, 6, none⟩ = some (.slice S.tg.xa S.tg.len S.tg.cap) ∧ w'.cell? ⟨w.heap.size, 7, none⟩ = some (.int .i64 S.va.k) ∧ w'.cell? ⟨w.heap.size, 8, none⟩ = some (.string S.va.t) ∧ w'.cell? ⟨w.heap.size, 9, none⟩ = some (.int .i64 S.va.n) ∧ w'.cell? ⟨w.heap.size, 10, none⟩ = some (.string S.va.nm) ∧ w'.cell? ⟨w.heap.size, 11, none⟩ = some (.slice S.va.xa S.va.len S.va.cap))) := hide (fun w' h => ⟨cell_later h c2, cell_later h c3, cell_later h c4, cell_later h c5, cell_later h c6, cell_later h c7, cell_later h c8, cell_later h c9, cell_later h c10, cell_later h c11⟩)
              have hA : Below w1.heap.size w1 w1.drew := (Below.refl _ _).drew
              go_wp2_with fail
              go_region_held3 (fun w' => w'.cell? ⟨w.heap.size, 2, none⟩ = some (.int .i64 S.tg.k) ∧ w'.cell? ⟨w.heap.size, 3, none⟩ = some (.string S.tg.t) ∧ w'.cell? ⟨w.heap.size, 4, none⟩ = some (.int .i64 S.tg.n) ∧ w'.cell? ⟨w.heap.size, 5, none⟩ = some (.string S.tg.nm) ∧ w'.cell? ⟨w.heap.size, 6, none⟩ = some (.slice S.tg.xa S.tg.len S.tg.cap) ∧ w'.cell? ⟨w.heap.size, 7, none⟩ = some (.int .i64 S.va.k) ∧ w'.cell? ⟨w.heap.size, 8, none⟩ = some (.string S.va.t) ∧ w'.cell? ⟨w.heap.size, 9, none⟩ = some (.int .i64 S.va.n) ∧ w'.cell? ⟨w.heap.size, 10, none⟩ = some (.string S.va.nm) ∧ w'.cell? ⟨w.heap.size, 11, none⟩ = some (.slice S.va.xa S.va.len S.va.cap))
                (first | exact unhide HKP _ hA | exact unhide HKP _ (hA.alloc (by have := hA.size; omega) _))
                (first
                  | (go_at_call 4; (with_reducible refine (unhide HX _ hA).mono ?_); rintro e w7 ⟨rfl, hb7⟩; have hA := bnext hA hb7; clear hb7)
                  | (go_at_call 19; (with_reducible refine (unhide HTG _ hA).mono ?_); rintro e w7 ⟨rfl, hb7⟩; have hA := bnext hA hb7; clear hb7)
                  | (go_at_call 17; refine (first_any [tw, ex] _ _ (by simp) (errs_at (at_new rfl))).mono ?_; rintro e w7 ⟨rfl, rfl⟩; have hA := hA.alloc (by have := hA.size; omega) (.cells #[.int .i64 tw, .int .i64 ex] 26)))
              go_wp2_with fail
              go_ret
              exact ⟨by rw [unhide HE]; rfl, bnext (unhide HB1) hA⟩
          · replace HK := hide HK
            clear HKK
            as_aux_lemma =>
              have hk := unhide HK
              have HX := hide (fun W (h : Below w1.heap.size w1 W) => expr_any S.va W (PT.In.later h (PT.In.later (unhide HB1) (unhide HI).va)) (((unhide HSH).1.later (unhide HB1)).later h))
              have HTG := hide (fun W (h : Below w1.heap.size w1 W) => wrongTarget_any S.tg W (PT.In.later h (PT.In.later (unhide HB1) (unhide HI).tg)) (((unhide HSH).1.later (unhide HB1)).later h))
              have HPW := hide (fun W (h : Below w1.heap.size w1 W) => wrong_any S.pa W (PT.In.later h (PT.In.later (unhide HB1) (unhide HI).pa)) (((unhide HSH).2.later (unhide HB1)).later h))
              unfold pv at HX HTG HPW
              have HE : Hid (S.wrong = fst0 [tgE S.tg, S.pa.wrong, S.va.wrongX]) := hide (by rw [unhide HE, SV.kndE, if_neg (by omega), if_neg (by omega), if_neg (by omega), if_neg (by omega), if_pos hk])
              have e1 : (S.k == 1) = false := bn
              have e2 : (S.k == 2) = false := bn
              have e4 : (S.k == 4) = false := bn
              have e3 : (S.k == 3) = false := bn
              have e5 : (S.k == 5) = true := bt hk
              clear hk
              generalize S.va.wrongX = ex at *
              generalize S.pa.wrong = pw at *
              generalize tgE S.tg = tw at *
              have HKP : Hid (∀ w' : World, Below w1.heap.size w1 w' → (w'.cell? ⟨w.heap.size, 2, none⟩ = some (.int .i64 S.tg.k) ∧ w'.cell? ⟨w.heap.size, 3, none⟩ = some (.string S.tg.t) ∧ w'.cell? ⟨w.heap.size, 4, none⟩ = some (.int .i64 S.tg.n) ∧ w'.cell? ⟨w.heap.size, 5, none⟩ = some (.string S.tg.nm) ∧ w'.cell? ⟨w.heap.size, 6, none⟩ = some (.slice S.tg.xa S.tg.len S.tg.cap) ∧ w'.cell? ⟨w.heap.size, 7, none⟩ = some (.int .i64 S.va.k) ∧ w'.cell? ⟨w.heap.size, 8, none⟩ = some (.string S.va.t) ∧ w'.cell? ⟨w.heap.size, 9, none⟩ = some (.int .i64 S.va.n) ∧ w'.cell? ⟨w.heap.size, 10, none⟩ = some (.string S.va.nm) ∧ w'.cell? ⟨w.heap.size, 11, none⟩ = some (.slice S.va.xa S.va.len S.va.cap) ∧ w'.cell? ⟨w.heap.size, 12, none⟩ = some (.int .i64 S.pa.k) ∧ w'.cell? ⟨w.heap.size, 13, none⟩ = some (.string S.pa.t) ∧ w'.cell? ⟨w.heap.size, 14, none⟩ = some (.int .i64 S.pa.n) ∧ w'.cell? ⟨w.heap.size, 15, none⟩ = some (.string S.pa.nm) ∧ w'.cell? ⟨w.heap.size, 16, none⟩ = some (.slice S.pa.xa S.pa.len S.pa.cap))) := hide (fun w' h => ⟨cell_later h c2, cell_later h c3, cell_later h c4, cell_later h c5, cell_later h c6, cell_later h c7, cell_later h c8, cell_later h c9, cell_later h c10, cell_later h c11, cell_later h c12, cell_later h c13, cell_later h c14, cell_later h c15, cell_later h c16⟩)
              have hA : Below w1.heap.size w1 w1.drew := (Below.refl _ _).drew
              go_wp2_with fail
              go_region_held3 (fun w' => w'.cell? ⟨w.heap.size, 2, none⟩ = some (.int .i64 S.tg.k) ∧ w'.cell? ⟨w.heap.size, 3, none⟩ = some (.string S.tg.t) ∧ w'.cell? ⟨w.heap.size, 4, none⟩ = some (.int .i64 S.tg.n) ∧ w'.cell? ⟨w.heap.size, 5, none⟩ = some (.string S.tg.nm) ∧ w'.cell? ⟨w.heap.size, 6, none⟩ = some (.slice S.tg.xa S.tg.len S.tg.cap) ∧ w'.cell? ⟨w.heap.size, 7, none⟩ = some (.int .i64 S.va.k) ∧ w'.cell? ⟨w.heap.size, 8, none⟩ = some (.string S.va.t) ∧ w'.cell? ⟨w.heap.size, 9, none⟩ = some (.int .i64 S.va.n) ∧ w'.cell? ⟨w.heap.size, 10, none⟩ = some (.string S.va.nm) ∧ w'.cell? ⟨w.heap.size, 11, none⟩ = some (.slice S.va.xa S.va.len S.va.cap) ∧ w'.cell? ⟨w.heap.size, 12, none⟩ = some (.int .i64 S.pa.k) ∧ w'.cell? ⟨w.heap.size, 13, none⟩ = some (.string S.pa.t) ∧ w'.cell? ⟨w.heap.size, 14, none⟩ = some (.int .i64 S.pa.n) ∧ w'.cell? ⟨w.heap.size, 15, none⟩ = some (.string S.pa.nm) ∧ w'.cell? ⟨w.heap.size, 16, none⟩ = some (.slice S.pa.xa S.pa.len S.pa.cap))
                (first | exact unhide HKP _ hA | exact unhide HKP _ (hA.alloc (by have := hA.size; omega) _))
                (first
                  | (go_at_call 4; (with_reducible refine (unhide HX _ hA).mono ?_); rintro e w7 ⟨rfl, hb7⟩; have hA := bnext hA hb7; clear hb7)
                  | (go_at_call 18; (with_reducible refine (unhide HPW _ hA).mono ?_); rintro e w7 ⟨rfl, hb7⟩; have hA := bnext hA hb7; clear hb7)
                  | (go_at_call 19; (with_reducible refine (unhide HTG _ hA).mono ?_); rintro e w7 ⟨rfl, hb7⟩; have hA := bnext hA hb7; clear hb7)
                  | (go_at_call 17; refine (first_any [tw, pw, ex] _ _ (by simp) (errs_at (at_new rfl))).mono ?_; rintro e w7 ⟨rfl, rfl⟩; have hA := hA.alloc (by have := hA.size; omega) (.cells #[.int .i64 tw, .int .i64 pw, .int .i64 ex] 26)))
              go_wp2_with fail
              go_ret
              exact ⟨by rw [unhide HE]; rfl, bnext (unhide HB1) hA⟩
          · replace HK := hide HK
            clear HKK
            as_aux_lemma =>
              have hk := unhide HK
              have HPW := hide (fun W (h : Below w1.heap.size w1 W) => wrong_any S.pa W (PT.In.later h (PT.In.later (unhide HB1) (unhide HI).pa)) (((unhide HSH).2.later (unhide HB1)).later h))
              have HWN : Hid (Calls Tryz.prog 20 #[.slice (some ⟨w1.heap.size, 0, none⟩) 1 1] (w1.alloc (.cells #[.string S.nm] 9)).drew fun e w' => e = .returned (.int .i64 (nmsE [S.nm])) ∧ Below w1.heap.size w1 w') := hide ((wrongNames_any ⟨some ⟨w1.heap.size, 0, none⟩, w1.heap.size, 0, 1, [S.nm]⟩ _ (nl_at (l := [S.nm]) (show (w1.alloc (.cells #[.string S.nm] 9)).drew.heap[w1.heap.size]? = some (.cells #[.string S.nm] 9 (0, 0)) from at_new rfl) rfl (fun t ht => by rw [List.mem_singleton] at ht; subst ht; exact (unhide HI).txt.2.1) (by simp))).mono fun e w' q => ⟨q.1, q.2 ▸ (ba _).drew⟩)
              unfold pv at HPW
              have HE : Hid (S.wrong = fst0 [nmsE [S.nm], S.pa.wrong]) := hide (by rw [unhide HE, SV.kndE, if_neg (by omega), if_neg (by omega), if_neg (by omega), if_neg (by omega), if_neg (by omega), if_pos hk])
              have e1 : (S.k == 1) = false := bn
              have e2 : (S.k == 2) = false := bn
              have e4 : (S.k == 4) = false := bn
              have e3 : (S.k == 3) = false := bn
              have e5 : (S.k == 5) = false := bn
              have e6 : (S.k == 6) = true := bt hk
              clear hk
              generalize S.pa.wrong = pw at *
              generalize nmsE [S.nm] = nw at *
              have HKP : Hid (∀ w' : World, Below w1.heap.size w1 w' → (w'.cell? ⟨w.heap.size, 12, none⟩ = some (.int .i64 S.pa.k) ∧ w'.cell? ⟨w.heap.size, 13, none⟩ = some (.string S.pa.t) ∧ w'.cell? ⟨w.heap.size, 14, none⟩ = some (.int .i64 S.pa.n) ∧ w'.cell? ⟨w.heap.size, 15, none⟩ = some (.string S.pa.nm) ∧ w'.cell? ⟨w.heap.size, 16, none⟩ = some (.slice S.pa.xa S.pa.len S.pa.cap) ∧ w'.cell? ⟨w.heap.size, 17, none⟩ = some (.string S.nm))) := hide (fun w' h => ⟨cell_later h c12, cell_later h c13, cell_later h c14, cell_later h c15, cell_later h c16, cell_later h c17⟩)
              have hA : Below w1.heap.size w1 w1.drew := (Below.refl _ _).drew
              go_wp2_with fail
              go_region_held3 (fun w' => w'.cell? ⟨w.heap.size, 12, none⟩ = some (.int .i64 S.pa.k) ∧ w'.cell? ⟨w.heap.size, 13, none⟩ = some (.string S.pa.t) ∧ w'.cell? ⟨w.heap.size, 14, none⟩ = some (.int .i64 S.pa.n) ∧ w'.cell? ⟨w.heap.size, 15, none⟩ = some (.string S.pa.nm) ∧ w'.cell? ⟨w.heap.size, 16, none⟩ = some (.slice S.pa.xa S.pa.len S.pa.cap) ∧ w'.cell? ⟨w.heap.size, 17, none⟩ = some (.string S.nm))
                (first | exact unhide HKP _ hA | exact unhide HKP _ (hA.alloc (by have := hA.size; omega) _))
                (first
                  | (go_at_call 18; (with_reducible refine (unhide HPW _ hA).mono ?_); rintro e w7 ⟨rfl, hb7⟩; have hA := bnext hA hb7; clear hb7)
                  | (go_at_call 20; (with_reducible refine (unhide HWN).mono ?_); rintro e w7 ⟨rfl, hb7⟩; have hA := hb7; clear hb7)
                  | (go_at_call 17; refine (first_any [nw, pw] _ _ (by simp) (errs_at (at_new rfl))).mono ?_; rintro e w7 ⟨rfl, rfl⟩; have hA := hA.alloc (by have := hA.size; omega) (.cells #[.int .i64 nw, .int .i64 pw] 26)))
              go_wp2_with fail
              go_ret
              exact ⟨by rw [unhide HE]; rfl, bnext (unhide HB1) hA⟩
          · replace HK := hide HK
            clear HKK
            as_aux_lemma =>
              have hk := unhide HK
              have HDF := hide (fun W (h : Below w1.heap.size w1 W) => wrongDefine_any S W (((unhide HI).later (unhide HB1)).later h))
              unfold SV.v SV.cells NL.v at HDF
              have HE : Hid (S.wrong = S.dfE) := hide (by rw [unhide HE, SV.kndE, if_neg (by omega), if_neg (by omega), if_neg (by omega), if_neg (by omega), if_neg (by omega), if_neg (by omega), if_pos hk])
              have e1 : (S.k == 1) = false := bn
              have e2 : (S.k == 2) = false := bn
              have e4 : (S.k == 4) = false := bn
              have e3 : (S.k == 3) = false := bn
              have e5 : (S.k == 5) = false := bn
              have e6 : (S.k == 6) = false := bn
              have e7 : (S.k == 7) = true := bt hk
              clear hk
              have hA : Below w1.heap.size w1 w1 := Below.refl _ _
              go_wp2_with (first
                | (refine wpList_load_row rfl 33 _ rfl w.heap.size rfl 33 _ (0, 0) _ (unhide HR1) Tryz.underlying33 rfl size_stmt ?_)
                | fail)
              refine (unhide HDF w1 hA).mono ?_
              rintro e w7 ⟨rfl, hb7⟩
              have hA := bnext hA hb7
              clear hb7
              go_wp2_with fail
              go_ret
              exact ⟨by rw [unhide HE]; rfl, bnext (unhide HB1) hA⟩
          · replace HK := hide HK
            clear HKK
            as_aux_lemma =>
              have hk := unhide HK
              have HE : Hid (S.wrong = 1) := hide (by rw [unhide HE, SV.kndE, if_neg (by omega), if_neg (by omega), if_neg (by omega), if_neg (by omega), if_neg (by omega), if_neg (by omega), if_neg (by omega)])
              have e1 : (S.k == 1) = false := bn
              have e2 : (S.k == 2) = false := bn
              have e4 : (S.k == 4) = false := bn
              have e3 : (S.k == 3) = false := bn
              have e5 : (S.k == 5) = false := bn
              have e6 : (S.k == 6) = false := bn
              have e7 : (S.k == 7) = false := bn
              clear hk
              go_wp2_with fail
              go_ret
              exact ⟨by rw [unhide HE]; rfl, unhide HB1⟩
        · have HE : Hid (S.wrong = 8) := hide (by rw [unhide HE0, if_pos rfl])
          clear HE0
          go_wp2_with fail
          go_ret
          exact ⟨by rw [unhide HE]; rfl, unhide HB1⟩
end Go.Proofs.YtpphjddljngkmaaGreatDoor
