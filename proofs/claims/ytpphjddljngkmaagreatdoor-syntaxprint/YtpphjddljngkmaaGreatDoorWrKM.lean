/- The writer of lines: where a line goes on. The writer of lines: names with commas between. -/
import Derived.Test.YtpphjddljngkmaaGreatDoorWrIP
import Derived.Test.YtpphjddljngkmaaGreatDoorPrintExt4M
import Derived.Test.YtpphjddljngkmaaGreatDoorQuote4M
namespace Go.Proofs.YtpphjddljngkmaaGreatDoor
open Go.RowKit

/-- A label in brackets, and what stands ahead of it. -/
def wayT (h t : ByteArray) : List UInt8 := if t.size = 0 then [] else h.data.toList ++ ([40] ++ (t.data.toList ++ [41]))
theorem isEmpty_no {t : ByteArray} (h : t.size ≠ 0) : t.toList.isEmpty = false := by rw [isEmpty_iff]; exact decide_eq_false h
theorem isEmpty_yes {t : ByteArray} (h : t.size = 0) : t.toList.isEmpty = true := by rw [isEmpty_iff]; exact decide_eq_true h
set_option maxRecDepth 100000 in
set_option maxHeartbeats 4000000 in
theorem wayOn_any {W w : World} {B z : Nat} {v : Value} {o : List UInt8} {f : Bool} (h t : ByteArray) (hE : EnvW W) (hb : Below W.heap.size W w) (hz : W.heap.size ≤ z) (hW : WrI B z w v o f) (hh : h.size ≤ 1) (ht : t.size ≤ 16) (ho : max o.length 140000 + 19 ≤ 9900000) :
    Calls Tryz.prog 63 #[.pointer (some ⟨z, 0, none⟩), .string h, .string t] w fun e w' => WPost B z w v o (wayT h t) f 19 e w' := by
  have H1 := hide (Wn.start hb hW)
  have HZ := hide (And.intro hE hz)
  have e40 : (sgn 40).size = 1 := rfl
  have e41 : (sgn 41).size = 1 := rfl
  have HP1 : Hid (Calls Tryz.prog 42 #[.pointer (some ⟨z, 0, none⟩), .slice (some ⟨w.heap.size, 0, none⟩) 4 4] (w.alloc (.cells #[.string h, .string ⟨#[40]⟩, .string t, .string ⟨#[41]⟩] 9)) _) := hide ((unhide H1).put hE hz (by omega) [h, sgn 40, t, sgn 41] (by simp) (fun t ht => by simp only [List.mem_cons, List.not_mem_nil, or_false] at ht; rcases ht with rfl | rfl | rfl | rfl <;> omega) 19 (by show (cat [h, sgn 40, t, sgn 41]).length ≤ 19; unfold cat; simp only [List.flatMap_cons, List.flatMap_nil, List.length_append, List.length_nil, tlen]; omega))
  clear hE hb hW
  by_cases h0 : t.size = 0
  · have HT : Hid (wayT h t = []) := hide (if_pos h0)
    have he := isEmpty_yes h0
    have HF := hide ((unhide H1).done (t := wayT h t) (c := 19) (unhide HT).symm (by omega))
    clear h0
    go_enter Tryz.func63, Tryz.ntmps63
    go_wp2_with fail
    go_end0
    exact ⟨rfl, unhide HF⟩
  · have HT : Hid (wayT h t = h.data.toList ++ ([40] ++ (t.data.toList ++ [41]))) := hide (if_neg h0)
    have he := isEmpty_no h0
    clear h0
    go_enter Tryz.func63, Tryz.ntmps63
    go_wp2_with fail
    refine (unhide HP1).mono ?_
    rintro e w2 ⟨rfl, v2, o2, f2, h2, -⟩
    have HF := hide (h2.done (t := wayT h t) (c := 19) (by rw [unhide HT, cat_cons, cat_cons, cat_cons, cat_one]; rfl) (by omega))
    clear h2
    go_wp2_with fail
    go_end0
    exact ⟨rfl, unhide HF⟩
theorem wayI_T (h t : ByteArray) (w : List It) (hw : flt w = h.data.toList) : flt (wayI w t) = wayT h t := by
  unfold wayI wayT
  split
  · rfl
  · rw [flt_app, hw]
    show _ ++ ([40] ++ (t.data.toList ++ [41])) = _
    rfl
theorem cellC {w : World} {g : Nat} {C : Array Value} {t : TypeId} (h : w.heap[g]? = some (.cells C t (0, 0))) {k : Nat} {u : Value} (hk : C[k]? = some u) : w.cell? ⟨g, k, none⟩ = some u := by rw [cell_of_row _ _ _ _ _ _ h]; exact hk
set_option maxRecDepth 100000 in
set_option maxHeartbeats 8000000 in
theorem ways_any (S : SV) {W w : World} {B z : Nat} {v : Value} {o : List UInt8} {f : Bool} (hE : EnvW W) (hb : Below W.heap.size W w) (hz : W.heap.size ≤ z) (hW : WrI B z w v o f) (ha : S.al.size ≤ 16) (hy : S.ye.size ≤ 16) (hn : S.no.size ≤ 16) (ho : max o.length 140000 + 80 ≤ 9900000) :
    Calls Tryz.prog 45 #[.pointer (some ⟨z, 0, none⟩), S.v] w fun e w' => WPost B z w v o (flt (waysI S)) f 80 e w' := by
  have hzl : z < w.heap.size := (Array.getElem?_eq_some_iff.1 hW.blk).1
  have hnz : w.heap.size ≠ z := by omega
  obtain ⟨C, hC⟩ : ∃ C, C = S.cells := ⟨_, rfl⟩
  have hsv : S.v = .agg C := by rw [hC]; rfl
  have HC : Hid (C.size = 24 ∧ C[21]? = some (.string S.al) ∧ C[22]? = some (.string S.ye) ∧ C[23]? = some (.string S.no)) := hide (by rw [hC]; exact ⟨rfl, rfl, rfl, rfl⟩)
  rw [hsv]
  obtain ⟨w1, hw1⟩ : ∃ w1, w1 = w.alloc (.cells C 33) := ⟨_, rfl⟩
  have hal : Below w.heap.size w w1 := by rw [hw1]; exact ba _
  have hbx : w1.heap[w.heap.size]? = some (.cells C 33 (0, 0)) := by rw [hw1]; exact at_new rfl
  have H1 := hide ((Wn.start hb hW).below hal)
  have HBX := hide hbx
  have HS1 : Hid (w1.heap.size = w.heap.size + 1) := hide (by rw [hw1]; simp)
  have HW1 : Hid (w.alloc (.cells C 33) = w1) := hide (hw1.symm)
  have HZ := hide (And.intro hE hz)
  have e2 : (⟨#[32, 58]⟩ : ByteArray).size = 2 := rfl
  have c21a := cellC hbx (unhide HC).2.1
  have c22a := cellC hbx (unhide HC).2.2.1
  have c23a := cellC hbx (unhide HC).2.2.2
  rw [hw1] at c21a c22a c23a
  have HIY : Hid ((¬ (S.al.size = 0 ∧ S.ye.size = 0 ∧ S.no.size = 0)) → flt (waysI S) = [32, 58] ++ (wayT ByteArray.empty S.al ++ (wayT ⟨#[83]⟩ S.ye ++ wayT ⟨#[70]⟩ S.no))) := hide (fun h => by
    unfold waysI
    rw [if_neg h, flt_cons, flt_cons, flt_app, flt_app, wayI_T ByteArray.empty S.al [] rfl, wayI_T ⟨#[83]⟩ S.ye [wd (sgn 83)] rfl, wayI_T ⟨#[70]⟩ S.no [wd (sgn 70)] rfl]
    rfl)
  have HIN : Hid ((S.al.size = 0 ∧ S.ye.size = 0 ∧ S.no.size = 0) → flt (waysI S) = []) := hide (fun h => by unfold waysI; rw [if_pos h]; rfl)
  clear hE hb hW hal hbx hw1 hC hsv
  by_cases ea : S.al.size = 0
  · have ha0 := isEmpty_yes ea
    by_cases ey : S.ye.size = 0
    · have hy0 := isEmpty_yes ey
      by_cases en : S.no.size = 0
      · have hn0 := isEmpty_yes en
        have HI := hide (unhide HIN ⟨ea, ey, en⟩)
        have HF := hide ((unhide H1).done (t := flt (waysI S)) (c := 80) (unhide HI).symm (by omega))
        clear ea ey en HIY HIN
        go_enter Tryz.func45, Tryz.ntmps45
        go_wp2_with fail
        rw [unhide HW1]
        refine bodyPost_ret (results_none rfl _ _ _) rfl ?_
        exact ⟨rfl, unhide HF⟩
      · have hn0 := isEmpty_no en
        have HI := hide (unhide HIY (fun q => en q.2.2))
        clear ea ey en HIY HIN
        have HP1 : Hid (Calls Tryz.prog 42 #[.pointer (some ⟨z, 0, none⟩), .slice (some ⟨w1.heap.size, 0, none⟩) 1 1] (w1.alloc (.cells #[.string ⟨#[32, 58]⟩] 9)) _) := hide ((unhide H1).put (unhide HZ).1 (unhide HZ).2 (by omega) [⟨#[32, 58]⟩] (by simp) (fun t ht => by simp only [List.mem_cons, List.not_mem_nil, or_false] at ht; subst ht; omega) 2 (by decide))
        rw [unhide HS1] at HP1
        go_enter Tryz.func45, Tryz.ntmps45
        go_wp2_with fail
        rw [unhide HW1]
        refine (unhide HP1).mono ?_
        rintro e w2 ⟨rfl, v2, o2, f2, h2, hx2⟩
        have HBX2 := hide (hx2.keep (unhide H1).wr (unhide HBX) (by decide) hnz)
        have c21 := cellC (unhide HBX2) (unhide HC).2.1
        have HK2 := hide (wayOn_any ByteArray.empty S.al (unhide HZ).1 h2.bel (unhide HZ).2 h2.wr (by decide) ha (h2.len2 (by omega)))
        have H2 := hide h2
        clear h2 hx2 HP1 H1 c21a c22a c23a
        unfold ByteArray.empty ByteArray.emptyWithCapacity at HK2
        go_wp2_with fail
        refine (unhide HK2).mono ?_
        rintro e w3 ⟨rfl, hst⟩
        obtain ⟨v3, o3, f3, h3, hx3⟩ := (unhide H2).sub (unhide HZ).2 hst
        have HBX3 := hide (hx3.keep (unhide H2).wr (unhide HBX2) (by decide) hnz)
        have c22 := cellC (unhide HBX3) (unhide HC).2.2.1
        have HK3 := hide (wayOn_any ⟨#[83]⟩ S.ye (unhide HZ).1 h3.bel (unhide HZ).2 h3.wr (by decide) hy (h3.len2 (by omega)))
        have H3 := hide h3
        clear h3 hx3 hst HK2 H2 c21
        go_wp2_with fail
        refine (unhide HK3).mono ?_
        rintro e w4 ⟨rfl, hst⟩
        obtain ⟨v4, o4, f4, h4, hx4⟩ := (unhide H3).sub (unhide HZ).2 hst
        have HBX4 := hide (hx4.keep (unhide H3).wr (unhide HBX3) (by decide) hnz)
        have c23 := cellC (unhide HBX4) (unhide HC).2.2.2
        have HK4 := hide (wayOn_any ⟨#[70]⟩ S.no (unhide HZ).1 h4.bel (unhide HZ).2 h4.wr (by decide) hn (h4.len2 (by omega)))
        have H4 := hide h4
        clear h4 hx4 hst HK3 H3 c22
        go_wp2_with fail
        refine (unhide HK4).mono ?_
        rintro e w5 ⟨rfl, hst⟩
        obtain ⟨v5, o5, f5, h5, -⟩ := (unhide H4).sub (unhide HZ).2 hst
        have HF := hide (h5.done (t := flt (waysI S)) (c := 80) (by rw [unhide HI, cat_one]; show [] ++ [32, 58] ++ wayT ByteArray.empty S.al ++ wayT ⟨#[83]⟩ S.ye ++ wayT ⟨#[70]⟩ S.no = _; simp) (by omega))
        clear h5 hst HK4 H4 c23
        go_wp2_with fail
        go_end0
        exact ⟨rfl, unhide HF⟩
    · have hy0 := isEmpty_no ey
      have HI := hide (unhide HIY (fun q => ey q.2.1))
      clear ea ey HIY HIN
      have HP1 : Hid (Calls Tryz.prog 42 #[.pointer (some ⟨z, 0, none⟩), .slice (some ⟨w1.heap.size, 0, none⟩) 1 1] (w1.alloc (.cells #[.string ⟨#[32, 58]⟩] 9)) _) := hide ((unhide H1).put (unhide HZ).1 (unhide HZ).2 (by omega) [⟨#[32, 58]⟩] (by simp) (fun t ht => by simp only [List.mem_cons, List.not_mem_nil, or_false] at ht; subst ht; omega) 2 (by decide))
      rw [unhide HS1] at HP1
      go_enter Tryz.func45, Tryz.ntmps45
      go_wp2_with fail
      rw [unhide HW1]
      refine (unhide HP1).mono ?_
      rintro e w2 ⟨rfl, v2, o2, f2, h2, hx2⟩
      have HBX2 := hide (hx2.keep (unhide H1).wr (unhide HBX) (by decide) hnz)
      have c21 := cellC (unhide HBX2) (unhide HC).2.1
      have HK2 := hide (wayOn_any ByteArray.empty S.al (unhide HZ).1 h2.bel (unhide HZ).2 h2.wr (by decide) ha (h2.len2 (by omega)))
      have H2 := hide h2
      clear h2 hx2 HP1 H1 c21a c22a c23a
      unfold ByteArray.empty ByteArray.emptyWithCapacity at HK2
      go_wp2_with fail
      refine (unhide HK2).mono ?_
      rintro e w3 ⟨rfl, hst⟩
      obtain ⟨v3, o3, f3, h3, hx3⟩ := (unhide H2).sub (unhide HZ).2 hst
      have HBX3 := hide (hx3.keep (unhide H2).wr (unhide HBX2) (by decide) hnz)
      have c22 := cellC (unhide HBX3) (unhide HC).2.2.1
      have HK3 := hide (wayOn_any ⟨#[83]⟩ S.ye (unhide HZ).1 h3.bel (unhide HZ).2 h3.wr (by decide) hy (h3.len2 (by omega)))
      have H3 := hide h3
      clear h3 hx3 hst HK2 H2 c21
      go_wp2_with fail
      refine (unhide HK3).mono ?_
      rintro e w4 ⟨rfl, hst⟩
      obtain ⟨v4, o4, f4, h4, hx4⟩ := (unhide H3).sub (unhide HZ).2 hst
      have HBX4 := hide (hx4.keep (unhide H3).wr (unhide HBX3) (by decide) hnz)
      have c23 := cellC (unhide HBX4) (unhide HC).2.2.2
      have HK4 := hide (wayOn_any ⟨#[70]⟩ S.no (unhide HZ).1 h4.bel (unhide HZ).2 h4.wr (by decide) hn (h4.len2 (by omega)))
      have H4 := hide h4
      clear h4 hx4 hst HK3 H3 c22
      go_wp2_with fail
      refine (unhide HK4).mono ?_
      rintro e w5 ⟨rfl, hst⟩
      obtain ⟨v5, o5, f5, h5, -⟩ := (unhide H4).sub (unhide HZ).2 hst
      have HF := hide (h5.done (t := flt (waysI S)) (c := 80) (by rw [unhide HI, cat_one]; show [] ++ [32, 58] ++ wayT ByteArray.empty S.al ++ wayT ⟨#[83]⟩ S.ye ++ wayT ⟨#[70]⟩ S.no = _; simp) (by omega))
      clear h5 hst HK4 H4 c23
      go_wp2_with fail
      go_end0
      exact ⟨rfl, unhide HF⟩
  · have ha0 := isEmpty_no ea
    have HI := hide (unhide HIY (fun q => ea q.1))
    clear ea HIY HIN
    have HP1 : Hid (Calls Tryz.prog 42 #[.pointer (some ⟨z, 0, none⟩), .slice (some ⟨w1.heap.size, 0, none⟩) 1 1] (w1.alloc (.cells #[.string ⟨#[32, 58]⟩] 9)) _) := hide ((unhide H1).put (unhide HZ).1 (unhide HZ).2 (by omega) [⟨#[32, 58]⟩] (by simp) (fun t ht => by simp only [List.mem_cons, List.not_mem_nil, or_false] at ht; subst ht; omega) 2 (by decide))
    rw [unhide HS1] at HP1
    go_enter Tryz.func45, Tryz.ntmps45
    go_wp2_with fail
    rw [unhide HW1]
    refine (unhide HP1).mono ?_
    rintro e w2 ⟨rfl, v2, o2, f2, h2, hx2⟩
    have HBX2 := hide (hx2.keep (unhide H1).wr (unhide HBX) (by decide) hnz)
    have c21 := cellC (unhide HBX2) (unhide HC).2.1
    have HK2 := hide (wayOn_any ByteArray.empty S.al (unhide HZ).1 h2.bel (unhide HZ).2 h2.wr (by decide) ha (h2.len2 (by omega)))
    have H2 := hide h2
    clear h2 hx2 HP1 H1 c21a c22a c23a
    unfold ByteArray.empty ByteArray.emptyWithCapacity at HK2
    go_wp2_with fail
    refine (unhide HK2).mono ?_
    rintro e w3 ⟨rfl, hst⟩
    obtain ⟨v3, o3, f3, h3, hx3⟩ := (unhide H2).sub (unhide HZ).2 hst
    have HBX3 := hide (hx3.keep (unhide H2).wr (unhide HBX2) (by decide) hnz)
    have c22 := cellC (unhide HBX3) (unhide HC).2.2.1
    have HK3 := hide (wayOn_any ⟨#[83]⟩ S.ye (unhide HZ).1 h3.bel (unhide HZ).2 h3.wr (by decide) hy (h3.len2 (by omega)))
    have H3 := hide h3
    clear h3 hx3 hst HK2 H2 c21
    go_wp2_with fail
    refine (unhide HK3).mono ?_
    rintro e w4 ⟨rfl, hst⟩
    obtain ⟨v4, o4, f4, h4, hx4⟩ := (unhide H3).sub (unhide HZ).2 hst
    have HBX4 := hide (hx4.keep (unhide H3).wr (unhide HBX3) (by decide) hnz)
    have c23 := cellC (unhide HBX4) (unhide HC).2.2.2
    have HK4 := hide (wayOn_any ⟨#[70]⟩ S.no (unhide HZ).1 h4.bel (unhide HZ).2 h4.wr (by decide) hn (h4.len2 (by omega)))
    have H4 := hide h4
    clear h4 hx4 hst HK3 H3 c22
    go_wp2_with fail
    refine (unhide HK4).mono ?_
    rintro e w5 ⟨rfl, hst⟩
    obtain ⟨v5, o5, f5, h5, -⟩ := (unhide H4).sub (unhide HZ).2 hst
    have HF := hide (h5.done (t := flt (waysI S)) (c := 80) (by rw [unhide HI, cat_one]; show [] ++ [32, 58] ++ wayT ByteArray.empty S.al ++ wayT ⟨#[83]⟩ S.ye ++ wayT ⟨#[70]⟩ S.no = _; simp) (by omega))
    clear h5 hst HK4 H4 c23
    go_wp2_with fail
    go_end0
    exact ⟨rfl, unhide HF⟩
end Go.Proofs.YtpphjddljngkmaaGreatDoor

namespace Go.Proofs.YtpphjddljngkmaaGreatDoor
open Go.RowKit

theorem join_nm : ∀ l : List ByteArray, Lib.join (l.map (·.data.toList)) [44] = flt (nmI l)
  | [] => rfl
  | [x] => by
    show x.data.toList ++ [] = x.data.toList ++ []
    rfl
  | x :: y :: r => by
    have ih := join_nm (y :: r)
    show x.data.toList ++ ([44] ++ Lib.join ((y :: r).map (·.data.toList)) [44]) = flt (wd x :: sg 44 :: nmI (y :: r))
    rw [ih, flt_cons, flt_cons]
    rfl
def nmJ (l : List ByteArray) : ByteArray := ⟨(flt (nmI l)).toArray⟩
theorem nmJ_len : ∀ l : List ByteArray, (∀ x ∈ l, x.size ≤ 16) → (flt (nmI l)).length ≤ 17 * l.length
  | [], _ => Nat.le_refl _
  | [x], h => by
    have := h x (by simp)
    show (x.data.toList ++ []).length ≤ 17
    simp only [List.length_append, List.length_nil, tlen]; omega
  | x :: y :: r, h => by
    have h1 := h x (by simp)
    have ih := nmJ_len (y :: r) fun z hz => h z (List.mem_cons_of_mem _ hz)
    show (x.data.toList ++ ([44] ++ flt (nmI (y :: r)))).length ≤ _
    rw [List.length_append, List.length_append, tlen, List.length_singleton]
    simp only [List.length_cons] at ih ⊢
    omega
theorem join_any (N : NL) (w : World) (hN : N.In w) (hs : ∀ x ∈ N.l, x.size ≤ 16) (hl : N.l.length ≤ 8) : Calls Tryz.prog 44 #[N.v, .string ⟨#[44]⟩] w fun e w' => e = .returned (.string (nmJ N.l)) ∧ Below w.heap.size w w' := by
  obtain ⟨xa, gb, ob, cap, l⟩ := N
  have hs : ∀ x ∈ l, x.size ≤ 16 := hs
  have hl : l.length ≤ 8 := hl
  have hlen := nmJ_len l hs
  by_cases h0 : l = []
  · subst h0
    refine (Tryz.strings_Join_none xa cap ⟨#[44]⟩ w).mono fun e w' q => ?_
    obtain ⟨rfl, rfl⟩ := q
    exact ⟨rfl, Below.refl _ _⟩
  · have hp : 0 < l.length := List.length_pos_iff.2 h0
    have hxa : xa = some ⟨gb, ob, none⟩ := hN.at_ hp
    subst hxa
    have hg : gb < w.heap.size := World.block_lt_of_cell? _ _ (hN.cell 0 l[0] (List.getElem?_eq_getElem hp)).1
    have := Tryz.strings_Join gb ob cap l ⟨#[44]⟩ w (fun j x hx => (hN.cell j x hx).1) hg (by omega) hN.cap (by
      show (Lib.join (l.map (·.data.toList)) [44]).length ≤ _
      rw [join_nm]; omega)
    have e : Lib.join (l.map (·.data.toList)) (⟨#[44]⟩ : ByteArray).data.toList = flt (nmI l) := join_nm l
    rw [e] at this
    exact this
end Go.Proofs.YtpphjddljngkmaaGreatDoor
