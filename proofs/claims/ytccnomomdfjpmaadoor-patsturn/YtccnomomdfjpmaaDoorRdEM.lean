/- The reader of patterns: texts in quotes. The reader of patterns: filled texts, kinds by their words, small tests. -/
import Derived.Test.YtccnomomdfjpmaaDoorRdCP
import Derived.Deep.RegionLaw
namespace Go.Proofs.YtccnomomdfjpmaaDoor
open Go.RowKit

theorem get_at (s : ByteArray) (k : Nat) (h : k < s.size) : s.data.toList.getD k 0 = s[k]'h := by
  have : k < s.data.toList.length := by simpa using h
  rw [List.getD, List.getElem?_eq_getElem this]; rfl
theorem bytes_but {w w' : World} {z B : Nat} {v : Value} {l : List UInt8} (h : Bytes w B v l) (hb : But z w w') (hz : ∀ c t f, w.heap[z]? = some (.cells c t f) → t ≠ 5) : Bytes w' B v l := by
  refine World.ownsRow.kept (row := some z) h ⟨hb.os, hb.tape, hb.output, hb.size, fun k hk hne => hb.block k hk fun e => hne (by rw [e])⟩ ?_
  refine .inr fun e => ?_
  rcases h.2 with ⟨rfl, _⟩ | ⟨g, cap, cur, rfl, _, hgg, _⟩
  · cases e
  · have e2 : g = z := by simpa [Value.ownBlock] using e
    subst e2
    exact hz _ _ _ hgg rfl
theorem out_strR {w : World} {B : Nat} {v : Value} {l : List UInt8} (ho : Bytes w B v l) :
    (convert 39 9 v).run Tryd.prog w = .ok (.string ⟨l.toArray⟩) w := by
  rcases ho.2 with ⟨rfl, h0⟩ | ⟨g, cap, cur, rfl, _, _, _, _, _, _⟩
  · have : l = [] := List.eq_nil_of_length_eq_zero h0
    subst this
    exact run_convert_bytes_nil (P := Tryd.prog) w 39 5 Tryd.underlying39 Tryd.underlying5 0 0 9 Tryd.underlying9
  · exact run_convert_bytes_back (P := Tryd.prog) w 39 9 5 ⟨g, 0, none⟩ cap l Tryd.underlying39 Tryd.underlying5 Tryd.underlying9 (fun j hj => World.ownsRow.cells ho rfl j _ (by simp only [List.getElem?_map, List.getElem?_eq_getElem hj, Option.map_some, bc]))
theorem new_byte (w : World) (b : UInt8) : (((w.alloc (.cells #[.int .u8 (b.toNat : Int)] 5)).drew).drew.drew).cell? ⟨w.heap.size, 0, none⟩ = some (bc b) := by
  show (w.alloc (.cells #[bc b] 5)).cell? ⟨w.heap.size, 0, none⟩ = _
  rw [cell_of_row _ _ _ _ _ _ (at_new rfl)]; rfl
theorem new_byte1 (w : World) (b : UInt8) : ((w.alloc (.cells #[.int .u8 (b.toNat : Int)] 5)).drew).cell? ⟨w.heap.size, 0, none⟩ = some (bc b) := new_byte w b
theorem rdr_bel {W w' : World} {z B k : Nat} {s : ByteArray} {o : Int} (h : Rdr W z s k o) (hb : Below B W w') (hz : z < B) : Rdr w' z s k o := (hb.block z hz).trans h
theorem but_bel {w W w' : World} {z : Nat} (h : But z w W) (hb : Below w.heap.size W w') : But z w w' :=
  ⟨hb.os.trans h.os, hb.tape.trans h.tape, hb.output.trans h.output, Nat.le_trans h.size hb.size, fun k hk hz => (hb.block k hk).trans (h.block k hk hz)⟩
theorem Rdr.ty {w : World} {z k : Nat} {s : ByteArray} {o : Int} (h : Rdr w z s k o) : ∀ c t f, w.heap[z]? = some (.cells c t f) → t ≠ 5 := fun c t f q => by
  rw [h] at q
  injection q with q
  injection q with _ q2 _
  rw [← q2]; decide
theorem quo_end {s : ByteArray} {i j k z : Nat} {o : Int} {w w5 wr : World} {v : Value} {L : List UInt8} (hk : k < s.size) (hL : L.length ≤ k + 1)
    (hR : Rdr w5 z s k o) (hB : But z w w5) (hY : Bytes w5 w.heap.size v L) (hm : atIn wr z = j) (hj : j ≤ k) (hC : cq s (i + 1) = cq s (k + 1) ∧ ct s (i + 1) = L ++ ct s (k + 1)) :
    (∃ (k2 : Nat) (L : List UInt8), k2 ≤ s.size ∧ L.length ≤ k2 ∧ Hid (Rdr (w5.setCell ⟨z, 1, none⟩ (.int .i64 ((k : Int) + 1))) z s k2 o) ∧ Hid (But z w (w5.setCell ⟨z, 1, none⟩ (.int .i64 ((k : Int) + 1)))) ∧ Hid (Bytes (w5.setCell ⟨z, 1, none⟩ (.int .i64 ((k : Int) + 1))) w.heap.size v L) ∧ Hid (cq s (i + 1) = cq s k2 ∧ ct s (i + 1) = L ++ ct s k2)) ∧
    s.size - atIn (w5.setCell ⟨z, 1, none⟩ (.int .i64 ((k : Int) + 1))) z < s.size - atIn wr z := by
  have h1 := hR.set1 (k + 1)
  have h2 := h1.at
  have h3 : atIn (w5.setCell ⟨z, 1, none⟩ (.int .i64 ((k : Int) + 1))) z = k + 1 := h2
  exact ⟨⟨k + 1, L, hk, hL, h1, hB.setCell 1 _, bytes_but hY ((But.refl z w5).setCell 1 _) hR.ty, hC⟩, by rw [h3, hm]; omega⟩
set_option maxRecDepth 100000 in
set_option maxHeartbeats 4000000 in
theorem rdQuoted_any {s : ByteArray} {i z : Nat} {o : Int} (w : World) (hs : s.size ≤ 65536) (hi : i < s.size) (hR : Rdr w z s i o) : Calls Tryd.prog 84 #[.pointer (some ⟨z, 0, none⟩)] w fun e w' => RdPost strV z s o w (qtP s i) e w' := by
  have c1 := hR.c1
  have fz := hR.fz 1
  have HR0 := hide (hR.set1 (i + 1))
  have HB0 := hide ((But.refl z w).setCell 1 (.int .i64 ((i : Int) + 1)))
  have hzl := hR.lt
  clear hR
  go_enter Tryd.func84, Tryd.ntmps84
  go_wp2_with fail
  clear c1 fz
  go_loopw [3] (fun v wr => ∃ (k : Nat) (L : List UInt8), k ≤ s.size ∧ L.length ≤ k ∧ Hid (Rdr wr z s k o) ∧ Hid (But z w wr) ∧ Hid (Bytes wr w.heap.size v L) ∧ Hid (cq s (i + 1) = cq s k ∧ ct s (i + 1) = L ++ ct s k)) (fun _ wr => s.size - atIn wr z)
  case atStart => exact ⟨i + 1, [], by omega, by simp, unhide HR0, unhide HB0, World.ownsRow_nil _ _ _ _, rfl, rfl⟩
  case round =>
    obtain ⟨k, L, hk, hLk, HR, HB, HY, HC⟩ := hrel
    have c0 := (unhide HR).c0
    have c1 := (unhide HR).c1
    have fz := (unhide HR).fz 1
    have HM := hide (unhide HR).at
    rcases Nat.lt_or_ge k s.size with hlt | hge
    · have hg : (k : Int) < (s.size : Int) := by omega
      have HG := hide (get_at s k hlt)
      have HBA := hide (bat_at s k hlt)
      by_cases h39 : bat s k = 39
      · have hb39 : (((s[k]'hlt).toNat : Int) == 39) = true := by rw [unhide HBA, h39]; rfl
        have HR1 := hide (show Rdr ((wr.drew.drew).setCell ⟨z, 1, none⟩ (.int .i64 ((k + 1 : Nat) : Int))) z s (k + 1) o from ((unhide HR).below ((Below.refl _ _).drew.drew)).set1 (k + 1))
        have HB1 := hide (show But z w ((wr.drew.drew).setCell ⟨z, 1, none⟩ (.int .i64 ((k + 1 : Nat) : Int))) from ((unhide HB).trans (But.of_below (Below.refl _ _).drew.drew)).setCell 1 _)
        have HY1 := hide (show Bytes ((wr.drew.drew).setCell ⟨z, 1, none⟩ (.int .i64 ((k + 1 : Nat) : Int))) w.heap.size _ L from bytes_but ((unhide HY).later (Below.refl _ _).drew.drew) ((But.refl z _).setCell 1 _) ((unhide HR).below ((Below.refl _ _).drew.drew)).ty)
        have HH := hide (fun w h => here_any (z := z) (o := o) (s := s) (i := k + 1) w hs (by omega) h)
        by_cases h40 : bat s (k + 1) = 39
        · have hlt2 : k + 1 < s.size := bat_in (by omega)
          have HG2 := hide (get_at s (k + 1) hlt2)
          have HBA2 := hide (bat_at s (k + 1) hlt2)
          have HC2 := hide (show cq s (i + 1) = cq s (k + 1 + 1) ∧ ct s (i + 1) = (L ++ [s[k + 1]'hlt2]) ++ ct s (k + 1 + 1) by
            have e39 : s[k + 1]'hlt2 = 39 := by
              have h := unhide HBA2
              rw [h40] at h
              exact UInt8.toNat_inj.1 h
            rw [(unhide HC).1, (unhide HC).2, cq_two h39 h40, ct_two h39 h40, e39, List.append_assoc]
            exact ⟨rfl, rfl⟩)
          rw [h40] at HH
          clear h39 h40
          go_wp2_with fail
          go_region
          go_wp2_with fail
          go_region
          go_wp2_with fail
          refine (unhide HH _ (unhide HR1)).mono ?_
          rintro e w3 ⟨rfl, hb⟩
          have HB3 := hide ((unhide HB1).trans (But.of_below hb))
          have H3 := hide ((unhide HR1).below hb)
          have HY3 := hide ((unhide HY1).later hb)
          clear hb c0 c1 fz HR1 HB1 HY1
          have c0 := (unhide H3).c0
          have c1 := (unhide H3).c1
          have fz := (unhide H3).fz 1
          have hsz := (unhide HB3).size
          have hg2 : ((k + 1 : Nat) : Int) < (s.size : Int) := by omega
          have HK2 := hide (show ((k : Int) + 1) = ((k + 1 : Nat) : Int) by omega)
          generalize k + 1 = k2 at *
          go_wp2_with fail
          go_region_law (refine step_byte rfl _ _ rfl w.heap.size _ L (s[k2]'hlt2) w3.heap.size rfl rfl ((unhide HY3).later ((((Below.refl _ _).alloc (Nat.le_refl _) _).drew))) (new_byte1 w3 (s[k2]'hlt2)) (by simp; omega) (by omega) ?_; intro v' w' hby hbel hkept)
          all_goals (
            have H5 := hide (rdr_bel ((unhide H3).below ((((Below.refl _ _).alloc (Nat.le_refl _) _).drew))) hbel hzl)
            have HB5 := hide (but_bel ((unhide HB3).trans (But.of_below ((((Below.refl _ _).alloc (Nat.le_refl _) _).drew)))) hbel)
            have HY5 := hide hby
            clear hby hbel hkept c0 c1 fz
            have c1 := (unhide H5).c1
            have fz := (unhide H5).fz 1
            go_wp2_with fail
            exact quo_end hlt2 (by have h := unhide HK2; simp; omega) (unhide H5) (unhide HB5) (unhide HY5) (unhide HM) (by have h := unhide HK2; omega) (unhide HC2))
        · have HC2 := hide (show cq s (i + 1) = k ∧ ct s (i + 1) = L by
            rw [(unhide HC).1, (unhide HC).2, cq_here h39 h40, ct_here h39 h40, List.append_nil]
            exact ⟨rfl, rfl⟩)
          have HQ := hide (show qtP s i = .ok (⟨L.toArray⟩, k + 1) by
            unfold qtP
            rw [(unhide HC2).1, (unhide HC2).2, if_pos hlt])
          have hne : (((bat s (k + 1) : Nat) : Int) == 39) = false := by rw [beq_eq_false_iff_ne]; omega
          clear h39 h40
          go_wp2_with fail
          go_region
          go_wp2_with fail
          go_region
          go_wp2_with fail
          refine (unhide HH _ (unhide HR1)).mono ?_
          rintro e w3 ⟨rfl, hb⟩
          have HB3 := hide ((unhide HB1).trans (But.of_below hb))
          have H3 := hide ((unhide HR1).below hb)
          have hout := out_strR ((unhide HY1).later hb)
          clear hb c0 c1 fz HR1 HB1 HY1
          go_wp2_with fail
          go_ret
          exact post_ok (unhide HQ) (unhide HB3) rfl (unhide H3)
      · have hb39 : (((s[k]'hlt).toNat : Int) == 39) = false := by rw [unhide HBA, beq_eq_false_iff_ne]; omega
        have HC2 := hide (show cq s (i + 1) = cq s (k + 1) ∧ ct s (i + 1) = (L ++ [s[k]'hlt]) ++ ct s (k + 1) by
          rw [(unhide HC).1, (unhide HC).2, cq_plain hlt h39, ct_plain hlt h39, unhide HG, List.append_assoc]
          exact ⟨rfl, rfl⟩)
        clear h39
        go_wp2_with fail
        go_region
        go_wp2_with fail
        go_region
        go_wp2_with fail
        have hsz := (unhide HB).size
        go_region_law (refine step_byte rfl _ _ rfl w.heap.size _ L (s[k]'hlt) wr.heap.size rfl rfl ((unhide HY).later (((((Below.refl _ _).alloc (Nat.le_refl _) _).drew).drew).drew)) (new_byte wr (s[k]'hlt)) (by simp; omega) (by omega) ?_; intro v' w' hby hbel hkept)
        all_goals (
          have H5 := hide (rdr_bel ((unhide HR).below ((((Below.refl _ _).alloc (Nat.le_refl _) _).drew).drew.drew)) hbel hzl)
          have HB5 := hide (but_bel ((unhide HB).trans (But.of_below ((((Below.refl _ _).alloc (Nat.le_refl _) _).drew).drew.drew))) hbel)
          have HY5 := hide hby
          clear hby hbel hkept c0 c1 fz
          have c1 := (unhide H5).c1
          have fz := (unhide H5).fz 1
          go_wp2_with fail
          exact quo_end hlt (by simp; omega) (unhide H5) (unhide HB5) (unhide HY5) (unhide HM) (Nat.le_refl _) (unhide HC2))
    · obtain rfl : k = s.size := by omega
      have hg : ¬ (s.size : Int) < (s.size : Int) := by omega
      have HQ := hide (show qtP s i = .error (2, s.size) by
        unfold qtP
        rw [(unhide HC).1, cq_end (Nat.le_refl _), if_neg (by omega)])
      have HST := hide (fun w h => stop_any (z := z) (s := s) (i := s.size) (o := o) w h)
      go_wp2_with fail
      go_region
      go_wp2_with (refine (unhide HST _ ((unhide HR).below (Below.refl _ _).drew)).mono ?_; rintro e w ⟨rfl, rfl⟩; unfold thr)
      exact ⟨rfl, post_err (unhide HQ) ((unhide HB).trans (But.of_below (Below.refl _ _).drew)) rfl⟩
end Go.Proofs.YtccnomomdfjpmaaDoor

namespace Go.Proofs.YtccnomomdfjpmaaDoor
open Go.RowKit

set_option maxHeartbeats 2000000 in
theorem filled_any {s : ByteArray} {i z : Nat} {o : Int} (w : World) (hs : s.size ≤ 65536) (hi : i ≤ s.size) (hR : Rdr w z s i o) : Calls Tryd.prog 103 #[.pointer (some ⟨z, 0, none⟩)] w fun e w' => RdPost strV z s o w (fiP s i) e w' := by
  have hks := sk_le s i hi
  have HN := hide (next_any w hs hi hR)
  have HQ := hide (fun w (q : sk s i < s.size) h => rdQuoted_any (z := z) (o := o) w hs q h)
  unfold fiP
  clear hR
  by_cases h1 : nx s i = 39
  · have hlt := nx_in (s := s) (i := i) (by omega)
    rw [if_pos h1]
    have HQ2 := hide (fun w h => unhide HQ w hlt h)
    clear HQ
    rw [h1] at HN
    clear h1 hlt
    obtain ⟨R, hq⟩ : ∃ R, qtP s (sk s i) = R := ⟨_, rfl⟩
    rw [hq] at HQ2 ⊢
    clear hq
    generalize sk s i = k at *
    rcases R with ⟨er, at'⟩ | ⟨t, j⟩
    · show Calls _ _ _ _ fun e w' => RdPost strV z s o w (.error (er, at')) e w'
      go_enter Tryd.func103, Tryd.ntmps103
      go_wp2_with fail
      refine (unhide HN).mono ?_
      rintro e w2 ⟨rfl, hb, hR2⟩
      have HB := hide hb
      have H2 := hide hR2
      have c1 := hR2.c1
      clear hb hR2
      go_wp2_with (refine (unhide HQ2 _ (unhide H2)).mono ?_; intro e w3 hP; obtain ⟨hb3, rfl⟩ := of_err hP rfl; clear hP; have HB3 := hide ((unhide HB).trans hb3); clear hb3; unfold thr)
      exact ⟨rfl, post_err rfl (unhide HB3) rfl⟩
    · by_cases ht : t.size = 0
      · rw [bnd_ok, if_pos ht]
        have he := isEmpty_true t ht
        have HT := hide (fun w => throw_any 8 k w)
        clear ht
        go_enter Tryd.func103, Tryd.ntmps103
        go_wp2_with fail
        refine (unhide HN).mono ?_
        rintro e w2 ⟨rfl, hb, hR2⟩
        have HB := hide hb
        have H2 := hide hR2
        have c1 := hR2.c1
        clear hb hR2
        go_wp2_with fail
        refine (unhide HQ2 _ (unhide H2)).mono ?_
        intro e w3 hP
        obtain ⟨hb3, hv, hR3⟩ := of_ok hP rfl
        unfold strV at hv
        subst hv
        have HB3 := hide ((unhide HB).trans hb3)
        clear hb3 hP hR3 c1
        go_wp2_with (refine (unhide HT _).mono ?_; rintro e w ⟨rfl, rfl⟩; unfold thr)
        exact ⟨rfl, post_err rfl (unhide HB3) rfl⟩
      · rw [bnd_ok, if_neg ht]
        have he := isEmpty_false t ht
        clear ht
        go_enter Tryd.func103, Tryd.ntmps103
        go_wp2_with fail
        refine (unhide HN).mono ?_
        rintro e w2 ⟨rfl, hb, hR2⟩
        have HB := hide hb
        have H2 := hide hR2
        have c1 := hR2.c1
        clear hb hR2
        go_wp2_with fail
        refine (unhide HQ2 _ (unhide H2)).mono ?_
        intro e w3 hP
        obtain ⟨hb3, hv, hR3⟩ := of_ok hP rfl
        unfold strV at hv
        subst hv
        have HB3 := hide ((unhide HB).trans hb3)
        have H3 := hide hR3
        clear hb3 hP hR3 c1
        go_wp2_with fail
        go_ret
        exact post_ok rfl (unhide HB3) rfl (unhide H3)
  · rw [if_neg h1]
    have hne : ((nx s i : Int) == 39) = false := by rw [beq_eq_false_iff_ne]; omega
    clear h1 HQ
    generalize sk s i = k at *
    generalize nx s i = b at *
    go_enter Tryd.func103, Tryd.ntmps103
    go_wp2_with fail
    refine (unhide HN).mono ?_
    rintro e w2 ⟨rfl, hb, hR2⟩
    have HB := hide hb
    have HS := hide (stop_any w2 hR2)
    clear hb hR2
    go_wp2_with (refine (unhide HS).mono ?_; rintro e w ⟨rfl, rfl⟩; unfold thr)
    exact ⟨rfl, post_err rfl (unhide HB) rfl⟩
theorem kwUp_le (t : ByteArray) : ∀ n, kwUp t n ≤ n
  | 0 => Nat.le_refl _
  | n + 1 => by
    rw [kwUp]
    have := kwUp_le t n
    split
    · omega
    · split <;> omega
theorem kwUp_stays (t : ByteArray) {m : Nat} (h : kwUp t m ≠ 0) : ∀ n, m ≤ n → kwUp t n = kwUp t m
  | 0, hn => by rw [show m = 0 by omega]
  | n + 1, hn => by
    rcases Nat.lt_or_ge m (n + 1) with q | q
    · have ih := kwUp_stays t h n (by omega)
      rw [kwUp, ih, if_pos h]
    · rw [show m = n + 1 by omega]
set_option maxRecDepth 100000 in
set_option maxHeartbeats 2000000 in
theorem kindOf_any (t : ByteArray) (w : World) (hS : Shapes w) : Calls Tryd.prog 101 #[.string t] w fun e w' => e = .returned (.int .i64 (kindW t : Int)) ∧ w' = w := by
  have HS := hide hS
  clear hS
  obtain ⟨K, hK⟩ : ∃ K, kindW t = K := ⟨_, rfl⟩
  rw [hK]
  have HKW := hide hK
  clear hK
  obtain ⟨f, hf⟩ : ∃ f, f = kwUp t := ⟨_, rfl⟩
  have HF := hide hf
  clear hf
  have HF0 := hide (show f 0 = 0 by rw [unhide HF]; rfl)
  go_enter Tryd.func101, Tryd.ntmps101
  go_wp2_with fail
  go_loop [3] (fun v => ∃ n : Nat, n ≤ 24 ∧ v = .int .i64 ((n : Int) + 1) ∧ Hid (f n = 0)) (fun v => 25 - (intOf v).toNat)
  case atStart => exact ⟨0, by omega, rfl, unhide HF0⟩
  case round =>
    obtain ⟨n, hn, rfl, HZ⟩ := hrel
    rcases Nat.lt_or_ge n 24 with hlt | hge
    · have hg : ((n : Int) + 1) ≤ 24 := by omega
      obtain ⟨a, -, -, -⟩ := unhide HS (n + 1) (by omega) (by omega)
      have HK := hide (show f (n + 1) = if wordK (n + 1) = t then n + 1 else 0 by rw [unhide HF, kwUp, if_neg (by rw [← unhide HF, unhide HZ]; simp)])
      have HW := hide (fun (q : f (n + 1) ≠ 0) => (show K = f (n + 1) by rw [← unhide HKW, unhide HF]; rw [unhide HF] at q; exact kwUp_stays t q 24 (by omega)))
      by_cases hw : wordK (n + 1) = t
      · have HK2 := hide (show K = n + 1 by
          have h1 : f (n + 1) = n + 1 := by rw [unhide HK, if_pos hw]
          rw [unhide HW (by rw [h1]; omega), h1])
        rw [hw] at a
        have he : (t.toList == t.toList) = true := by simp
        clear hw HK HW
        go_wp2_with fail
        go_ret
        exact ⟨by rw [unhide HK2]; rfl, rfl⟩
      · have HK2 := hide (show f (n + 1) = 0 by rw [unhide HK, if_neg hw])
        have he : ((wordK (n + 1)).toList == t.toList) = false := by
          rw [beq_eq_false_iff_ne]
          intro e
          apply hw
          rw [ByteArray.toList_eq, ByteArray.toList_eq] at e
          exact ByteArray.ext (Array.toList_inj.1 e)
        clear hw HK HW
        generalize wordK (n + 1) = W at *
        go_wp2_with fail
        exact ⟨⟨n + 1, by omega, by simp, unhide HK2⟩, by simp [intOf]; omega⟩
    · have HN := hide (show n = 24 by omega)
      have hg : ¬ ((n : Int) + 1) ≤ 24 := by omega
      have HK0 := hide (show K = 0 by rw [← unhide HKW, show kindW t = kwUp t 24 from rfl, ← unhide HF, ← unhide HN]; exact unhide HZ)
      go_wp2_with fail
      go_ret
      exact ⟨by rw [unhide HK0]; rfl, rfl⟩
set_option maxHeartbeats 400000 in
theorem giving_any (b : Nat) (w : World) : Calls Tryd.prog 70 #[.int .u8 (b : Int)] w fun e w' => e = .returned (.int .i64 (gvK b : Int)) ∧ w' = w := by
  unfold gvK
  by_cases h1 : b = 46
  · subst h1
    rw [if_pos rfl]
    go_enter Tryd.func70, Tryd.ntmps70
    go_wp2
    go_ret
    exact ⟨rfl, rfl⟩
  · rw [if_neg h1]
    have e1 : ((b : Int) == 46) = false := by rw [beq_eq_false_iff_ne]; omega
    by_cases h2 : b = 36
    · subst h2
      rw [if_pos rfl]
      go_enter Tryd.func70, Tryd.ntmps70
      go_wp2
      go_ret
      exact ⟨rfl, rfl⟩
    · rw [if_neg h2]
      have e2 : ((b : Int) == 36) = false := by rw [beq_eq_false_iff_ne]; omega
      clear h1 h2
      go_enter Tryd.func70, Tryd.ntmps70
      go_wp2
      go_ret
      exact ⟨rfl, rfl⟩
set_option maxHeartbeats 800000 in
theorem begins_any (b : Nat) (hb : b < 256) (w : World) : Calls Tryd.prog 56 #[.int .u8 (b : Int)] w fun e w' => e = .returned (.bool (begN b)) ∧ w' = w := by
  have HL := hide (isLetter_any b hb w)
  unfold begN
  generalize letterN b = x at *
  have k1 : ((b : Int) == 39) = decide (b = 39) := by rw [Bool.eq_iff_iff]; simp; omega
  have k2 : ((b : Int) == 40) = decide (b = 40) := by rw [Bool.eq_iff_iff]; simp; omega
  have k3 : ((b : Int) == 64) = decide (b = 64) := by rw [Bool.eq_iff_iff]; simp; omega
  have k4 : ((b : Int) == 42) = decide (b = 42) := by rw [Bool.eq_iff_iff]; simp; omega
  cases x
  · generalize decide (b = 39) = d1 at *
    generalize decide (b = 40) = d2 at *
    generalize decide (b = 64) = d3 at *
    generalize decide (b = 42) = d4 at *
    cases d1 <;> cases d2 <;> cases d3 <;> cases d4 <;> (
      go_enter Tryd.func56, Tryd.ntmps56
      go_wp2_with (refine (unhide HL).mono ?_; rintro e w ⟨rfl, rfl⟩)
      go_ret
      exact ⟨rfl, rfl⟩)
  · go_enter Tryd.func56, Tryd.ntmps56
    go_wp2_with (refine (unhide HL).mono ?_; rintro e w ⟨rfl, rfl⟩)
    go_ret
    exact ⟨rfl, rfl⟩
end Go.Proofs.YtccnomomdfjpmaaDoor
