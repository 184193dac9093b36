/- The reader of patterns: texts in quotes. The reader of patterns: filled texts, kinds by their words, small tests. The reader of patterns: rows of kids; what is made lies in new memory; pieces together. -/
import Derived.Test.YtpkmamgleofimaaGreatDoorRdCM
import Derived.Deep.RegionLaw
namespace Go.Proofs.YtpkmamgleofimaaGreatDoor
open Go.RowKit

theorem get_at (s : ByteArray) (k : Nat) (h : k < s.size) : s.data.toList.getD k 0 = s[k]'h := by
  have : k < s.data.toList.length := by simpa using h
  rw [List.getD, List.getElem?_eq_getElem this]; rfl
theorem bytes_but {w w' : World} {z B : Nat} {v : Value} {l : List UInt8} (h : Bytes w B v l) (hb : But z w w') (hz : ∀ c t f, w.heap[z]? = some (.cells c t f) → t ≠ 5) : Bytes w' B v l := by
  refine World.ownsRow.kept (row := some z) h ⟨hb.os, hb.tape, hb.output, hb.size, fun k hk hne => hb.block k hk fun e => hne (by rw [e])⟩ ?_
  refine .inr fun e => ?_
  rcases h.2 with ⟨rfl, _⟩ | ⟨g, cap, cur, rfl, _, hgg, _⟩
  · cases e
  · have e2 : g = z := by simpa [Value.ownBlock] using e
    subst e2
    exact hz _ _ _ hgg rfl
theorem out_strR {w : World} {B : Nat} {v : Value} {l : List UInt8} (ho : Bytes w B v l) :
    (convert 135 9 v).run Tryz.prog w = .ok (.string ⟨l.toArray⟩) w := by
  rcases ho.2 with ⟨rfl, h0⟩ | ⟨g, cap, cur, rfl, _, _, _, _, _, _⟩
  · have : l = [] := List.eq_nil_of_length_eq_zero h0
    subst this
    exact run_convert_bytes_nil (P := Tryz.prog) w 135 5 Tryz.underlying135 Tryz.underlying5 0 0 9 Tryz.underlying9
  · exact run_convert_bytes_back (P := Tryz.prog) w 135 9 5 ⟨g, 0, none⟩ cap l Tryz.underlying135 Tryz.underlying5 Tryz.underlying9 (fun j hj => World.ownsRow.cells ho rfl j _ (by simp only [List.getElem?_map, List.getElem?_eq_getElem hj, Option.map_some, bc]))
theorem new_byte (w : World) (b : UInt8) : (((w.alloc (.cells #[.int .u8 (b.toNat : Int)] 5)).drew).drew.drew).cell? ⟨w.heap.size, 0, none⟩ = some (bc b) := by
  show (w.alloc (.cells #[bc b] 5)).cell? ⟨w.heap.size, 0, none⟩ = _
  rw [cell_of_row _ _ _ _ _ _ (at_new rfl)]; rfl
theorem new_byte1 (w : World) (b : UInt8) : ((w.alloc (.cells #[.int .u8 (b.toNat : Int)] 5)).drew).cell? ⟨w.heap.size, 0, none⟩ = some (bc b) := new_byte w b
theorem rdr_bel {W w' : World} {z B k : Nat} {s : ByteArray} {o : Int} (h : Rdr W z s k o) (hb : Below B W w') (hz : z < B) : Rdr w' z s k o := (hb.block z hz).trans h
theorem but_bel {w W w' : World} {z : Nat} (h : But z w W) (hb : Below w.heap.size W w') : But z w w' :=
  ⟨hb.os.trans h.os, hb.tape.trans h.tape, hb.output.trans h.output, Nat.le_trans h.size hb.size, fun k hk hz => (hb.block k hk).trans (h.block k hk hz)⟩
theorem Rdr.ty {w : World} {z k : Nat} {s : ByteArray} {o : Int} (h : Rdr w z s k o) : ∀ c t f, w.heap[z]? = some (.cells c t f) → t ≠ 5 := fun c t f q => by
  rw [h] at q
  injection q with q
  injection q with _ q2 _
  rw [← q2]; decide
theorem quo_end {s : ByteArray} {i j k z : Nat} {o : Int} {w w5 wr : World} {v : Value} {L : List UInt8} (hk : k < s.size) (hL : L.length ≤ k + 1)
    (hR : Rdr w5 z s k o) (hB : But z w w5) (hY : Bytes w5 w.heap.size v L) (hm : atIn wr z = j) (hj : j ≤ k) (hC : cq s (i + 1) = cq s (k + 1) ∧ ct s (i + 1) = L ++ ct s (k + 1)) :
    (∃ (k2 : Nat) (L : List UInt8), k2 ≤ s.size ∧ L.length ≤ k2 ∧ Hid (Rdr (w5.setCell ⟨z, 1, none⟩ (.int .i64 ((k : Int) + 1))) z s k2 o) ∧ Hid (But z w (w5.setCell ⟨z, 1, none⟩ (.int .i64 ((k : Int) + 1)))) ∧ Hid (Bytes (w5.setCell ⟨z, 1, none⟩ (.int .i64 ((k : Int) + 1))) w.heap.size v L) ∧ Hid (cq s (i + 1) = cq s k2 ∧ ct s (i + 1) = L ++ ct s k2)) ∧
    s.size - atIn (w5.setCell ⟨z, 1, none⟩ (.int .i64 ((k : Int) + 1))) z < s.size - atIn wr z := by
  have h1 := hR.set1 (k + 1)
  have h2 := h1.at
  have h3 : atIn (w5.setCell ⟨z, 1, none⟩ (.int .i64 ((k : Int) + 1))) z = k + 1 := h2
  exact ⟨⟨k + 1, L, hk, hL, h1, hB.setCell 1 _, bytes_but hY ((But.refl z w5).setCell 1 _) hR.ty, hC⟩, by rw [h3, hm]; omega⟩
set_option maxRecDepth 100000 in
set_option maxHeartbeats 4000000 in
theorem rdQuoted_any {s : ByteArray} {i z : Nat} {o : Int} (w : World) (hs : s.size ≤ 65536) (hi : i < s.size) (hR : Rdr w z s i o) : Calls Tryz.prog 142 #[.pointer (some ⟨z, 0, none⟩)] w fun e w' => RdPost strV z s o w (qtP s i) e w' := by
  have c1 := hR.c1
  have fz := hR.fz 1
  have HR0 := hide (hR.set1 (i + 1))
  have HB0 := hide ((But.refl z w).setCell 1 (.int .i64 ((i : Int) + 1)))
  have hzl := hR.lt
  clear hR
  go_enter Tryz.func142, Tryz.ntmps142
  go_wp2_with fail
  clear c1 fz
  go_loopw [3] (fun v wr => ∃ (k : Nat) (L : List UInt8), k ≤ s.size ∧ L.length ≤ k ∧ Hid (Rdr wr z s k o) ∧ Hid (But z w wr) ∧ Hid (Bytes wr w.heap.size v L) ∧ Hid (cq s (i + 1) = cq s k ∧ ct s (i + 1) = L ++ ct s k)) (fun _ wr => s.size - atIn wr z)
  case atStart => exact ⟨i + 1, [], by omega, by simp, unhide HR0, unhide HB0, World.ownsRow_nil _ _ _ _, rfl, rfl⟩
  case round =>
    obtain ⟨k, L, hk, hLk, HR, HB, HY, HC⟩ := hrel
    have c0 := (unhide HR).c0
    have c1 := (unhide HR).c1
    have fz := (unhide HR).fz 1
    have HM := hide (unhide HR).at
    rcases Nat.lt_or_ge k s.size with hlt | hge
    · have hg : (k : Int) < (s.size : Int) := by omega
      have HG := hide (get_at s k hlt)
      have HBA := hide (bat_at s k hlt)
      by_cases h39 : bat s k = 39
      · have hb39 : (((s[k]'hlt).toNat : Int) == 39) = true := by rw [unhide HBA, h39]; rfl
        have HR1 : Hid (Rdr ((wr.drew.drew).setCell ⟨z, 1, none⟩ (.int .i64 ((k + 1 : Nat) : Int))) z s (k + 1) o) := hide (((unhide HR).below ((Below.refl _ _).drew.drew)).set1 (k + 1))
        have HB1 : Hid (But z w ((wr.drew.drew).setCell ⟨z, 1, none⟩ (.int .i64 ((k + 1 : Nat) : Int)))) := hide (((unhide HB).trans (But.of_below (Below.refl _ _).drew.drew)).setCell 1 _)
        have HY1 : Hid (Bytes ((wr.drew.drew).setCell ⟨z, 1, none⟩ (.int .i64 ((k + 1 : Nat) : Int))) w.heap.size _ L) := hide (bytes_but ((unhide HY).later (Below.refl _ _).drew.drew) ((But.refl z _).setCell 1 _) ((unhide HR).below ((Below.refl _ _).drew.drew)).ty)
        have HH := hide (fun w h => here_any (z := z) (o := o) (s := s) (i := k + 1) w hs (by omega) h)
        by_cases h40 : bat s (k + 1) = 39
        · have hlt2 : k + 1 < s.size := bat_in (by omega)
          have HG2 := hide (get_at s (k + 1) hlt2)
          have HBA2 := hide (bat_at s (k + 1) hlt2)
          have HC2 : Hid (cq s (i + 1) = cq s (k + 1 + 1) ∧ ct s (i + 1) = (L ++ [s[k + 1]'hlt2]) ++ ct s (k + 1 + 1)) := hide (by
            have e39 : s[k + 1]'hlt2 = 39 := by
              have h := unhide HBA2
              rw [h40] at h
              exact UInt8.toNat_inj.1 h
            rw [(unhide HC).1, (unhide HC).2, cq_two h39 h40, ct_two h39 h40, e39, List.append_assoc]
            exact ⟨rfl, rfl⟩)
          rw [h40] at HH
          clear h39 h40
          go_wp2_with fail
          go_region
          go_wp2_with fail
          go_region
          go_wp2_with fail
          refine (unhide HH _ (unhide HR1)).mono ?_
          rintro e w3 ⟨rfl, hb⟩
          have HB3 := hide ((unhide HB1).trans (But.of_below hb))
          have H3 := hide ((unhide HR1).below hb)
          have HY3 := hide ((unhide HY1).later hb)
          clear hb c0 c1 fz HR1 HB1 HY1
          have c0 := (unhide H3).c0
          have c1 := (unhide H3).c1
          have fz := (unhide H3).fz 1
          have hsz := (unhide HB3).size
          have hg2 : ((k + 1 : Nat) : Int) < (s.size : Int) := by omega
          have HK2 : Hid (((k : Int) + 1) = ((k + 1 : Nat) : Int)) := hide (by omega)
          generalize k + 1 = k2 at *
          go_wp2_with fail
          go_region_law (refine step_byte rfl _ _ rfl w.heap.size _ L (s[k2]'hlt2) w3.heap.size rfl rfl ((unhide HY3).later (((ba _).drew))) (new_byte1 w3 (s[k2]'hlt2)) (by simp; omega) (by omega) ?_; intro v' w' hby hbel hkept)
          all_goals (
            have H5 := hide (rdr_bel ((unhide H3).below (((ba _).drew))) hbel hzl)
            have HB5 := hide (but_bel ((unhide HB3).trans (But.of_below (((ba _).drew)))) hbel)
            have HY5 := hide hby
            clear hby hbel hkept c0 c1 fz
            have c1 := (unhide H5).c1
            have fz := (unhide H5).fz 1
            go_wp2_with fail
            exact quo_end hlt2 (by have h := unhide HK2; simp; omega) (unhide H5) (unhide HB5) (unhide HY5) (unhide HM) (by have h := unhide HK2; omega) (unhide HC2))
        · have HC2 : Hid (cq s (i + 1) = k ∧ ct s (i + 1) = L) := hide (by
            rw [(unhide HC).1, (unhide HC).2, cq_here h39 h40, ct_here h39 h40, List.append_nil]
            exact ⟨rfl, rfl⟩)
          have HQ : Hid (qtP s i = .ok (⟨L.toArray⟩, k + 1)) := hide (by
            unfold qtP
            rw [(unhide HC2).1, (unhide HC2).2, if_pos hlt])
          have hne : (((bat s (k + 1) : Nat) : Int) == 39) = false := bn
          clear h39 h40
          go_wp2_with fail
          go_region
          go_wp2_with fail
          go_region
          go_wp2_with fail
          refine (unhide HH _ (unhide HR1)).mono ?_
          rintro e w3 ⟨rfl, hb⟩
          have HB3 := hide ((unhide HB1).trans (But.of_below hb))
          have H3 := hide ((unhide HR1).below hb)
          have hout := out_strR ((unhide HY1).later hb)
          clear hb c0 c1 fz HR1 HB1 HY1
          go_wp2_with fail
          go_ret
          exact post_ok (unhide HQ) (unhide HB3) rfl (unhide H3)
      · have hb39 : (((s[k]'hlt).toNat : Int) == 39) = false := by rw [unhide HBA, beq_eq_false_iff_ne]; omega
        have HC2 : Hid (cq s (i + 1) = cq s (k + 1) ∧ ct s (i + 1) = (L ++ [s[k]'hlt]) ++ ct s (k + 1)) := hide (by
          rw [(unhide HC).1, (unhide HC).2, cq_plain hlt h39, ct_plain hlt h39, unhide HG, List.append_assoc]
          exact ⟨rfl, rfl⟩)
        clear h39
        go_wp2_with fail
        go_region
        go_wp2_with fail
        go_region
        go_wp2_with fail
        have hsz := (unhide HB).size
        go_region_law (refine step_byte rfl _ _ rfl w.heap.size _ L (s[k]'hlt) wr.heap.size rfl rfl ((unhide HY).later ((((ba _).drew).drew).drew)) (new_byte wr (s[k]'hlt)) (by simp; omega) (by omega) ?_; intro v' w' hby hbel hkept)
        all_goals (
          have H5 := hide (rdr_bel ((unhide HR).below (((ba _).drew).drew.drew)) hbel hzl)
          have HB5 := hide (but_bel ((unhide HB).trans (But.of_below (((ba _).drew).drew.drew))) hbel)
          have HY5 := hide hby
          clear hby hbel hkept c0 c1 fz
          have c1 := (unhide H5).c1
          have fz := (unhide H5).fz 1
          go_wp2_with fail
          exact quo_end hlt (by simp; omega) (unhide H5) (unhide HB5) (unhide HY5) (unhide HM) (Nat.le_refl _) (unhide HC2))
    · obtain rfl : k = s.size := by omega
      have hg : ¬ (s.size : Int) < (s.size : Int) := by omega
      have HQ : Hid (qtP s i = .error (2, s.size)) := hide (by
        unfold qtP
        rw [(unhide HC).1, cq_end (Nat.le_refl _), if_neg (by omega)])
      have HST := hide (fun w h => stop_any (z := z) (s := s) (i := s.size) (o := o) w h)
      go_wp2_with fail
      go_region
      go_wp2_with (refine (unhide HST _ ((unhide HR).below (Below.refl _ _).drew)).mono ?_; rintro e w ⟨rfl, rfl⟩; unfold thr)
      exact ⟨rfl, post_err (unhide HQ) ((unhide HB).trans (But.of_below (Below.refl _ _).drew)) rfl⟩
end Go.Proofs.YtpkmamgleofimaaGreatDoor

namespace Go.Proofs.YtpkmamgleofimaaGreatDoor
open Go.RowKit

set_option maxHeartbeats 2000000 in
theorem filled_any {s : ByteArray} {i z : Nat} {o : Int} (w : World) (hs : s.size ≤ 65536) (hi : i ≤ s.size) (hR : Rdr w z s i o) : Calls Tryz.prog 152 #[.pointer (some ⟨z, 0, none⟩)] w fun e w' => RdPost strV z s o w (fiP s i) e w' := by
  have hks := sk_le s i hi
  have HN := hide (next_any w hs hi hR)
  have HQ := hide (fun w (q : sk s i < s.size) h => rdQuoted_any (z := z) (o := o) w hs q h)
  unfold fiP
  clear hR
  by_cases h1 : nx s i = 39
  · have hlt := nx_in (s := s) (i := i) (by omega)
    rw [if_pos h1]
    have HQ2 := hide (fun w h => unhide HQ w hlt h)
    clear HQ
    rw [h1] at HN
    clear h1 hlt
    obtain ⟨R, hq⟩ : ∃ R, qtP s (sk s i) = R := ⟨_, rfl⟩
    rw [hq] at HQ2 ⊢
    clear hq
    generalize sk s i = k at *
    rcases R with ⟨er, at'⟩ | ⟨t, j⟩
    · show Calls _ _ _ _ fun e w' => RdPost strV z s o w (.error (er, at')) e w'
      go_enter Tryz.func152, Tryz.ntmps152
      go_wp2_with fail
      refine (unhide HN).mono ?_
      rintro e w2 ⟨rfl, hb, hR2⟩
      have HB := hide hb
      have H2 := hide hR2
      have c1 := hR2.c1
      clear hb hR2
      go_wp2_with (refine (unhide HQ2 _ (unhide H2)).mono ?_; intro e w3 hP; obtain ⟨hb3, rfl⟩ := of_err hP rfl; clear hP; have HB3 := hide ((unhide HB).trans hb3); clear hb3; unfold thr)
      exact ⟨rfl, post_err rfl (unhide HB3) rfl⟩
    · by_cases ht : t.size = 0
      · rw [bnd_ok, if_pos ht]
        have he := isEmpty_true t ht
        have HT := hide (fun w => throw_any 8 k w)
        clear ht
        go_enter Tryz.func152, Tryz.ntmps152
        go_wp2_with fail
        refine (unhide HN).mono ?_
        rintro e w2 ⟨rfl, hb, hR2⟩
        have HB := hide hb
        have H2 := hide hR2
        have c1 := hR2.c1
        clear hb hR2
        go_wp2_with fail
        refine (unhide HQ2 _ (unhide H2)).mono ?_
        intro e w3 hP
        obtain ⟨hb3, hv, hR3⟩ := of_ok hP rfl
        unfold strV at hv
        subst hv
        have HB3 := hide ((unhide HB).trans hb3)
        clear hb3 hP hR3 c1
        go_wp2_with (refine (unhide HT _).mono ?_; rintro e w ⟨rfl, rfl⟩; unfold thr)
        exact ⟨rfl, post_err rfl (unhide HB3) rfl⟩
      · rw [bnd_ok, if_neg ht]
        have he := isEmpty_false t ht
        clear ht
        go_enter Tryz.func152, Tryz.ntmps152
        go_wp2_with fail
        refine (unhide HN).mono ?_
        rintro e w2 ⟨rfl, hb, hR2⟩
        have HB := hide hb
        have H2 := hide hR2
        have c1 := hR2.c1
        clear hb hR2
        go_wp2_with fail
        refine (unhide HQ2 _ (unhide H2)).mono ?_
        intro e w3 hP
        obtain ⟨hb3, hv, hR3⟩ := of_ok hP rfl
        unfold strV at hv
        subst hv
        have HB3 := hide ((unhide HB).trans hb3)
        have H3 := hide hR3
        clear hb3 hP hR3 c1
        go_wp2_with fail
        go_ret
        exact post_ok rfl (unhide HB3) rfl (unhide H3)
  · rw [if_neg h1]
    have hne : ((nx s i : Int) == 39) = false := bn
    clear h1 HQ
    generalize sk s i = k at *
    generalize nx s i = b at *
    go_enter Tryz.func152, Tryz.ntmps152
    go_wp2_with fail
    refine (unhide HN).mono ?_
    rintro e w2 ⟨rfl, hb, hR2⟩
    have HB := hide hb
    have HS := hide (stop_any w2 hR2)
    clear hb hR2
    go_wp2_with (refine (unhide HS).mono ?_; rintro e w ⟨rfl, rfl⟩; unfold thr)
    exact ⟨rfl, post_err rfl (unhide HB) rfl⟩
theorem kwUp_le (t : ByteArray) : ∀ n, kwUp t n ≤ n
  | 0 => Nat.le_refl _
  | n + 1 => by
    rw [kwUp]
    have := kwUp_le t n
    split
    · omega
    · split <;> omega
theorem kwUp_stays (t : ByteArray) {m : Nat} (h : kwUp t m ≠ 0) : ∀ n, m ≤ n → kwUp t n = kwUp t m
  | 0, hn => by rw [show m = 0 by omega]
  | n + 1, hn => by
    rcases Nat.lt_or_ge m (n + 1) with q | q
    · have ih := kwUp_stays t h n (by omega)
      rw [kwUp, ih, if_pos h]
    · rw [show m = n + 1 by omega]
set_option maxRecDepth 100000 in
set_option maxHeartbeats 2000000 in
theorem kindOf_any (t : ByteArray) (w : World) (hS : Shapes w) : Calls Tryz.prog 150 #[.string t] w fun e w' => e = .returned (.int .i64 (kindW t : Int)) ∧ w' = w := by
  have HS := hide hS
  clear hS
  obtain ⟨K, hK⟩ : ∃ K, kindW t = K := ⟨_, rfl⟩
  rw [hK]
  have HKW := hide hK
  clear hK
  obtain ⟨f, hf⟩ : ∃ f, f = kwUp t := ⟨_, rfl⟩
  have HF := hide hf
  clear hf
  have HF0 : Hid (f 0 = 0) := hide (by rw [unhide HF]; rfl)
  go_enter Tryz.func150, Tryz.ntmps150
  go_wp2_with fail
  go_loop [3] (fun v => ∃ n : Nat, n ≤ 24 ∧ v = .int .i64 ((n : Int) + 1) ∧ Hid (f n = 0)) (fun v => 25 - (intOf v).toNat)
  case atStart => exact ⟨0, by omega, rfl, unhide HF0⟩
  case round =>
    obtain ⟨n, hn, rfl, HZ⟩ := hrel
    rcases Nat.lt_or_ge n 24 with hlt | hge
    · have hg : ((n : Int) + 1) ≤ 24 := by omega
      obtain ⟨a, -, -, -⟩ := unhide HS (n + 1) (by omega) (by omega)
      have HK : Hid (f (n + 1) = if wordK (n + 1) = t then n + 1 else 0) := hide (by rw [unhide HF, kwUp, if_neg (by rw [← unhide HF, unhide HZ]; simp)])
      have HW := hide (fun (q : f (n + 1) ≠ 0) => (show K = f (n + 1) by rw [← unhide HKW, unhide HF]; rw [unhide HF] at q; exact kwUp_stays t q 24 (by omega)))
      by_cases hw : wordK (n + 1) = t
      · have HK2 : Hid (K = n + 1) := hide (by
          have h1 : f (n + 1) = n + 1 := by rw [unhide HK, if_pos hw]
          rw [unhide HW (by rw [h1]; omega), h1])
        rw [hw] at a
        have he : (t.toList == t.toList) = true := by simp
        clear hw HK HW
        go_wp2_with fail
        go_ret
        exact ⟨by rw [unhide HK2]; rfl, rfl⟩
      · have HK2 : Hid (f (n + 1) = 0) := hide (by rw [unhide HK, if_neg hw])
        have he : ((wordK (n + 1)).toList == t.toList) = false := by
          rw [beq_eq_false_iff_ne]
          intro e
          apply hw
          rw [ByteArray.toList_eq, ByteArray.toList_eq] at e
          exact ByteArray.ext (Array.toList_inj.1 e)
        clear hw HK HW
        generalize wordK (n + 1) = W at *
        go_wp2_with fail
        exact ⟨⟨n + 1, by omega, by simp, unhide HK2⟩, by simp [intOf]; omega⟩
    · have HN : Hid (n = 24) := hide (by omega)
      have hg : ¬ ((n : Int) + 1) ≤ 24 := by omega
      have HK0 : Hid (K = 0) := hide (by rw [← unhide HKW, show kindW t = kwUp t 24 from rfl, ← unhide HF, ← unhide HN]; exact unhide HZ)
      go_wp2_with fail
      go_ret
      exact ⟨by rw [unhide HK0]; rfl, rfl⟩
set_option maxHeartbeats 400000 in
theorem giving_any (b : Nat) (w : World) : Calls Tryz.prog 138 #[.int .u8 (b : Int)] w fun e w' => e = .returned (.int .i64 (gvK b : Int)) ∧ w' = w := by
  unfold gvK
  by_cases h1 : b = 46
  · subst h1
    rw [if_pos rfl]
    go_enter Tryz.func138, Tryz.ntmps138
    go_wp2
    go_ret
    exact ⟨rfl, rfl⟩
  · rw [if_neg h1]
    have e1 : ((b : Int) == 46) = false := bn
    by_cases h2 : b = 36
    · subst h2
      rw [if_pos rfl]
      go_enter Tryz.func138, Tryz.ntmps138
      go_wp2
      go_ret
      exact ⟨rfl, rfl⟩
    · rw [if_neg h2]
      have e2 : ((b : Int) == 36) = false := bn
      clear h1 h2
      go_enter Tryz.func138, Tryz.ntmps138
      go_wp2
      go_ret
      exact ⟨rfl, rfl⟩
set_option maxHeartbeats 800000 in
theorem begins_any (b : Nat) (hb : b < 256) (w : World) : Calls Tryz.prog 133 #[.int .u8 (b : Int)] w fun e w' => e = .returned (.bool (begN b)) ∧ w' = w := by
  have HL := hide (isLetter_any b hb w)
  unfold begN
  generalize letterN b = x at *
  have k1 : ((b : Int) == 39) = decide (b = 39) := by rw [Bool.eq_iff_iff]; simp; omega
  have k2 : ((b : Int) == 40) = decide (b = 40) := by rw [Bool.eq_iff_iff]; simp; omega
  have k3 : ((b : Int) == 64) = decide (b = 64) := by rw [Bool.eq_iff_iff]; simp; omega
  have k4 : ((b : Int) == 42) = decide (b = 42) := by rw [Bool.eq_iff_iff]; simp; omega
  cases x
  · generalize decide (b = 39) = d1 at *
    generalize decide (b = 40) = d2 at *
    generalize decide (b = 64) = d3 at *
    generalize decide (b = 42) = d4 at *
    cases d1 <;> cases d2 <;> cases d3 <;> cases d4 <;> (
      go_enter Tryz.func133, Tryz.ntmps133
      go_wp2_with (refine (unhide HL).mono ?_; rintro e w ⟨rfl, rfl⟩)
      go_ret
      exact ⟨rfl, rfl⟩)
  · go_enter Tryz.func133, Tryz.ntmps133
    go_wp2_with (refine (unhide HL).mono ?_; rintro e w ⟨rfl, rfl⟩)
    go_ret
    exact ⟨rfl, rfl⟩
end Go.Proofs.YtpkmamgleofimaaGreatDoor

namespace Go.Proofs.YtpkmamgleofimaaGreatDoor
open Go.RowKit

theorem pats5s {w : World} {z : Nat} {v0 v1 v2 v3 v4 : Value} (h : w.heap[z]? = some (.cells #[v0, v1, v2, v3, v4] 45 (0, 0))) :
    w.cell? ⟨z, 0, none⟩ = some v0 ∧ w.cell? ⟨z, 1, none⟩ = some v1 ∧ w.cell? ⟨z, 2, none⟩ = some v2 ∧ w.cell? ⟨z, 3, none⟩ = some v3 ∧ w.cell? ⟨z, 4, none⟩ = some v4 := by
  refine ⟨?_, ?_, ?_, ?_, ?_⟩ <;> (rw [cell_of_row _ _ _ _ _ _ h]; rfl)
def patO (T : PT) : Array Value := #[.int .i64 T.k, .string T.t, .int .i64 T.n, .string T.nm, .slice T.xa T.len T.cap]
def zeroP : Array Value := #[.int .i64 0, .string ⟨#[]⟩, .int .i64 0, .string ⟨#[]⟩, .slice none 0 0]
theorem patO_oneC (T : PT) : (patO T).all (·.oneCell') = true := by simp [patO, Value.oneCell']
def five (T : PT) : List Value := [.int .i64 T.k, .string T.t, .int .i64 T.n, .string T.nm, .slice T.xa T.len T.cap]
theorem five_len (T : PT) : (five T).length = 5 := rfl
theorem five_one (T : PT) : ∀ u ∈ five T, u.oneCell' = true := by
  intro u hu
  simp only [five, List.mem_cons, List.not_mem_nil, or_false] at hu
  rcases hu with rfl | rfl | rfl | rfl | rfl <;> rfl
theorem info_pat : (Tryz.prog.info? 45).map (fun i => (i.zero, i.size, i.bytes)) = some (some (.agg zeroP), 5, 72) := by kernel_rfl
theorem row_five {w : World} {B g cap i : Nat} {v : Value} {l : List PT} {x : PT} (h : Row w B 45 5 five v l) (hv : v = .slice (some ⟨g, 0, none⟩) l.length cap) (hx : l[i]? = some x) :
    w.cell? ⟨g, i * 5, none⟩ = some (.int .i64 x.k) ∧ w.cell? ⟨g, i * 5 + 1, none⟩ = some (.string x.t) ∧ w.cell? ⟨g, i * 5 + 2, none⟩ = some (.int .i64 x.n) ∧ w.cell? ⟨g, i * 5 + 3, none⟩ = some (.string x.nm) ∧ w.cell? ⟨g, i * 5 + 4, none⟩ = some (.slice x.xa x.len x.cap) :=
  ⟨h.cell five_len hv hx (k := 0) rfl, h.cell five_len hv hx (k := 1) rfl, h.cell five_len hv hx (k := 2) rfl, h.cell five_len hv hx (k := 3) rfl, h.cell five_len hv hx (k := 4) rfl⟩
def rowN (k : Int) (nm : ByteArray) (g cap : Nat) (L : List PT) : PT := ⟨k, ⟨#[]⟩, 0, nm, some ⟨g, 0, none⟩, g, 0, L.length, cap, fun i => L[i]⟩
theorem rowN_lst (k : Int) (nm : ByteArray) (g cap : Nat) (L : List PT) : (rowN k nm g cap L).lst = L := by unfold PT.lst rowN; exact List.ofFn_getElem
theorem rowN_can (k : Int) (nm : ByteArray) (g cap : Nat) (L : List PT) : (rowN k nm g cap L).can = mkP k ⟨#[]⟩ 0 nm (L.map PT.can) := by
  rw [PT.can_eq, rowN_lst]; rfl
theorem rowN_in {w : World} {B k' g cap : Nat} {L : List PT} {nm : ByteArray} (h : Row w B 45 5 five (.slice (some ⟨g, 0, none⟩) L.length cap) L) (hL : ∀ x ∈ L, x.In w) (k : Int) (hk : k = (k' : Int)) (hk' : k' ≤ 100) (hn : nm.size ≤ 65536) : (rowN k nm g cap L).In w := by
  have hf := h.max
  have hle : L.length ≤ cap := by
    obtain ⟨a, c, e, -, hc⟩ := h.len
    injection e with _ _ e3
    omega
  refine ⟨by rw [hk]; constructor <;> omega, by unfold maxLen; decide, by decide, by unfold maxLen; omega, hf, hle, fun _ => rfl, fun i => ?_⟩
  obtain ⟨x0, x1, x2, x3, x4⟩ := row_five h rfl (i := i.val) (x := L[i]) (List.getElem?_eq_getElem i.isLt)
  simp only [Nat.zero_add]
  exact ⟨⟨x0, x1, x2, x3, x4⟩, hL _ (List.getElem_mem i.isLt)⟩
def Lies (B : Nat) (w : World) (U : PT) : Prop := ∀ X : World, (∀ i, B ≤ i → i < w.heap.size → X.heap[i]? = w.heap[i]?) → U.In X
def LiesX (B : Nat) (g : Option Nat) (w : World) (U : PT) : Prop := ∀ X : World, (∀ i, B ≤ i → i < w.heap.size → some i ≠ g → X.heap[i]? = w.heap[i]?) → U.In X
theorem Lies.here {B : Nat} {w : World} {U : PT} (h : Lies B w U) : U.In w := h w fun _ _ _ => rfl
theorem Lies.step {B : Nat} {w w' : World} {U : PT} (h : Lies B w U) (hs : w.heap.size ≤ w'.heap.size) (hb : ∀ i, B ≤ i → i < w.heap.size → w'.heap[i]? = w.heap[i]?) : Lies B w' U :=
  fun X hX => h X fun i h1 h2 => (hX i h1 (by omega)).trans (hb i h1 h2)
theorem Lies.mono {B C : Nat} {w : World} {U : PT} (h : Lies C w U) (hc : B ≤ C) : Lies B w U := fun X hX => h X fun i h1 h2 => hX i (by omega) h2
theorem Lies.below {B : Nat} {w w' : World} {U : PT} (h : Lies B w U) (hb : Below w.heap.size w w') : Lies B w' U := h.step hb.size fun i _ h2 => hb.block i h2
theorem Lies.but {B z : Nat} {w w' : World} {U : PT} (h : Lies B w U) (hb : But z w w') (hz : z < B) : Lies B w' U := h.step hb.size fun i h1 h2 => hb.block i h2 (by omega)
theorem Lies.setRow {B g : Nat} {w : World} {U : PT} (h : Lies B w U) (hg : g < B) (cs : Array Value) : Lies B (w.setRow g cs) U := h.step (by simp) fun i h1 _ => setRow_other w g i cs (by omega)
theorem Lies.except {B C : Nat} {g : Option Nat} {w : World} {U : PT} (h : Lies C w U) (hc : B ≤ C) (hg : ∀ i, g = some i → i < C) : LiesX B g w U := fun X hX => h X fun i h1 h2 => hX i (by omega) h2 fun e => by have := hg i e.symm; omega
theorem LiesX.step {B : Nat} {g : Option Nat} {w w' : World} {U : PT} (h : LiesX B g w U) (hs : w.heap.size ≤ w'.heap.size) (hb : ∀ i, B ≤ i → i < w.heap.size → some i ≠ g → w'.heap[i]? = w.heap[i]?) : LiesX B g w' U :=
  fun X hX => h X fun i h1 h2 h3 => (hX i h1 (by omega) h3).trans (hb i h1 h2 h3)
theorem LiesX.below {B : Nat} {g : Option Nat} {w w' : World} {U : PT} (h : LiesX B g w U) (hb : Below w.heap.size w w') : LiesX B g w' U := h.step hb.size fun i _ h2 _ => hb.block i h2
theorem LiesX.but {B z : Nat} {g : Option Nat} {w w' : World} {U : PT} (h : LiesX B g w U) (hb : But z w w') (hz : z < B) : LiesX B g w' U := h.step hb.size fun i h1 h2 _ => hb.block i h2 (by omega)
theorem LiesX.lies {B : Nat} {g : Option Nat} {w : World} {U : PT} (h : LiesX B g w U) : Lies B w U := fun X hX => h X fun i h1 h2 _ => hX i h1 h2
theorem LiesX.grown {B : Nat} {g g' : Option Nat} {w w' : World} {U : PT} (h : LiesX B g w U) (hg : w.grownBy w' g) (hn : g' = g ∨ g' = some w.heap.size) : LiesX B g' w' U := fun X hX => h X fun i h1 h2 h3 => by
  refine (hX i h1 (Nat.lt_of_lt_of_le h2 hg.size) ?_).trans (hg.block i h2 h3)
  rcases hn with rfl | rfl
  · exact h3
  · intro e; injection e with e; omega
theorem leaf_lies {B : Nat} {w : World} {k n : Int} {t nm : ByteArray} (hk : 0 ≤ k ∧ k ≤ 100) (hn : 0 ≤ n ∧ n ≤ 100000) (ht : t.size ≤ 65536) (hm : nm.size ≤ 65536) : Lies B w (mkP k t n nm []) := fun X _ =>
  ⟨by constructor <;> omega, by unfold maxLen; omega, by constructor <;> omega, by unfold maxLen; omega, by unfold maxLen; decide, Nat.le_refl _, fun h => absurd h (Nat.lt_irrefl _), fun i => i.elim0⟩
theorem leaf_can (k n : Int) (t nm : ByteArray) : (mkP k t n nm []).can = mkP k t n nm [] := by rw [PT.can_eq, mkP_lst]; rfl
def patL (B : Nat) (p : PT) (e : Ending) (w : World) : Prop := ∃ U : PT, e = .returned (pv U) ∧ U.can = p ∧ Lies B w U
structure KidsL (B : Nat) (w : World) (v : Value) (L : List PT) (l : List PT) : Prop where
  row : Row w B 45 5 five v L
  can : L.map PT.can = l
  lies : ∀ x ∈ L, LiesX B v.ownBlock w x
def TogU (k : Int) (v : Value) (L : List PT) (U : PT) : Prop := (∃ x, L = [x] ∧ U = x) ∨ (2 ≤ L.length ∧ ∃ g cap, v = .slice (some ⟨g, 0, none⟩) L.length cap ∧ U = rowN k ⟨#[]⟩ g cap L)
theorem togU_can {k : Int} {v : Value} {L : List PT} {U : PT} (h : TogU k v L U) : U.can = togP k (L.map PT.can) := by
  rcases h with ⟨x, rfl, rfl⟩ | ⟨h, g, cap, -, rfl⟩
  · rfl
  · rw [rowN_can]
    match L, h with
    | _ :: _ :: _, _ => rfl
theorem togU_lies {k' B : Nat} {v : Value} {L l : List PT} {U : PT} {w : World} (hk : k' ≤ 100) (h : TogU (k' : Int) v L U) (hK : KidsL B w v L l) : Lies B w U := by
  rcases h with ⟨x, rfl, rfl⟩ | ⟨h, g, cap, rfl, rfl⟩
  · exact (hK.lies U (by simp)).lies
  · intro X hX
    have hlow := hK.row.low (k := g) rfl
    have hr : Row X B 45 5 five (.slice (some ⟨g, 0, none⟩) L.length cap) L := hK.row.same fun k hk => by
      have : k = g := by simpa [Value.ownBlock] using hk.symm
      subst this
      exact hX k hlow.1 hlow.2
    exact rowN_in hr (fun x hx => (hK.lies x hx).lies X hX) (k' : Int) rfl hk (by decide)
set_option maxRecDepth 100000 in
set_option maxHeartbeats 2000000 in
theorem together_any (k : Nat) (v : Value) (L : List PT) (B : Nat) (w : World) (hr : Row w B 45 5 five v L) (hL : L ≠ []) :
    Calls Tryz.prog 129 #[.int .i64 (k : Int), v] w fun e w' => (∃ U, e = .returned (pv U) ∧ TogU (k : Int) v L U) ∧ Below w.heap.size w w' := by
  have hb2 : Below w.heap.size w (w.alloc (.cells zeroP 45)) := ba _
  have hz : (w.alloc (.cells zeroP 45)).heap[w.heap.size]? = some (.cells zeroP 45 (0, 0)) := at_new rfl
  have HZ := hide (And.intro hz hb2)
  match L, hr, hL with
  | [], _, hL => exact absurd rfl hL
  | [x], hr, _ =>
    obtain ⟨g, cap, rfl, -, -⟩ := hr.form (by simp)
    obtain ⟨x0, x1, x2, x3, x4⟩ := row_five (hr.later hb2) rfl (i := 0) (x := x) rfl
    have hix := idx_run (g := g) (cap := cap) (i := 0) (n := 1) Tryz.underlying43 size_pat (by decide)
    simp only [Nat.zero_mul, Nat.zero_add] at x0 x1 x2 x3 x4
    unfold zeroP at x0 x1 x2 x3 x4
    clear hr hz hb2
    go_enter Tryz.func129, Tryz.ntmps129
    go_wp2_with (first
      | (refine wpList_store_row rfl 45 _ _ rfl w.heap.size (patO x) rfl rfl 45 zeroP (unhide HZ).1 size_pat rfl (patO_oneC x) ?_)
      | fail)
    (try simp only [Exit.inBlock, Exit.then])
    exact bodyPost_ret (results_cell_row rfl _ _ w.heap.size 45 (patO x) (0, 0) _ rfl (setRow_heap _ _ _ _ _ _ (unhide HZ).1) Tryz.underlying45 rfl size_pat) rfl ⟨⟨x, rfl, .inl ⟨x, rfl, rfl⟩⟩, below_setRow (unhide HZ).2 _ (by omega) _⟩
  | x :: y :: L', hr, _ =>
    obtain ⟨g, cap, rfl, -, -⟩ := hr.form (by simp)
    have hm := hr.max
    unfold maxLen at hm
    obtain ⟨n, hn2⟩ : ∃ n, n = (x :: y :: L').length := ⟨_, rfl⟩
    have hge : 2 ≤ n := by rw [hn2]; simp
    have HU : Hid (TogU (k : Int) (.slice (some ⟨g, 0, none⟩) n cap) (x :: y :: L') (rowN (k : Int) ⟨#[]⟩ g cap (x :: y :: L'))) := hide (.inr ⟨by simp, g, cap, by rw [hn2], rfl⟩)
    have HPV : Hid (pv (rowN (k : Int) ⟨#[]⟩ g cap (x :: y :: L')) = .agg #[.int .i64 (k : Int), .string ⟨#[]⟩, .int .i64 0, .string ⟨#[]⟩, .slice (some ⟨g, 0, none⟩) n cap]) := hide (by rw [hn2]; rfl)
    rw [← hn2] at hm ⊢
    have q1 : ((n : Int) == 1) = false := bn
    clear hr hz hb2 hn2
    generalize rowN (k : Int) ⟨#[]⟩ g cap (x :: y :: L') = U at *
    go_enter Tryz.func129, Tryz.ntmps129
    go_wp2_with (first
      | (refine wpList_store_row rfl 45 _ _ rfl w.heap.size #[.int .i64 (k : Int), .string ⟨#[]⟩, .int .i64 0, .string ⟨#[]⟩, .slice (some ⟨g, 0, none⟩) n cap] rfl rfl 45 zeroP (unhide HZ).1 size_pat rfl (by simp [Value.oneCell']) ?_)
      | fail)
    (try simp only [Exit.inBlock, Exit.then])
    exact bodyPost_ret (results_cell_row rfl _ _ w.heap.size 45 #[.int .i64 (k : Int), .string ⟨#[]⟩, .int .i64 0, .string ⟨#[]⟩, .slice (some ⟨g, 0, none⟩) n cap] (0, 0) _ rfl (setRow_heap _ _ _ _ _ _ (unhide HZ).1) Tryz.underlying45 rfl size_pat) rfl ⟨⟨U, by rw [unhide HPV], unhide HU⟩, below_setRow (unhide HZ).2 _ (by omega) _⟩
end Go.Proofs.YtpkmamgleofimaaGreatDoor
