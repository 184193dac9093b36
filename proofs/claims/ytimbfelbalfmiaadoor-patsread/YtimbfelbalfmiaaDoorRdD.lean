/- The reader of patterns: texts in quotes. -/
import Derived.Test.YtimbfelbalfmiaaDoorRdC
import Derived.Deep.RegionLaw
namespace Go.Proofs.YtimbfelbalfmiaaDoor
open Go.RowKit

theorem get_at (s : ByteArray) (k : Nat) (h : k < s.size) : s.data.toList.getD k 0 = s[k]'h := by
  have : k < s.data.toList.length := by simpa using h
  rw [List.getD, List.getElem?_eq_getElem this]; rfl
theorem bytes_but {w w' : World} {z B : Nat} {v : Value} {l : List UInt8} (h : Bytes w B v l) (hb : But z w w') (hz : ∀ c t f, w.heap[z]? = some (.cells c t f) → t ≠ 5) : Bytes w' B v l := by
  refine World.ownsRow.kept (row := some z) h ⟨hb.os, hb.tape, hb.output, hb.size, fun k hk hne => hb.block k hk fun e => hne (by rw [e])⟩ ?_
  refine .inr fun e => ?_
  rcases h.2 with ⟨rfl, _⟩ | ⟨g, cap, cur, rfl, _, hgg, _⟩
  · cases e
  · have e2 : g = z := by simpa [Value.ownBlock] using e
    subst e2
    exact hz _ _ _ hgg rfl
theorem out_strR {w : World} {B : Nat} {v : Value} {l : List UInt8} (ho : Bytes w B v l) :
    (convert 51 9 v).run Tryd.prog w = .ok (.string ⟨l.toArray⟩) w := by
  rcases ho.2 with ⟨rfl, h0⟩ | ⟨g, cap, cur, rfl, _, _, _, _, _, _⟩
  · have : l = [] := List.eq_nil_of_length_eq_zero h0
    subst this
    exact run_convert_bytes_nil (P := Tryd.prog) w 51 5 Tryd.underlying51 Tryd.underlying5 0 0 9 Tryd.underlying9
  · exact run_convert_bytes_back (P := Tryd.prog) w 51 9 5 ⟨g, 0, none⟩ cap l Tryd.underlying51 Tryd.underlying5 Tryd.underlying9 (fun j hj => World.ownsRow.cells ho rfl j _ (by simp only [List.getElem?_map, List.getElem?_eq_getElem hj, Option.map_some, bc]))
theorem new_byte (w : World) (b : UInt8) : (((w.alloc (.cells #[.int .u8 (b.toNat : Int)] 5)).drew).drew.drew).cell? ⟨w.heap.size, 0, none⟩ = some (bc b) := by
  show (w.alloc (.cells #[bc b] 5)).cell? ⟨w.heap.size, 0, none⟩ = _
  rw [cell_of_row _ _ _ _ _ _ (at_new rfl)]; rfl
theorem new_byte1 (w : World) (b : UInt8) : ((w.alloc (.cells #[.int .u8 (b.toNat : Int)] 5)).drew).cell? ⟨w.heap.size, 0, none⟩ = some (bc b) := new_byte w b
theorem rdr_bel {W w' : World} {z B k : Nat} {s : ByteArray} {o : Int} (h : Rdr W z s k o) (hb : Below B W w') (hz : z < B) : Rdr w' z s k o := (hb.block z hz).trans h
theorem but_bel {w W w' : World} {z : Nat} (h : But z w W) (hb : Below w.heap.size W w') : But z w w' :=
  ⟨hb.os.trans h.os, hb.tape.trans h.tape, hb.output.trans h.output, Nat.le_trans h.size hb.size, fun k hk hz => (hb.block k hk).trans (h.block k hk hz)⟩
theorem Rdr.ty {w : World} {z k : Nat} {s : ByteArray} {o : Int} (h : Rdr w z s k o) : ∀ c t f, w.heap[z]? = some (.cells c t f) → t ≠ 5 := fun c t f q => by
  rw [h] at q
  injection q with q
  injection q with _ q2 _
  rw [← q2]; decide
theorem quo_end {s : ByteArray} {i j k z : Nat} {o : Int} {w w5 wr : World} {v : Value} {L : List UInt8} (hk : k < s.size) (hL : L.length ≤ k + 1)
    (hR : Rdr w5 z s k o) (hB : But z w w5) (hY : Bytes w5 w.heap.size v L) (hm : atIn wr z = j) (hj : j ≤ k) (hC : cq s (i + 1) = cq s (k + 1) ∧ ct s (i + 1) = L ++ ct s (k + 1)) :
    (∃ (k2 : Nat) (L : List UInt8), k2 ≤ s.size ∧ L.length ≤ k2 ∧ Hid (Rdr (w5.setCell ⟨z, 1, none⟩ (.int .i64 ((k : Int) + 1))) z s k2 o) ∧ Hid (But z w (w5.setCell ⟨z, 1, none⟩ (.int .i64 ((k : Int) + 1)))) ∧ Hid (Bytes (w5.setCell ⟨z, 1, none⟩ (.int .i64 ((k : Int) + 1))) w.heap.size v L) ∧ Hid (cq s (i + 1) = cq s k2 ∧ ct s (i + 1) = L ++ ct s k2)) ∧
    s.size - atIn (w5.setCell ⟨z, 1, none⟩ (.int .i64 ((k : Int) + 1))) z < s.size - atIn wr z := by
  have h1 := hR.set1 (k + 1)
  have h2 := h1.at
  have h3 : atIn (w5.setCell ⟨z, 1, none⟩ (.int .i64 ((k : Int) + 1))) z = k + 1 := h2
  exact ⟨⟨k + 1, L, hk, hL, h1, hB.setCell 1 _, bytes_but hY ((But.refl z w5).setCell 1 _) hR.ty, hC⟩, by rw [h3, hm]; omega⟩
set_option maxRecDepth 100000 in
set_option maxHeartbeats 4000000 in
theorem rdQuoted_any {s : ByteArray} {i z : Nat} {o : Int} (w : World) (hs : s.size ≤ 65536) (hi : i < s.size) (hR : Rdr w z s i o) : Calls Tryd.prog 39 #[.pointer (some ⟨z, 0, none⟩)] w fun e w' => RdPost strV z s o w (qtP s i) e w' := by
  have c1 := hR.c1
  have fz := hR.fz 1
  have HR0 := hide (hR.set1 (i + 1))
  have HB0 := hide ((But.refl z w).setCell 1 (.int .i64 ((i : Int) + 1)))
  have hzl := hR.lt
  clear hR
  go_enter Tryd.func39, Tryd.ntmps39
  go_wp2_with fail
  clear c1 fz
  go_loopw [3] (fun v wr => ∃ (k : Nat) (L : List UInt8), k ≤ s.size ∧ L.length ≤ k ∧ Hid (Rdr wr z s k o) ∧ Hid (But z w wr) ∧ Hid (Bytes wr w.heap.size v L) ∧ Hid (cq s (i + 1) = cq s k ∧ ct s (i + 1) = L ++ ct s k)) (fun _ wr => s.size - atIn wr z)
  case atStart => exact ⟨i + 1, [], by omega, by simp, unhide HR0, unhide HB0, World.ownsRow_nil _ _ _ _, rfl, rfl⟩
  case round =>
    obtain ⟨k, L, hk, hLk, HR, HB, HY, HC⟩ := hrel
    have c0 := (unhide HR).c0
    have c1 := (unhide HR).c1
    have fz := (unhide HR).fz 1
    have HM := hide (unhide HR).at
    rcases Nat.lt_or_ge k s.size with hlt | hge
    · have hg : (k : Int) < (s.size : Int) := by omega
      have HG := hide (get_at s k hlt)
      have HBA := hide (bat_at s k hlt)
      by_cases h39 : bat s k = 39
      · have hb39 : (((s[k]'hlt).toNat : Int) == 39) = true := by rw [unhide HBA, h39]; rfl
        have HR1 := hide (show Rdr ((wr.drew.drew).setCell ⟨z, 1, none⟩ (.int .i64 ((k + 1 : Nat) : Int))) z s (k + 1) o from ((unhide HR).below ((Below.refl _ _).drew.drew)).set1 (k + 1))
        have HB1 := hide (show But z w ((wr.drew.drew).setCell ⟨z, 1, none⟩ (.int .i64 ((k + 1 : Nat) : Int))) from ((unhide HB).trans (But.of_below (Below.refl _ _).drew.drew)).setCell 1 _)
        have HY1 := hide (show Bytes ((wr.drew.drew).setCell ⟨z, 1, none⟩ (.int .i64 ((k + 1 : Nat) : Int))) w.heap.size _ L from bytes_but ((unhide HY).later (Below.refl _ _).drew.drew) ((But.refl z _).setCell 1 _) ((unhide HR).below ((Below.refl _ _).drew.drew)).ty)
        have HH := hide (fun w h => here_any (z := z) (o := o) (s := s) (i := k + 1) w hs (by omega) h)
        by_cases h40 : bat s (k + 1) = 39
        · have hlt2 : k + 1 < s.size := bat_in (by omega)
          have HG2 := hide (get_at s (k + 1) hlt2)
          have HBA2 := hide (bat_at s (k + 1) hlt2)
          have HC2 := hide (show cq s (i + 1) = cq s (k + 1 + 1) ∧ ct s (i + 1) = (L ++ [s[k + 1]'hlt2]) ++ ct s (k + 1 + 1) by
            have e39 : s[k + 1]'hlt2 = 39 := by
              have h := unhide HBA2
              rw [h40] at h
              exact UInt8.toNat_inj.1 h
            rw [(unhide HC).1, (unhide HC).2, cq_two h39 h40, ct_two h39 h40, e39, List.append_assoc]
            exact ⟨rfl, rfl⟩)
          rw [h40] at HH
          clear h39 h40
          go_wp2_with fail
          go_region
          go_wp2_with fail
          go_region
          go_wp2_with fail
          refine (unhide HH _ (unhide HR1)).mono ?_
          rintro e w3 ⟨rfl, hb⟩
          have HB3 := hide ((unhide HB1).trans (But.of_below hb))
          have H3 := hide ((unhide HR1).below hb)
          have HY3 := hide ((unhide HY1).later hb)
          clear hb c0 c1 fz HR1 HB1 HY1
          have c0 := (unhide H3).c0
          have c1 := (unhide H3).c1
          have fz := (unhide H3).fz 1
          have hsz := (unhide HB3).size
          have hg2 : ((k + 1 : Nat) : Int) < (s.size : Int) := by omega
          have HK2 := hide (show ((k : Int) + 1) = ((k + 1 : Nat) : Int) by omega)
          generalize k + 1 = k2 at *
          go_wp2_with fail
          go_region_law (refine step_byte rfl _ _ rfl w.heap.size _ L (s[k2]'hlt2) w3.heap.size rfl rfl ((unhide HY3).later ((((Below.refl _ _).alloc (Nat.le_refl _) _).drew))) (new_byte1 w3 (s[k2]'hlt2)) (by simp; omega) (by omega) ?_; intro v' w' hby hbel hkept)
          all_goals (
            have H5 := hide (rdr_bel ((unhide H3).below ((((Below.refl _ _).alloc (Nat.le_refl _) _).drew))) hbel hzl)
            have HB5 := hide (but_bel ((unhide HB3).trans (But.of_below ((((Below.refl _ _).alloc (Nat.le_refl _) _).drew)))) hbel)
            have HY5 := hide hby
            clear hby hbel hkept c0 c1 fz
            have c1 := (unhide H5).c1
            have fz := (unhide H5).fz 1
            go_wp2_with fail
            exact quo_end hlt2 (by have h := unhide HK2; simp; omega) (unhide H5) (unhide HB5) (unhide HY5) (unhide HM) (by have h := unhide HK2; omega) (unhide HC2))
        · have HC2 := hide (show cq s (i + 1) = k ∧ ct s (i + 1) = L by
            rw [(unhide HC).1, (unhide HC).2, cq_here h39 h40, ct_here h39 h40, List.append_nil]
            exact ⟨rfl, rfl⟩)
          have HQ := hide (show qtP s i = .ok (⟨L.toArray⟩, k + 1) by
            unfold qtP
            rw [(unhide HC2).1, (unhide HC2).2, if_pos hlt])
          have hne : (((bat s (k + 1) : Nat) : Int) == 39) = false := by rw [beq_eq_false_iff_ne]; omega
          clear h39 h40
          go_wp2_with fail
          go_region
          go_wp2_with fail
          go_region
          go_wp2_with fail
          refine (unhide HH _ (unhide HR1)).mono ?_
          rintro e w3 ⟨rfl, hb⟩
          have HB3 := hide ((unhide HB1).trans (But.of_below hb))
          have H3 := hide ((unhide HR1).below hb)
          have hout := out_strR ((unhide HY1).later hb)
          clear hb c0 c1 fz HR1 HB1 HY1
          go_wp2_with fail
          go_ret
          exact post_ok (unhide HQ) (unhide HB3) rfl (unhide H3)
      · have hb39 : (((s[k]'hlt).toNat : Int) == 39) = false := by rw [unhide HBA, beq_eq_false_iff_ne]; omega
        have HC2 := hide (show cq s (i + 1) = cq s (k + 1) ∧ ct s (i + 1) = (L ++ [s[k]'hlt]) ++ ct s (k + 1) by
          rw [(unhide HC).1, (unhide HC).2, cq_plain hlt h39, ct_plain hlt h39, unhide HG, List.append_assoc]
          exact ⟨rfl, rfl⟩)
        clear h39
        go_wp2_with fail
        go_region
        go_wp2_with fail
        go_region
        go_wp2_with fail
        have hsz := (unhide HB).size
        go_region_law (refine step_byte rfl _ _ rfl w.heap.size _ L (s[k]'hlt) wr.heap.size rfl rfl ((unhide HY).later (((((Below.refl _ _).alloc (Nat.le_refl _) _).drew).drew).drew)) (new_byte wr (s[k]'hlt)) (by simp; omega) (by omega) ?_; intro v' w' hby hbel hkept)
        all_goals (
          have H5 := hide (rdr_bel ((unhide HR).below ((((Below.refl _ _).alloc (Nat.le_refl _) _).drew).drew.drew)) hbel hzl)
          have HB5 := hide (but_bel ((unhide HB).trans (But.of_below ((((Below.refl _ _).alloc (Nat.le_refl _) _).drew).drew.drew))) hbel)
          have HY5 := hide hby
          clear hby hbel hkept c0 c1 fz
          have c1 := (unhide H5).c1
          have fz := (unhide H5).fz 1
          go_wp2_with fail
          exact quo_end hlt (by simp; omega) (unhide H5) (unhide HB5) (unhide HY5) (unhide HM) (Nat.le_refl _) (unhide HC2))
    · obtain rfl : k = s.size := by omega
      have hg : ¬ (s.size : Int) < (s.size : Int) := by omega
      have HQ := hide (show qtP s i = .error (2, s.size) by
        unfold qtP
        rw [(unhide HC).1, cq_end (Nat.le_refl _), if_neg (by omega)])
      have HST := hide (fun w h => stop_any (z := z) (s := s) (i := s.size) (o := o) w h)
      go_wp2_with fail
      go_region
      go_wp2_with (refine (unhide HST _ ((unhide HR).below (Below.refl _ _).drew)).mono ?_; rintro e w ⟨rfl, rfl⟩; unfold thr)
      exact ⟨rfl, post_err (unhide HQ) ((unhide HB).trans (But.of_below (Below.refl _ _).drew)) rfl⟩
end Go.Proofs.YtimbfelbalfmiaaDoor
