/- PatsTurn's walk: what is written is read. -/
import Derived.Test.YtccnomomdfjpmaaDoorRtSameM
import Derived.Test.YtccnomomdfjpmaaDoorPrintLaw4P
namespace Go.Proofs.YtccnomomdfjpmaaDoor
open Go.RowKit

theorem bar_can : ∀ T : PT, T.can.bar = T.bar := mem_lst_ind fun T ih => by
  rw [PT.bar_eq T.can, can_k, can_t, can_n, can_nm, can_lst, PT.bar_eq T, List.map_map]
  exact congrArg _ (List.map_congr_left fun x hx => ih x hx)
theorem rdP_nz {s : ByteArray} {er : Int} {a : Nat} (h : rdP s = .error (er, a)) : er ≠ 0 := by
  unfold rdP at h
  split at h
  · injection h with h; injection h with h _; omega
  · rcases bnd_bad h with h | ⟨p, j, h1, h⟩
    · exact rdA_nz h
    · split at h
      · cases h
      · injection h with h; injection h with h _; omega
def s0 : ByteArray := ⟨#[39, 97, 39, 32, 124, 32, 76, 69, 78, 40, 50, 41, 32, 46, 32, 88]⟩
theorem s0_read : ∃ p j, rdP s0 = .ok (p, j) ∧ p.k = 19 ∧ p.len = 2 ∧ (p.kid 1).nm = ⟨#[88]⟩ := ⟨_, _, rfl, rfl, rfl, rfl⟩
set_option maxRecDepth 100000 in
set_option maxHeartbeats 2000000 in
theorem alive4_any (w : World) (hS : Shapes w) : Calls Tryd.prog 11 #[] w fun e w' => e = .returned (.bool true) ∧ Below w.heap.size w w' := by
  obtain ⟨p, j, h1, h2, h3, h4⟩ := s0_read
  have HR := hide (read_any s0 w hS)
  have HP := hide (And.intro h1 (And.intro h2 (And.intro h3 h4)))
  unfold s0 at HR
  clear hS h1 h2 h3 h4
  go_enter Tryd.func11, Tryd.ntmps11
  go_wp2_with fail
  refine (unhide HR).mono ?_
  rintro e w1 ⟨hb1, hok, -⟩
  obtain ⟨U, rfl, hU, hL⟩ := hok p j (unhide HP).1
  have hi := hL.here
  have k1 : U.k = 19 := by rw [← can_k, hU]; exact (unhide HP).2.1
  have k2 : U.len = 2 := by rw [← can_len, hU]; exact (unhide HP).2.2.1
  have k3 : (U.kid 1).nm = ⟨#[88]⟩ := by
    have e : (U.kid 1).can = p.kid 1 := by
      have e2 := congrArg (fun T => T.lst[1]?) hU
      simp only [can_lst, List.getElem?_map] at e2
      rw [PT.lst_at (by omega), PT.lst_at (by have := (unhide HP).2.2.1; omega)] at e2
      exact Option.some.inj e2
    rw [← can_nm, e]; exact (unhide HP).2.2.2
  have hix := kid_at hi (k := 1) (by omega)
  obtain ⟨-, -, -, c3, -⟩ := hi.cells (i := 1) (by omega)
  rw [k3] at c3
  have hb2 : Below w1.heap.size w1 ((w1.alloc (.cells (patO U) 24)).alloc (.cells #[.int .i64 0, .int .i64 0] 30)) := ((Below.refl _ _).alloc (Nat.le_refl _) _).alloc (by simp) _
  have c3' := cell_later hb2 c3
  have HB := hide (bnext hb1 hb2)
  have HK := hide k2
  rw [k2] at hix
  unfold patO at c3' HB
  rw [k1, k2] at c3' HB
  unfold pv fauV
  rw [k1, k2]
  rw [show ((1 : Nat) : Int) = 1 from rfl, Nat.one_mul] at hix
  rw [Nat.one_mul] at c3'
  clear hok hU hL hi k3 c3 hb1 hb2 k1 k2 HP HR
  go_wp2_with fail
  go_ret
  exact ⟨rfl, unhide HB⟩
set_option maxRecDepth 100000 in
set_option maxHeartbeats 4000000 in
theorem patsTurn_bad (T : PT) (tx : ByteArray) (w : World) (hT : T.In w) (hR : Ready w) (hq : ¬ (T.wrong = 0 ∧ T.txt.length ≤ 65536)) :
    Calls Tryd.prog 5 #[pv T, .string tx] w fun e w' => e = .returned (.bool true) ∧ Below w.heap.size w w' := by
  have hk0 := (Below.refl w.heap.size w).alloc (Nat.le_refl _) (.cells #[.int .i64 T.k, .string T.t, .int .i64 T.n, .string T.nm, .slice T.xa T.len T.cap] 24)
  have HP := hide (fun W (h : Below w.heap.size w W) => print_any T W (hR.later h) (PT.In.later h hT))
  have HAL := hide (alive4_any _ (hR.later hk0).shapes)
  have HRD := hide hR
  obtain ⟨er, hsd, hne⟩ : ∃ er : Int, printSaid T = .tuple #[.string ⟨#[]⟩, .int .i64 er] ∧ er ≠ 0 := by
    unfold printSaid
    by_cases h : T.wrong = 0
    · rw [if_pos h, if_pos (by have : ¬ T.txt.length ≤ 65536 := fun q => hq ⟨h, q⟩; omega)]; exact ⟨4, rfl, by decide⟩
    · rw [if_neg h]; exact ⟨_, rfl, h⟩
  have hne2 : (er == 0) = false := by rw [beq_eq_false_iff_ne]; exact hne
  rw [hsd] at HP
  unfold pv at HP ⊢
  clear hT hR hq hsd hne
  go_enter Tryd.func5, Tryd.ntmps5
  go_wp2_with fail
  refine (unhide HAL).mono ?_
  rintro e W ⟨rfl, hb⟩
  have HW := hide (bnext hk0 hb)
  obtain ⟨c0, c1, c2, c3, c4⟩ := pats5s (row_below (at_new rfl) hb)
  clear hk0 hb HAL
  go_wp2_with fail
  refine (unhide HP _ (unhide HW)).mono ?_
  rintro e W1 ⟨rfl, hb⟩
  have HW := hide (bnext (unhide HW) hb)
  clear hb c0 c1 c2 c3 c4 HP
  go_wp2_with fail
  generalize W1 = W at *
  have HRT := hide (read_any tx W ((unhide HRD).later (unhide HW)).shapes)
  obtain ⟨RT, hRT⟩ : ∃ RT, rdP tx = RT := ⟨_, rfl⟩
  have HTX := hide hRT
  clear hRT
  refine (unhide HRT).mono ?_
  rintro e w1 ⟨hb1, hok, herr⟩
  have HB1 := hide (bnext (unhide HW) hb1)
  rcases RT with ⟨er, a⟩ | ⟨p, j⟩
  · obtain rfl := herr er a (unhide HTX)
    have hne := rdP_nz (unhide HTX)
    have hne2 : (er == 0) = false := by rw [beq_eq_false_iff_ne]; exact hne
    have HB2 := hide (show Below w.heap.size w ((w1.alloc (.cells #[.int .i64 0, .string ⟨#[]⟩, .int .i64 0, .string ⟨#[]⟩, .slice none 0 0] 24)).alloc (.cells #[.int .i64 er, .int .i64 (a : Int)] 30)) from bnext (unhide HB1) (((Below.refl _ _).alloc (Nat.le_refl _) _).alloc (by simp) _))
    clear hb1 hok herr hne
    unfold zeroP fauV
    go_wp2_with fail
    go_ret
    exact ⟨rfl, unhide HB2⟩
  · obtain ⟨U, rfl, hU, hL⟩ := hok p j (unhide HTX)
    obtain ⟨hpw, hpb⟩ := read_right (unhide HTX)
    obtain ⟨w2, hw2⟩ : ∃ w2, w2 = (w1.alloc (.cells (patO U) 24)).alloc (.cells #[.int .i64 0, .int .i64 0] 30) := ⟨_, rfl⟩
    have hb2 : Below w1.heap.size w1 w2 := by rw [hw2]; exact ((Below.refl _ _).alloc (Nat.le_refl _) _).alloc (by simp) _
    have hq2 : w2.heap[w1.heap.size]? = some (.cells (patO U) 24 (0, 0)) := by rw [hw2]; exact at_old (by simp) (at_new rfl)
    have hf2 : w2.heap[w1.heap.size + 1]? = some (.cells #[.int .i64 0, .int .i64 0] 30 (0, 0)) := by rw [hw2]; exact at_new (by simp)
    have HI2 := hide (PT.In.later hb2 hL.here)
    have HB21 := hide hb2
    have HB2 := hide (bnext (unhide HB1) hb2)
    have HUW := hide (show U.wrong = 0 by rw [← can_wrong, hU]; exact hpw)
    have HUB := hide (show U.bar = U.can by rw [← bar_can, hU]; exact hpb)
    have HQ2 := hide hq2
    have HF2 := hide hf2
    have HLU := hide hL
    have HWR := hide (wrong_any U w2 (unhide HI2) ((unhide HRD).later (unhide HB2)).shapes)
    have HPR := hide (fun W (h : Below w2.heap.size w2 W) => print_any U W (((unhide HRD).later (unhide HB2)).later h) (PT.In.later h (unhide HI2)))
    have HW2 := hide hw2
    clear hb1 hok herr hU hL hpw hpb hw2 hb2 hq2 hf2
    rw [unhide HUW] at HWR
    unfold pv at HWR HPR ⊢
    unfold fauV
    go_wp2_with fail
    rw [show (w1.alloc (.cells #[.int .i64 U.k, .string U.t, .int .i64 U.n, .string U.nm, .slice U.xa U.len U.cap] 24)).alloc (.cells #[.int .i64 0, .int .i64 0] 30) = w2 from (unhide HW2).symm]
    refine (unhide HWR).mono ?_
    rintro e w3 ⟨rfl, hb3⟩
    obtain ⟨q0, q1, q2, q3, q4⟩ := pats5s (row_below (unhide HQ2) hb3)
    have HB3 := hide hb3
    clear hb3
    go_wp2_with fail
    refine (unhide HPR _ (unhide HB3)).mono ?_
    rintro e w4 ⟨rfl, hb4⟩
    have HB4 := hide (bnext (unhide HB3) hb4)
    have HE4 := hide (bnext (unhide HB2) (unhide HB4))
    clear hb4 q0 q1 q2 q3 q4
    by_cases hlen : 65536 < U.txt.length
    · have HS := hide (show printSaid U = .tuple #[.string ⟨#[]⟩, .int .i64 4] by unfold printSaid; rw [if_pos (unhide HUW), if_pos hlen])
      rw [unhide HS]
      clear hlen
      go_wp2_with fail
      go_ret
      exact ⟨rfl, unhide HE4⟩
    · have HS := hide (show printSaid U = .tuple #[.string ⟨U.txt.toArray⟩, .int .i64 0] by unfold printSaid; rw [if_pos (unhide HUW), if_neg hlen])
      rw [unhide HS]
      obtain ⟨j2, hr2⟩ := read_txt (unhide HUW) (Nat.le_of_not_lt hlen)
      have HR2 := hide hr2
      have HRD2 := hide (read_any ⟨U.txt.toArray⟩ w4 ((unhide HRD).later (unhide HE4)).shapes)
      generalize (⟨U.txt.toArray⟩ : ByteArray) = stx at *
      clear hlen hr2
      go_wp2_with fail
      refine (unhide HRD2).mono ?_
      rintro e w5 ⟨hb5, hok5, -⟩
      obtain ⟨V, rfl, hV, hLV⟩ := hok5 _ _ (unhide HR2)
      have hbA := bnext (unhide HB4) hb5
      have b15 : Below w1.heap.size w1 w5 := bnext (unhide HB21) hbA
      have hq5 := row_below (unhide HQ2) hbA
      have hf5 := row_below (unhide HF2) hbA
      have hs1 : w1.heap.size + 1 < w4.heap.size := by
        have h1 := (Array.getElem?_eq_some_iff.1 (unhide HF2)).1
        have h2 := (unhide HB4).size
        omega
      have hs5 := hb5.size
      obtain ⟨Y, hY⟩ : ∃ Y, Y = (w5.setCell ⟨w1.heap.size + 1, 0, none⟩ (.int .i64 0)).setCell ⟨w1.heap.size + 1, 1, none⟩ (.int .i64 0) := ⟨_, rfl⟩
      have oY : ∀ k, k ≠ w1.heap.size + 1 → Y.heap[k]? = w5.heap[k]? := fun k hk => by
        rw [hY, heap_setCell_other _ ⟨w1.heap.size + 1, 1, none⟩ k _ hk, heap_setCell_other _ ⟨w1.heap.size + 1, 0, none⟩ k _ hk]
      have sY : Y.heap.size = w5.heap.size := by rw [hY]; simp
      have aY := fun k (h : k < w5.heap.size) => Below.heap_alloc Y (.cells (patO V) 24) k (by omega)
      have HSM := hide (same_can U V (Y.alloc (.cells (patO V) 24)) (unhide HLU _ fun i _ h2 => ((aY i (by have := b15.size; omega)).trans (oY i (by omega))).trans (b15.block i h2)) (hLV _ fun i h1 h2 => (aY i h2).trans (oY i (by omega))) (by rw [hV, unhide HUB]))
      have HEX := hide (show Below w.heap.size w (Y.alloc (.cells (patO V) 24)) by
        have hw1 := (unhide HB1).size
        rw [hY]
        exact (below_cell (below_cell (bnext (unhide HB2) hbA) (by omega) _ _) (by omega) _ _).alloc (by simp; omega) _)
      obtain ⟨q0, q1, q2, q3, q4⟩ := pats5s hq5
      obtain ⟨f0, f1⟩ := fault2 hf5
      have ff := fun k => frozen_of_row w5 (w1.heap.size + 1) k _ _ hf5
      have nn3 : ¬ w1.heap.size = w1.heap.size + 1 := by omega
      have nn4 : ¬ w1.heap.size + 1 = w1.heap.size := by omega
      rw [hY] at HSM HEX
      have hlt5 : w1.heap.size + 1 < w5.heap.size := by omega
      have hlt6 : w1.heap.size < w5.heap.size := by omega
      clear hok5 hV hLV hb5 hbA hq5 hf5 oY sY aY hY b15
      unfold pv at HSM ⊢
      unfold fauV
      unfold patO at HSM HEX
      go_wp2_with fail
      refine (unhide HSM).mono ?_
      rintro e w7 ⟨rfl, hb7⟩
      have HE7 := hide (bnext (unhide HEX) hb7)
      clear hb7
      go_wp2_with fail
      go_ret
      exact ⟨rfl, unhide HE7⟩
set_option maxRecDepth 100000 in
set_option maxHeartbeats 4000000 in
theorem patsTurn_ok (T : PT) (tx : ByteArray) (w : World) (hT : T.In w) (hR : Ready w) (h0 : T.wrong = 0) (hl : T.txt.length ≤ 65536) :
    Calls Tryd.prog 5 #[pv T, .string tx] w fun e w' => e = .returned (.bool true) ∧ Below w.heap.size w w' := by
  have hk0 := (Below.refl w.heap.size w).alloc (Nat.le_refl _) (.cells #[.int .i64 T.k, .string T.t, .int .i64 T.n, .string T.nm, .slice T.xa T.len T.cap] 24)
  have HP := hide (fun W (h : Below w.heap.size w W) => print_any T W (hR.later h) (PT.In.later h hT))
  have HAL := hide (alive4_any _ (hR.later hk0).shapes)
  have HRD := hide hR
  have HTI := hide hT
  have HBD := hide (wrong_nil h0).2
  obtain ⟨j0, hr0⟩ := read_txt h0 hl
  have HR0 := hide hr0
  have hsd : printSaid T = .tuple #[.string ⟨T.txt.toArray⟩, .int .i64 0] := by unfold printSaid; rw [if_pos h0, if_neg (by omega)]
  rw [hsd] at HP
  generalize (⟨T.txt.toArray⟩ : ByteArray) = stx at *
  unfold pv at HP ⊢
  clear hT hR h0 hl hsd hr0
  go_enter Tryd.func5, Tryd.ntmps5
  go_wp2_with fail
  refine (unhide HAL).mono ?_
  rintro e W ⟨rfl, hb⟩
  have HW := hide (bnext hk0 hb)
  have HPB := hide (show W.heap[w.heap.size]? = some (.cells (patO T) 24 (0, 0)) from row_below (at_new rfl) hb)
  obtain ⟨c0, c1, c2, c3, c4⟩ := pats5s (unhide HPB)
  clear hk0 hb HAL
  go_wp2_with fail
  refine (unhide HP _ (unhide HW)).mono ?_
  rintro e W1 ⟨rfl, hb⟩
  have HW1 := hide (bnext (unhide HW) hb)
  have HPB1 := hide (row_below (unhide HPB) hb)
  have HRX := hide (read_any stx W1 ((unhide HRD).later (unhide HW1)).shapes)
  clear hb c0 c1 c2 c3 c4 HP HW HPB
  go_wp2_with fail
  refine (unhide HRX).mono ?_
  rintro e w1 ⟨hb1, hok, -⟩
  obtain ⟨U, rfl, hU, hL⟩ := hok _ _ (unhide HR0)
  obtain ⟨w2, hw2⟩ : ∃ w2, w2 = (w1.alloc (.cells (patO U) 24)).alloc (.cells #[.int .i64 0, .int .i64 0] 30) := ⟨_, rfl⟩
  have hb2 : Below w1.heap.size w1 w2 := by rw [hw2]; exact ((Below.refl _ _).alloc (Nat.le_refl _) _).alloc (by simp) _
  have hq2 : w2.heap[w1.heap.size]? = some (.cells (patO U) 24 (0, 0)) := by rw [hw2]; exact at_old (by simp) (at_new rfl)
  have hf2 : w2.heap[w1.heap.size + 1]? = some (.cells #[.int .i64 0, .int .i64 0] 30 (0, 0)) := by rw [hw2]; exact at_new (by simp)
  have hp2 := row_below (row_below (unhide HPB1) hb1) hb2
  have HB2 := hide (bnext (unhide HW1) (bnext hb1 hb2))
  have HBA := hide (fun W (h : Below w2.heap.size w2 W) => refBare_any T W (PT.In.later (bnext (unhide HB2) h) (unhide HTI)) (unhide HBD))
  have HSA := hide (fun (B : PT) W (h : Below w2.heap.size w2 W) (hBi : B.In W) (hc : B.can = T.bar) => same_can U B W (PT.In.later (bnext hb2 h) hL.here) hBi (by rw [hU, hc]))
  have HW2 := hide hw2
  have HK := hide (show ∀ w', Below w2.heap.size w2 w' → (w'.cell? ⟨w1.heap.size + 1, 0, none⟩ = some (.int .i64 0) ∧ w'.cell? ⟨w1.heap.size, 0, none⟩ = some (.int .i64 U.k) ∧ w'.cell? ⟨w1.heap.size, 1, none⟩ = some (.string U.t) ∧ w'.cell? ⟨w1.heap.size, 2, none⟩ = some (.int .i64 U.n) ∧ w'.cell? ⟨w1.heap.size, 3, none⟩ = some (.string U.nm) ∧ w'.cell? ⟨w1.heap.size, 4, none⟩ = some (.slice U.xa U.len U.cap) ∧ w'.cell? ⟨w.heap.size, 0, none⟩ = some (.int .i64 T.k) ∧ w'.cell? ⟨w.heap.size, 1, none⟩ = some (.string T.t) ∧ w'.cell? ⟨w.heap.size, 2, none⟩ = some (.int .i64 T.n) ∧ w'.cell? ⟨w.heap.size, 3, none⟩ = some (.string T.nm) ∧ w'.cell? ⟨w.heap.size, 4, none⟩ = some (.slice T.xa T.len T.cap)) from fun w' h => by
    obtain ⟨a0, a1, a2, a3, a4⟩ := pats5s (row_below hq2 h)
    obtain ⟨b0, b1, b2, b3, b4⟩ := pats5s (row_below hp2 h)
    exact ⟨(fault2 (row_below hf2 h)).1, a0, a1, a2, a3, a4, b0, b1, b2, b3, b4⟩)
  clear hb1 hok hU hL hw2 hb2 hq2 hf2 hp2
  unfold pv at HBA HSA ⊢
  unfold fauV
  go_wp2_with fail
  rw [show (w1.alloc (.cells #[.int .i64 U.k, .string U.t, .int .i64 U.n, .string U.nm, .slice U.xa U.len U.cap] 24)).alloc (.cells #[.int .i64 0, .int .i64 0] 30) = w2 from (unhide HW2).symm]
  obtain ⟨f0, a0, a1, a2, a3, a4, b0, b1, b2, b3, b4⟩ := unhide HK w2 (Below.refl _ _)
  have hA : Below w2.heap.size w2 w2.drew := (Below.refl _ _).drew
  go_region_held3 (fun w' => w'.cell? ⟨w1.heap.size + 1, 0, none⟩ = some (.int .i64 0) ∧ w'.cell? ⟨w1.heap.size, 0, none⟩ = some (.int .i64 U.k) ∧ w'.cell? ⟨w1.heap.size, 1, none⟩ = some (.string U.t) ∧ w'.cell? ⟨w1.heap.size, 2, none⟩ = some (.int .i64 U.n) ∧ w'.cell? ⟨w1.heap.size, 3, none⟩ = some (.string U.nm) ∧ w'.cell? ⟨w1.heap.size, 4, none⟩ = some (.slice U.xa U.len U.cap) ∧ w'.cell? ⟨w.heap.size, 0, none⟩ = some (.int .i64 T.k) ∧ w'.cell? ⟨w.heap.size, 1, none⟩ = some (.string T.t) ∧ w'.cell? ⟨w.heap.size, 2, none⟩ = some (.int .i64 T.n) ∧ w'.cell? ⟨w.heap.size, 3, none⟩ = some (.string T.nm) ∧ w'.cell? ⟨w.heap.size, 4, none⟩ = some (.slice T.xa T.len T.cap))
    ((refine unhide HK _ ?_; with_reducible exact hA))
    (first
      | (go_at_call 12; (with_reducible refine (unhide HBA _ hA).mono ?_); rintro e w7 ⟨⟨Bq, rfl, hB1, hB2⟩, hb7⟩; have hA := bnext hA hb7; have HBq := hide (And.intro hB1 hB2.here); clear hb7 hB1 hB2)
      | (go_at_call 10; (with_reducible refine (unhide HSA _ _ hA (unhide HBq).2 (unhide HBq).1).mono ?_); rintro e w8 ⟨rfl, hb8⟩; have hA := bnext hA hb8; clear hb8))
  have HW := hide (bnext (unhide HB2) hA)
  clear hA HBA HSA HK HW2 HRX HB2 HBq HW1 HPB1 HTI HBD HR0 f0 a0 a1 a2 a3 a4 b0 b1 b2 b3 b4
  go_wp2_with fail
  generalize w8 = W at *
  have HRT := hide (read_any tx W ((unhide HRD).later (unhide HW)).shapes)
  obtain ⟨RT, hRT⟩ : ∃ RT, rdP tx = RT := ⟨_, rfl⟩
  have HTX := hide hRT
  clear hRT
  refine (unhide HRT).mono ?_
  rintro e w1 ⟨hb1, hok, herr⟩
  have HB1 := hide (bnext (unhide HW) hb1)
  rcases RT with ⟨er, a⟩ | ⟨p, j⟩
  · obtain rfl := herr er a (unhide HTX)
    have hne := rdP_nz (unhide HTX)
    have hne2 : (er == 0) = false := by rw [beq_eq_false_iff_ne]; exact hne
    have HB2 := hide (show Below w.heap.size w ((w1.alloc (.cells #[.int .i64 0, .string ⟨#[]⟩, .int .i64 0, .string ⟨#[]⟩, .slice none 0 0] 24)).alloc (.cells #[.int .i64 er, .int .i64 (a : Int)] 30)) from bnext (unhide HB1) (((Below.refl _ _).alloc (Nat.le_refl _) _).alloc (by simp) _))
    clear hb1 hok herr hne
    unfold zeroP fauV
    go_wp2_with fail
    go_ret
    exact ⟨rfl, unhide HB2⟩
  · obtain ⟨U, rfl, hU, hL⟩ := hok p j (unhide HTX)
    obtain ⟨hpw, hpb⟩ := read_right (unhide HTX)
    obtain ⟨w2, hw2⟩ : ∃ w2, w2 = (w1.alloc (.cells (patO U) 24)).alloc (.cells #[.int .i64 0, .int .i64 0] 30) := ⟨_, rfl⟩
    have hb2 : Below w1.heap.size w1 w2 := by rw [hw2]; exact ((Below.refl _ _).alloc (Nat.le_refl _) _).alloc (by simp) _
    have hq2 : w2.heap[w1.heap.size]? = some (.cells (patO U) 24 (0, 0)) := by rw [hw2]; exact at_old (by simp) (at_new rfl)
    have hf2 : w2.heap[w1.heap.size + 1]? = some (.cells #[.int .i64 0, .int .i64 0] 30 (0, 0)) := by rw [hw2]; exact at_new (by simp)
    have HI2 := hide (PT.In.later hb2 hL.here)
    have HB21 := hide hb2
    have HB2 := hide (bnext (unhide HB1) hb2)
    have HUW := hide (show U.wrong = 0 by rw [← can_wrong, hU]; exact hpw)
    have HUB := hide (show U.bar = U.can by rw [← bar_can, hU]; exact hpb)
    have HQ2 := hide hq2
    have HF2 := hide hf2
    have HLU := hide hL
    have HWR := hide (wrong_any U w2 (unhide HI2) ((unhide HRD).later (unhide HB2)).shapes)
    have HPR := hide (fun W (h : Below w2.heap.size w2 W) => print_any U W (((unhide HRD).later (unhide HB2)).later h) (PT.In.later h (unhide HI2)))
    have HW2 := hide hw2
    clear hb1 hok herr hU hL hpw hpb hw2 hb2 hq2 hf2
    rw [unhide HUW] at HWR
    unfold pv at HWR HPR ⊢
    unfold fauV
    go_wp2_with fail
    rw [show (w1.alloc (.cells #[.int .i64 U.k, .string U.t, .int .i64 U.n, .string U.nm, .slice U.xa U.len U.cap] 24)).alloc (.cells #[.int .i64 0, .int .i64 0] 30) = w2 from (unhide HW2).symm]
    refine (unhide HWR).mono ?_
    rintro e w3 ⟨rfl, hb3⟩
    obtain ⟨q0, q1, q2, q3, q4⟩ := pats5s (row_below (unhide HQ2) hb3)
    have HB3 := hide hb3
    clear hb3
    go_wp2_with fail
    refine (unhide HPR _ (unhide HB3)).mono ?_
    rintro e w4 ⟨rfl, hb4⟩
    have HB4 := hide (bnext (unhide HB3) hb4)
    have HE4 := hide (bnext (unhide HB2) (unhide HB4))
    clear hb4 q0 q1 q2 q3 q4
    by_cases hlen : 65536 < U.txt.length
    · have HS := hide (show printSaid U = .tuple #[.string ⟨#[]⟩, .int .i64 4] by unfold printSaid; rw [if_pos (unhide HUW), if_pos hlen])
      rw [unhide HS]
      clear hlen
      go_wp2_with fail
      go_ret
      exact ⟨rfl, unhide HE4⟩
    · have HS := hide (show printSaid U = .tuple #[.string ⟨U.txt.toArray⟩, .int .i64 0] by unfold printSaid; rw [if_pos (unhide HUW), if_neg hlen])
      rw [unhide HS]
      obtain ⟨j2, hr2⟩ := read_txt (unhide HUW) (Nat.le_of_not_lt hlen)
      have HR2 := hide hr2
      have HRD2 := hide (read_any ⟨U.txt.toArray⟩ w4 ((unhide HRD).later (unhide HE4)).shapes)
      generalize (⟨U.txt.toArray⟩ : ByteArray) = stx at *
      clear hlen hr2
      go_wp2_with fail
      refine (unhide HRD2).mono ?_
      rintro e w5 ⟨hb5, hok5, -⟩
      obtain ⟨V, rfl, hV, hLV⟩ := hok5 _ _ (unhide HR2)
      have hbA := bnext (unhide HB4) hb5
      have b15 : Below w1.heap.size w1 w5 := bnext (unhide HB21) hbA
      have hq5 := row_below (unhide HQ2) hbA
      have hf5 := row_below (unhide HF2) hbA
      have hs1 : w1.heap.size + 1 < w4.heap.size := by
        have h1 := (Array.getElem?_eq_some_iff.1 (unhide HF2)).1
        have h2 := (unhide HB4).size
        omega
      have hs5 := hb5.size
      obtain ⟨Y, hY⟩ : ∃ Y, Y = (w5.setCell ⟨w1.heap.size + 1, 0, none⟩ (.int .i64 0)).setCell ⟨w1.heap.size + 1, 1, none⟩ (.int .i64 0) := ⟨_, rfl⟩
      have oY : ∀ k, k ≠ w1.heap.size + 1 → Y.heap[k]? = w5.heap[k]? := fun k hk => by
        rw [hY, heap_setCell_other _ ⟨w1.heap.size + 1, 1, none⟩ k _ hk, heap_setCell_other _ ⟨w1.heap.size + 1, 0, none⟩ k _ hk]
      have sY : Y.heap.size = w5.heap.size := by rw [hY]; simp
      have aY := fun k (h : k < w5.heap.size) => Below.heap_alloc Y (.cells (patO V) 24) k (by omega)
      have HSM := hide (same_can U V (Y.alloc (.cells (patO V) 24)) (unhide HLU _ fun i _ h2 => ((aY i (by have := b15.size; omega)).trans (oY i (by omega))).trans (b15.block i h2)) (hLV _ fun i h1 h2 => (aY i h2).trans (oY i (by omega))) (by rw [hV, unhide HUB]))
      have HEX := hide (show Below w.heap.size w (Y.alloc (.cells (patO V) 24)) by
        have hw1 := (unhide HB1).size
        rw [hY]
        exact (below_cell (below_cell (bnext (unhide HB2) hbA) (by omega) _ _) (by omega) _ _).alloc (by simp; omega) _)
      obtain ⟨q0, q1, q2, q3, q4⟩ := pats5s hq5
      obtain ⟨f0, f1⟩ := fault2 hf5
      have ff := fun k => frozen_of_row w5 (w1.heap.size + 1) k _ _ hf5
      have nn3 : ¬ w1.heap.size = w1.heap.size + 1 := by omega
      have nn4 : ¬ w1.heap.size + 1 = w1.heap.size := by omega
      rw [hY] at HSM HEX
      have hlt5 : w1.heap.size + 1 < w5.heap.size := by omega
      have hlt6 : w1.heap.size < w5.heap.size := by omega
      clear hok5 hV hLV hb5 hbA hq5 hf5 oY sY aY hY b15
      unfold pv at HSM ⊢
      unfold fauV
      unfold patO at HSM HEX
      go_wp2_with fail
      refine (unhide HSM).mono ?_
      rintro e w7 ⟨rfl, hb7⟩
      have HE7 := hide (bnext (unhide HEX) hb7)
      clear hb7
      go_wp2_with fail
      go_ret
      exact ⟨rfl, unhide HE7⟩
theorem patsTurn_walk (T : PT) (tx : ByteArray) (w : World) (hT : T.In w) (_ : tx.size ≤ maxLen) (hR : Ready w) :
    Calls Tryd.prog 5 #[pv T, .string tx] w fun e w' => e = .returned (.bool true) ∧ Below w.heap.size w w' := by
  by_cases h : T.wrong = 0 ∧ T.txt.length ≤ 65536
  · exact patsTurn_ok T tx w hT hR h.1 h.2
  · exact patsTurn_bad T tx w hT hR h
end Go.Proofs.YtccnomomdfjpmaaDoor
