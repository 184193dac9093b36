/- The library's programs, names and texts. The library's Names and Text. -/
import Derived.Test.YtpkmamgleofimaaGreatDoorLbSM
import Derived.Deep.MidRow
namespace Go.Proofs.YtpkmamgleofimaaGreatDoor
open Go.RowKit

def pRow (p : ByteArray × ByteArray) : List Value := [.string p.1, .string p.2]
theorem pRow_len (p : ByteArray × ByteArray) : (pRow p).length = 2 := rfl
def progsR : Array Value := (flat pRow progsL).toArray
theorem progs_len : progsL.length = 29 := rfl
theorem progs_at {i : Nat} {p : ByteArray × ByteArray} (h : progsL[i]? = some p) : p.1.size ≤ 100 ∧ p.2.size ≤ 65536 := by
  have h1 := List.all_eq_true.1 progs_size p (List.mem_of_getElem? h)
  simpa using h1
theorem progsR_at {w : World} {g i : Nat} {p : ByteArray × ByteArray} (hg : w.heap[g]? = some (.cells progsR 38 (0, 0))) (h : progsL[i]? = some p) : w.rangeAt g (i * 2) (pRow p) := fun j u hj => by
  have hl : j < 2 := by rw [← pRow_len p]; exact (List.getElem?_eq_some_iff.1 hj).1
  rw [cell_of_row _ _ _ _ _ _ hg]
  unfold progsR
  rw [List.getElem?_toArray, flat_get pRow_len progsL i j p h hl]
  exact hj
theorem size_prog : (Tryz.prog.info? 38).map (·.size) = some 2 := by kernel_rfl
theorem idx2 {g n cap i : Nat} (hi : i < n) (w : World) :
    (Instr.indexAt 35 (.slice (some ⟨g, 0, none⟩) n cap) (.int .i64 (i : Int))).run Tryz.prog w = .ok (.pointer (some ⟨g, i * 2, none⟩)) w := by
  have h0 : (0 : Int) ≤ (i : Int) ∧ (i : Int) < (n : Int) := by omega
  cases hq : Tryz.prog.info? 38 with
  | none => have := size_prog; simp [hq] at this
  | some x =>
    have hz : x.size = 2 := by have := size_prog; simpa [hq] using this
    simp [Instr.indexAt, asIntOf, run_underlying Tryz.underlying35, h0, sizeOf, typeInfo, hq, hz, Addr.add_lit]
    intro h
    omega
set_option maxRecDepth 100000 in
set_option maxHeartbeats 4000000 in
theorem programs_any (w : World) : Calls Tryz.prog 11 #[] w fun e w' => e = .returned (.slice (some ⟨w.heap.size, 0, none⟩) 29 29) ∧ w' = w.alloc (.cells progsR 38) := by
  go_enter Tryz.func11, Tryz.ntmps11
  go_wp2_with fail
  go_ret
  refine ⟨rfl, congrArg (fun R => w.alloc (.cells R 38)) ?_⟩
  kernel_rfl
def oneS (t : ByteArray) : List Value := [.string t]
set_option maxRecDepth 100000 in
set_option maxHeartbeats 4000000 in
theorem refNames_any (w : World) : Calls Tryz.prog 8 #[] w fun e w' => e = .returned (.slice (some ⟨w.heap.size, 0, none⟩) (progsL.map (·.1)).length (progsL.map (·.1)).length) ∧ w' = w.alloc (.cells ((progsL.map (·.1)).map Value.string).toArray 9) := by
  go_enter Tryz.func8, Tryz.ntmps8
  go_wp2_with fail
  go_ret
  refine ⟨rfl, congrArg (fun R => w.alloc (.cells R 9)) ?_⟩
  kernel_rfl
end Go.Proofs.YtpkmamgleofimaaGreatDoor

namespace Go.Proofs.YtpkmamgleofimaaGreatDoor
open Go.RowKit

theorem lbStr : (Tryz.prog.info? 9).map (fun i => (i.zero, i.size, i.bytes)) = some (some (.string ByteArray.empty), 1, 16) := by kernel_rfl
theorem oneS_one : ∀ (y : ByteArray), ∀ u ∈ oneS y, u.oneCell' = true := fun y u hu => by
  have : u = .string y := by simpa [oneS] using hu
  subst this; rfl
theorem flat_oneS : ∀ l : List ByteArray, flat oneS l = l.map Value.string
  | [] => rfl
  | a :: l => by show oneS a ++ flat oneS l = _; rw [flat_oneS l]; rfl
theorem toL_eq {a b : ByteArray} (h : a = b) : (a.toList == b.toList) = true := by rw [h, beq_iff_eq]
theorem toL_inj {a b : ByteArray} (h : a.toList = b.toList) : a = b := by
  rw [ByteArray.toList_eq, ByteArray.toList_eq] at h
  obtain ⟨⟨a⟩⟩ := a
  obtain ⟨⟨b⟩⟩ := b
  have h : a = b := h
  rw [h]
theorem toL_ne {a b : ByteArray} (h : a ≠ b) : (a.toList == b.toList) = false := by rw [beq_eq_false_iff_ne]; exact fun e => h (toL_inj e)
theorem lkT_drop {L : List (ByteArray × ByteArray)} {k : Nat} {p : ByteArray × ByteArray} (h : L[k]? = some p) (n : ByteArray) : lkT (L.drop k) n = if p.1 = n then (p.2, 0) else lkT (L.drop (k + 1)) n := by
  rw [List.drop_eq_getElem_cons (List.getElem?_eq_some_iff.1 h).1, (List.getElem?_eq_some_iff.1 h).2]; rfl
set_option maxRecDepth 100000 in
set_option maxHeartbeats 4000000 in
theorem libText_any (n : ByteArray) (w : World) : Calls Tryz.prog 4 #[.string n] w fun e w' => e = .returned (.tuple #[.string (lkT progsL n).1, .int .i64 (lkT progsL n).2]) ∧ Below w.heap.size w w' := by
  obtain ⟨w1, hw1⟩ : ∃ w1, w1 = w.alloc (.cells progsR 38) := ⟨_, rfl⟩
  have hb1 : Below w.heap.size w w1 := by rw [hw1]; exact ba _
  have hr1 : w1.heap[w.heap.size]? = some (.cells progsR 38 (0, 0)) := by rw [hw1]; exact at_new rfl
  have HB1 := hide hb1
  obtain ⟨L, hL⟩ : ∃ L, L = progsL := ⟨_, rfl⟩
  have hlen : L.length = 29 := by rw [hL]; exact progs_len
  have HAT : Hid (∀ (i : Nat) p, L[i]? = some p → p.1.size ≤ 100 ∧ p.2.size ≤ 65536 ∧ ∀ W, Below w1.heap.size w1 W → W.cell? ⟨w.heap.size, i * 2, none⟩ = some (.string p.1) ∧ W.cell? ⟨w.heap.size, i * 2 + 1, none⟩ = some (.string p.2)) := hide (fun i p hp => by
    rw [hL] at hp
    exact ⟨(progs_at hp).1, (progs_at hp).2, fun W q => ⟨progsR_at (row_below hr1 q) hp 0 _ rfl, progsR_at (row_below hr1 q) hp 1 _ rfl⟩⟩)
  obtain ⟨RR, hRR⟩ : ∃ RR, RR = lkT L n := ⟨_, rfl⟩
  rw [← hL, ← hRR]
  have H0 := hide (show Below w1.heap.size w1 w1 ∧ RR = lkT (L.drop 0) n from ⟨Below.refl _ _, hRR⟩)
  have HPG := hide (programs_any w)
  have HW1 := hide hw1
  have HLN := hide hlen
  clear hw1 hb1 hr1 hL hRR hlen
  go_enter Tryz.func4, Tryz.ntmps4
  go_wp2_with fail
  refine (unhide HPG).mono ?_
  rintro e w2 ⟨rfl, rfl⟩
  rw [← unhide HW1]
  clear HPG HW1
  go_wp2_with fail
  go_loopw [8] (fun x wr => ∃ k : Nat, k ≤ 29 ∧ x = .int .i64 (k : Int) ∧ Hid (Below w1.heap.size w1 wr ∧ RR = lkT (L.drop k) n)) (fun x _ => 29 - (intOf x).toNat)
  case atStart => exact ⟨0, Nat.zero_le _, rfl, unhide H0⟩
  case round =>
    obtain ⟨k, hk, rfl, HI⟩ := hrel
    have HBW := hide (bnext2 (unhide HB1) (unhide HI).1)
    rcases Nat.lt_or_ge k 29 with hlt | hge
    · have g1 : (k : Int) < 29 := by omega
      obtain ⟨p, hp⟩ : ∃ p, L[k]? = some p := ⟨L[k]'(by have := unhide HLN; omega), List.getElem?_eq_getElem _⟩
      obtain ⟨hs1, hs2, hc⟩ := unhide HAT k p hp
      obtain ⟨c0, c1⟩ := hc wr (unhide HI).1
      have hix := idx2 (g := w.heap.size) (cap := 29) (n := 29) (i := k) hlt
      have HD := hide (lkT_drop hp n)
      obtain ⟨p1, p2⟩ := p
      dsimp only at c0 c1 hs1 hs2
      have HB3 := hide (show Below w.heap.size w (wr.alloc (.cells #[.string p1, .string p2] 38)) from (unhide HBW).alloc (unhide HBW).size _)
      have HB4 := hide (show Below w1.heap.size w1 (wr.alloc (.cells #[.string p1, .string p2] 38)) from (unhide HI).1.alloc (unhide HI).1.size _)
      clear hp hc
      by_cases he : p1 = n
      · have HE := hide ((unhide HI).2.trans ((unhide HD).trans (if_pos he)))
        have q1 : (p1.toList == n.toList) = true := toL_eq he
        clear he
        go_wp2_with fail
        go_ret2
        exact ⟨by rw [unhide HE]; rfl, unhide HB3⟩
      · have HE := hide ((unhide HI).2.trans ((unhide HD).trans (if_neg he)))
        have q1 : (p1.toList == n.toList) = false := toL_ne he
        clear he
        go_wp2_with fail
        exact ⟨⟨k + 1, by omega, by go_num, unhide HB4, unhide HE⟩, by simp [intOf]; omega⟩
    · obtain rfl : k = 29 := by omega
      have HE := hide ((unhide HI).2.trans (show lkT (L.drop 29) n = (⟨#[]⟩, 7) by rw [List.drop_of_length_le (by rw [unhide HLN]; exact Nat.le_refl _)]; rfl))
      go_wp2_with fail
      go_ret2
      exact ⟨by rw [unhide HE]; rfl, unhide HBW⟩
set_option maxRecDepth 100000 in
set_option maxHeartbeats 4000000 in
theorem libNames_any (w : World) : Calls Tryz.prog 6 #[] w fun e w' => (∃ v, e = .returned v ∧ StrsAt w' v (progsL.map (·.1))) ∧ Below w.heap.size w w' := by
  obtain ⟨w1, hw1⟩ : ∃ w1, w1 = w.alloc (.cells progsR 38) := ⟨_, rfl⟩
  have hb1 : Below w.heap.size w w1 := by rw [hw1]; exact ba _
  have hr1 : w1.heap[w.heap.size]? = some (.cells progsR 38 (0, 0)) := by rw [hw1]; exact at_new rfl
  have HB1 := hide hb1
  obtain ⟨L, hL⟩ : ∃ L, L = progsL := ⟨_, rfl⟩
  have hlen : L.length = 29 := by rw [hL]; exact progs_len
  have HAT : Hid (∀ (i : Nat) p, L[i]? = some p → ∀ W, Below w1.heap.size w1 W → W.cell? ⟨w.heap.size, i * 2, none⟩ = some (.string p.1) ∧ W.cell? ⟨w.heap.size, i * 2 + 1, none⟩ = some (.string p.2)) := hide (fun i p hp W q => by
    rw [hL] at hp
    exact ⟨progsR_at (row_below hr1 q) hp 0 _ rfl, progsR_at (row_below hr1 q) hp 1 _ rfl⟩)
  rw [← hL]
  have HPG := hide (programs_any w)
  have HW1 := hide hw1
  have HLN := hide hlen
  clear hw1 hb1 hr1 hL hlen
  go_enter Tryz.func6, Tryz.ntmps6
  go_wp2_with fail
  refine (unhide HPG).mono ?_
  rintro e w2 ⟨rfl, rfl⟩
  rw [← unhide HW1]
  clear HPG HW1
  go_wp2_with fail
  go_loopw [1, 6] (fun v x wr => ∃ k : Nat, k ≤ 29 ∧ x = .int .i64 (k : Int) ∧ Hid (Row wr w1.heap.size 9 1 oneS v ((L.take k).map (·.1)) ∧ Below w1.heap.size w1 wr)) (fun _ x _ => 29 - (intOf x).toNat)
  case atStart => exact ⟨0, Nat.zero_le _, rfl, World.ownsRow_nil _ _ _ _, Below.refl _ _⟩
  case round =>
    obtain ⟨k, hk, rfl, HI⟩ := hrel
    rcases Nat.lt_or_ge k 29 with hlt | hge
    · have g1 : (k : Int) < 29 := by omega
      obtain ⟨p, hp⟩ : ∃ p, L[k]? = some p := ⟨L[k]'(by have := unhide HLN; omega), List.getElem?_eq_getElem _⟩
      obtain ⟨c0, c1⟩ := unhide HAT k p hp wr (unhide HI).2
      have hix := idx2 (g := w.heap.size) (cap := 29) (n := 29) (i := k) hlt
      have HTK := hide (show (L.take (k + 1)).map (·.1) = (L.take k).map (·.1) ++ [p.1] by rw [List.take_add_one, hp, List.map_append]; rfl)
      obtain ⟨p1, p2⟩ := p
      dsimp only at c0 c1
      have HB4 := hide (show Below w1.heap.size w1 ((wr.alloc (.cells #[.string p1, .string p2] 38)).alloc (.cells #[.string p1] 9)) from ((unhide HI).2.alloc (unhide HI).2.size _).alloc (by rw [World.size_alloc]; have := (unhide HI).2.size; omega) _)
      have HR4 := hide ((unhide HI).1.later (show Below wr.heap.size wr ((wr.alloc (.cells #[.string p1, .string p2] 38)).alloc (.cells #[.string p1] 9)) from (ba _).alloc (by rw [World.size_alloc]; omega) _))
      have HLK : Hid (((L.take k).map (·.1)).length ≤ 1000000) := hide (by rw [List.length_map, List.length_take]; omega)
      have HCC : Hid (∀ j u, (oneS p1)[j]? = some u → ((wr.alloc (.cells #[.string p1, .string p2] 38)).alloc (.cells #[.string p1] 9)).cell? ⟨wr.heap.size + 1, j, none⟩ = some u) := hide (fun j u hu => by
        rw [cell_of_row _ _ _ _ _ _ (at_new (w := wr.alloc (.cells #[.string p1, .string p2] 38)) (by rw [World.size_alloc])), ← hu]
        unfold oneS
        rw [show (#[Value.string p1] : Array Value) = [Value.string p1].toArray from rfl, List.getElem?_toArray])
      clear hp
      go_wp2_with (first
        | (at_builtin; refine wpList_row Tryz.underlying25 lbStr rfl (by decide) (by decide) (fun _ => rfl) oneS_one rfl _ _ rfl (unhide HR4) (unhide HB4).size p1 (wr.heap.size + 1) 1 rfl (by first | rfl | simp) (unhide HCC) (unhide HLK) ?_; intro v' w6 hrow hgrow _)
        | fail)
      have HZ := hide (And.intro (show Row w6 w1.heap.size 9 1 oneS v' ((L.take (k + 1)).map (·.1)) from (unhide HTK).symm ▸ hrow) (below_grownR (unhide HB4) (unhide HR4) (Nat.le_refl _) hgrow))
      clear hrow hgrow
      exact ⟨⟨k + 1, by omega, by go_num, unhide HZ⟩, by simp [intOf]; omega⟩
    · obtain rfl : k = 29 := by omega
      have hrw := (unhide HI).1
      rw [List.take_of_length_le (by rw [unhide HLN]; exact Nat.le_refl _)] at hrw
      have HS := hide (strs_own (by have h := hrw; unfold Row at h; rw [flat_oneS] at h; exact h))
      have HZ := hide (bnext2 (unhide HB1) (unhide HI).2)
      clear hrw
      go_wp2_with fail
      go_ret
      exact ⟨⟨_, rfl, unhide HS⟩, unhide HZ⟩
end Go.Proofs.YtpkmamgleofimaaGreatDoor
