/- What the document's own replacing answers: for each byte the last place of from that has it counts. -/
import Derived.Test.YtcphfhkefgaalaaReplace
import Derived.Test.YtcphfhkefgaalaaMuch
namespace Go.Proofs.Ytcphfhkefgaalaa
open Go.RowKit

/-- 256 numbers: the first k as the bytes become. -/
def byCells (f o : ByteArray) (k : Nat) : Array Value := Array.ofFn (n := 256) fun i => if i.val < k then .int .i64 ((bec f o f.size (UInt8.ofNat i)).toNat : Int) else .int .i64 0
theorem byCells_size (f o : ByteArray) (k : Nat) : (byCells f o k).size = 256 := by simp [byCells]
theorem byCells_zero (f o : ByteArray) : byCells f o 0 = Array.replicate 256 (.int .i64 0) := by
  apply Array.ext
  · simp [byCells]
  · intro i h1 h2; simp [byCells]
theorem byCells_at (f o : ByteArray) (x : UInt8) : (byCells f o 256)[x.toNat]? = some (.int .i64 ((bec f o f.size x).toNat : Int)) := by
  have hx := UInt8.toNat_lt x
  rw [Array.getElem?_eq_getElem (by rw [byCells_size]; exact hx)]
  simp [byCells]
theorem byCells_step (f o : ByteArray) (k : Nat) : (byCells f o k).setIfInBounds k (.int .i64 ((bec f o f.size (UInt8.ofNat k)).toNat : Int)) = byCells f o (k + 1) := by
  apply Array.ext
  · simp [byCells]
  · intro i h1 h2
    rw [Array.getElem_setIfInBounds (by simpa using h1)]
    simp only [byCells, Array.getElem_ofFn]
    by_cases e : k = i
    · subst e; simp
    · rw [if_neg e]
      by_cases h3 : i < k
      · rw [if_pos h3, if_pos (by omega)]
      · rw [if_neg h3, if_neg (by omega)]
theorem bec_skip (f o : ByteArray) (c : UInt8) : ∀ n m, m ≤ n → (∀ j, m ≤ j → j < n → at8 f j ≠ c) → bec f o n c = bec f o m c
  | 0, m, h, _ => by obtain rfl : m = 0 := by omega
                     rfl
  | n + 1, m, h, hj => by
    by_cases e : m = n + 1
    · rw [e]
    · have : bec f o (n + 1) c = bec f o n c := by
        show (if at8 f n = c then at8 o n else bec f o n c) = _
        rw [if_neg (hj n (by omega) (by omega))]
      rw [this]
      exact bec_skip f o c n m (by omega) fun j h1 h2 => hj j h1 (by omega)
theorem info_ints : (Try.prog.info? 33).map (fun i => (i.zero, i.size)) = some (some (.agg (Array.replicate 256 (.int .i64 0))), 256) := by kernel_rfl
def zerosI : Array Value := Array.replicate 256 (.int .i64 0)

set_option maxHeartbeats 400000 in
theorem refReplace_wrong (t f o : ByteArray) (w : World) (ht : t.size ≤ maxLen) (hf : f.size ≤ maxLen) (ho : o.size ≤ maxLen) (h : replE t f o ≠ 0) :
    Calls Try.prog 10 #[.string t, .string f, .string o] w fun e w' => e = .returned (.tuple #[.string ⟨#[]⟩, .int .i64 (replE t f o)]) ∧ Below w.heap.size w w' := by
  by_cases h1 : anyLong [t, f, o] = true
  · have e : replE t f o = 4 := by unfold replE; rw [if_pos h1]
    rw [e]
    have HE := hide h1
    clear h1 e h
    go_enter Try.func10, Try.ntmps10
    go_wp2_with (go_at_call 21; refine (much_three t f o _ _ ht hf ho (by simp) (by simp) (by simp)).mono ?_; rintro e w' ⟨rfl, rfl⟩; rw [unhide HE])
    go_ret2
    exact ⟨rfl, (Below.refl _ _).alloc (Nat.le_refl _) _⟩
  · have h2 : f.size = 0 ∨ o.size ≠ f.size := by
      by_cases h3 : f.size = 0 ∨ o.size ≠ f.size
      · exact h3
      · exfalso; apply h; unfold replE; rw [if_neg h1, if_neg h3]
    have e : replE t f o = 8 := by unfold replE; rw [if_neg h1, if_pos h2]
    rw [e]
    have HE := hide (Bool.eq_false_iff.2 h1)
    clear h1 e h
    by_cases h3 : o.size = f.size
    · have h4 : ((f.size : Int) != (o.size : Int)) = false := by rw [bne_eq_false_iff_eq]; omega
      have h5 : ((f.size : Int) == 0) = true := by rw [beq_iff_eq]; omega
      clear h2 h3
      go_enter Try.func10, Try.ntmps10
      go_wp2_with (go_at_call 21; refine (much_three t f o _ _ ht hf ho (by simp) (by simp) (by simp)).mono ?_; rintro e w' ⟨rfl, rfl⟩; rw [unhide HE])
      go_ret2
      exact ⟨rfl, (Below.refl _ _).alloc (Nat.le_refl _) _⟩
    · have h4 : ((f.size : Int) != (o.size : Int)) = true := by rw [bne_iff_ne]; omega
      clear h2 h3
      go_enter Try.func10, Try.ntmps10
      go_wp2_with (go_at_call 21; refine (much_three t f o _ _ ht hf ho (by simp) (by simp) (by simp)).mono ?_; rintro e w' ⟨rfl, rfl⟩; rw [unhide HE])
      go_ret2
      exact ⟨rfl, (Below.refl _ _).alloc (Nat.le_refl _) _⟩

set_option maxHeartbeats 2000000 in
set_option maxRecDepth 100000 in
theorem refReplace_ok (t f o : ByteArray) (w : World) (ht : t.size ≤ 65536) (hf : f.size ≤ 65536) (ho : o.size = f.size) (h0 : f.size ≠ 0) :
    Calls Try.prog 10 #[.string t, .string f, .string o] w fun e w' => e = .returned (.tuple #[.string (mapT (bec f o f.size) t), .int .i64 0]) ∧ Below w.heap.size w w' := by
  have HE := hide (show anyLong [t, f, o] = false by rw [anyLong_three]; simp; omega)
  obtain ⟨i0, hi, hz0, hz1, hz2⟩ := info_parts info_byte
  have h4 : ((f.size : Int) != (o.size : Int)) = false := by rw [bne_eq_false_iff_eq]; omega
  have h5 : ((f.size : Int) == 0) = false := by rw [beq_eq_false_iff_ne]; omega
  have hz : ∀ w, (zeroValue 33).run Try.prog w = .ok (.agg zerosI) w := (zero_of_info info_ints).1
  have hcv := fun W => run_bytes_of_string (P := Try.prog) W 9 34 5 t Try.underlying9 Try.underlying34 Try.underlying5
  have HZ := hide (show zerosI = byCells f o 0 from (byCells_zero f o).symm)
  go_enter Try.func10, Try.ntmps10
  go_wp2_with (go_at_call 21; refine (much_three t f o _ _ (by unfold maxLen; omega) (by unfold maxLen; omega) (by unfold maxLen; omega) (by simp) (by simp) (by simp)).mono ?_; rintro e w' ⟨rfl, rfl⟩; rw [unhide HE])
  clear hz
  go_loopw [10, 29] (fun _ i wr => ∃ k : Nat, k ≤ 256 ∧ i = .int .i64 k ∧ wr.heap[w.heap.size + 1]? = some (.cells (byCells f o k) 33 (0, 0)) ∧ Below w.heap.size w wr ∧ w.heap.size + 2 ≤ wr.heap.size) (fun _ i _ => 256 - (intOf i).toNat)
  case atStart => exact ⟨0, by omega, rfl, by rw [← unhide HZ]; exact heap_alloc2_new w _ _, ((Below.refl _ _).alloc (Nat.le_refl _) _).alloc (by simp) _, by simp⟩
  case round =>
    obtain ⟨k, hk, rfl, hg, hb, hsz⟩ := hrel
    by_cases hlt : k < 256
    · have h1 : (k : Int) < 256 := by omega
      have hcell : wr.cell? ⟨w.heap.size + 1, k, none⟩ = some (.int .i64 0) := by
        rw [cell_of_row wr _ _ _ _ _ hg, Array.getElem?_eq_getElem (by rw [byCells_size]; exact hlt)]
        simp [byCells]
      have hfr := frozen_of_row wr (w.heap.size + 1) k _ _ hg
      have hg1 := heap_setCell_same wr (w.heap.size + 1) k _ _ (.int .i64 (k : Int)) hg
      have hb1 := hb.setCell (p := ⟨w.heap.size + 1, k, none⟩) (show w.heap.size ≤ w.heap.size + 1 by omega) (.int .i64 (k : Int))
      have hs1 : w.heap.size + 2 ≤ (wr.setCell ⟨w.heap.size + 1, k, none⟩ (.int .i64 (k : Int))).heap.size := by simpa using hsz
      have G := hide hg1
      have B := hide hb1
      have Z := hide hs1
      clear hg hb hsz hg1 hb1 hs1
      go_wp2
      clear hcv hcell hfr
      generalize wr.setCell ⟨w.heap.size + 1, k, none⟩ (.int .i64 (k : Int)) = wi at *
      have hkk : (UInt8.ofNat k).toNat = k := by simp [UInt8.toNat_ofNat']; omega
      go_loop [10] (fun i => ∃ m : Nat, m ≤ f.size ∧ i = .int .i64 ((m : Int) - 1) ∧ Hid (∀ j, m ≤ j → j < f.size → at8 f j ≠ UInt8.ofNat k)) (fun i => (intOf i + 1).toNat)
      case atStart => exact ⟨f.size, Nat.le_refl _, by go_num, fun j h1 h2 => by omega⟩
      case round =>
        obtain ⟨m, hm, rfl, hno⟩ := hrel
        by_cases hm0 : m = 0
        · subst hm0
          have hv : bec f o f.size (UInt8.ofNat k) = UInt8.ofNat k := (bec_skip f o (UInt8.ofNat k) f.size 0 (by omega) (unhide hno)).trans rfl
          have hst := byCells_step f o k
          rw [hv, hkk] at hst
          have HST := hide hst
          clear hv hst hkk hno
          go_wp2
          have g1 := unhide G
          rw [unhide HST] at g1
          go_roundw
          case rel => exact ⟨k + 1, by omega, by go_num, g1, unhide B, unhide Z⟩
          case measure => simp [intOf]; omega
        · obtain ⟨j, rfl⟩ : ∃ j, m = j + 1 := ⟨m - 1, by omega⟩
          have e1 : ((j + 1 : Nat) : Int) - 1 = (j : Int) := by omega
          rw [e1]
          have hj1 : j < f.size := by omega
          have hj2 : j < o.size := by omega
          have hj1' : (j : Int) < (f.size : Int) := by omega
          have hj2' : (j : Int) < (o.size : Int) := by omega
          have b1 := UInt8.toNat_lt (f[j]'hj1)
          have b2 := UInt8.toNat_lt (o[j]'hj2)
          have hw1 : wrap64 ((f[j]'hj1).toNat : Int) = ((f[j]'hj1).toNat : Int) := IntWalk.wrap64_in _ (by omega)
          have hw2 : wrap64 ((o[j]'hj2).toNat : Int) = ((o[j]'hj2).toNat : Int) := IntWalk.wrap64_in _ (by omega)
          clear b1 b2
          have x1 := at8_eq f j hj1
          have x2 := at8_eq o j hj2
          by_cases hc : at8 f j = UInt8.ofNat k
          · have hq : (((f[j]'hj1).toNat : Int) == (k : Int)) = true := by rw [x1, hc, hkk]; exact beq_self_eq_true _
            have hv : bec f o f.size (UInt8.ofNat k) = o[j]'hj2 := by
              rw [bec_skip f o (UInt8.ofNat k) f.size (j + 1) (by omega) (unhide hno), x2]
              show (if at8 f j = UInt8.ofNat k then at8 o j else _) = _
              rw [if_pos hc]
            have hst := byCells_step f o k
            rw [hv] at hst
            have g1 := unhide G
            have hcell : wi.cell? ⟨w.heap.size + 1, k, none⟩ = some (.int .i64 (k : Int)) := by
              rw [cell_of_row wi _ _ _ _ _ g1, Array.getElem?_setIfInBounds_self_of_lt (by rw [byCells_size]; exact hlt)]
            have hfr := frozen_of_row wi (w.heap.size + 1) k _ _ g1
            have g2 := heap_setCell_same wi (w.heap.size + 1) k _ _ (.int .i64 ((o[j]'hj2).toNat : Int)) g1
            rw [Array.setIfInBounds_setIfInBounds, hst] at g2
            have b2 := (unhide B).setCell (p := ⟨w.heap.size + 1, k, none⟩) (show w.heap.size ≤ w.heap.size + 1 by omega) (.int .i64 ((o[j]'hj2).toNat : Int))
            have z2 : w.heap.size + 2 ≤ (wi.setCell ⟨w.heap.size + 1, k, none⟩ (.int .i64 ((o[j]'hj2).toNat : Int))).heap.size := by simpa using unhide Z
            have G2 := hide g2
            have B2 := hide b2
            have Z2 := hide z2
            clear g1 g2 b2 z2 hst hv hc x1 x2 hno hkk e1
            go_wp2
            go_roundw
            case rel => exact ⟨k + 1, by omega, by go_num, unhide G2, unhide B2, unhide Z2⟩
            case measure => simp [intOf]; omega
          · have hq : (((f[j]'hj1).toNat : Int) == (k : Int)) = false := by
              rw [beq_eq_false_iff_ne]
              intro e
              apply hc
              apply UInt8.toNat_inj.1
              rw [← x1, hkk]
              exact Int.ofNat.inj e
            have hno2 : Hid (∀ i, j ≤ i → i < f.size → at8 f i ≠ UInt8.ofNat k) := fun i h1 h2 => by
              by_cases e : i = j
              · subst e; exact hc
              · exact unhide hno i (by omega) h2
            clear hc x1 x2 hkk hno e1 hw2
            go_wp2
            go_round
            case rel => exact ⟨j, by omega, by go_num, hno2⟩
            case measure => simp [intOf]
    · obtain rfl : k = 256 := by omega
      have hcat := byCells_at f o
      generalize hgg : bec f o f.size = g at *
      generalize hC : byCells f o 256 = C at *
      have H4 := hide hcat
      have hnl : (mapT g t).data.toList.length = t.size := by rw [Array.length_toList]; exact mapT_size g t
      have HNL := hide hnl
      have G := hide hg
      have HG := hide hgg
      have hstep : ∀ k (h : k < t.size), ((mapT g t).data.toList.take (k + 1)).map bc = ((mapT g t).data.toList.take k).map bc ++ [.int .u8 ((g (t[k]'h)).toNat : Int)] := fun k h => by
        rw [take_bytes _ k (by rw [hnl]; exact h)]
        simp [mapT]
        rfl
      have HSt := hide hstep
      clear hcat hC hg hnl hgg hstep
      rw [show ((256 : Nat) : Int) = 256 from rfl]
      go_wp2
      obtain ⟨W0, hW0⟩ : ∃ W0, W0 = (wr.alloc (.cells (bytesRow t (grownCap wr t.size 0 5)) 5 ((bytesRow t (grownCap wr t.size 0 5)).size, (bytesRow t (grownCap wr t.size 0 5)).size + 1))).drew := ⟨_, rfl⟩
      rw [← hW0]
      have q1 : ∀ j (h : j < t.size), W0.cell? ⟨wr.heap.size, j, none⟩ = some (.int .u8 ((t[j]'h).toNat : Int)) := fun j h => by
        rw [cell_of_row W0 wr.heap.size j (bytesRow t (grownCap wr t.size 0 5)) 5 _ (by rw [hW0, heap_drew]; exact heap_alloc_last wr _), bytesRow_at t _ j h]
        rfl
      have q2 : ∀ x : UInt8, W0.cell? ⟨w.heap.size + 1, x.toNat, none⟩ = some (.int .i64 ((g x).toNat : Int)) := fun x => by
        have : W0.heap[w.heap.size + 1]? = some (.cells C 33 (0, 0)) := by
          rw [hW0, heap_drew, Below.heap_alloc _ _ _ (by omega)]
          exact unhide G
        rw [cell_of_row W0 _ _ _ _ _ this, unhide H4]
      have q3 : Below w.heap.size w W0 := by rw [hW0]; exact (hb.alloc hb.size _).drew
      have q4 : W0.heap.size = wr.heap.size + 1 := by rw [hW0]; simp
      have Q1 := hide q1
      have Q2 := hide q2
      have Q3 := hide q3
      have Q4 := hide q4
      clear q1 q2 q3 q4 hW0 hcv G H4 hb HE h4 h5 HZ
      generalize hN : wr.heap.size = N1 at *
      clear hN
      go_loopw [11, 58] (fun v i wq => ∃ k : Nat, k ≤ t.size ∧ i = .int .i64 (k : Int) ∧ wq.ownsRow (N1 + 1) 5 1 v k (((mapT g t).data.toList.take k).map bc) ∧ Below (N1 + 1) W0 wq ∧ N1 + 1 ≤ wq.heap.size) (fun _ i _ => t.size - (intOf i).toNat)
      case atStart => exact ⟨0, Nat.zero_le _, rfl, World.ownsRow_nil _ _ _ _, Below.refl _ _, by rw [unhide Q4]; exact Nat.le_refl _⟩
      case round =>
        obtain ⟨k, hk, rfl, ho', hb', hsz'⟩ := hrel
        by_cases hlt2 : k < t.size
        · have hk2 : (k : Int) < (t.size : Int) := by omega
          have r1 := (hb'.cell (p := ⟨N1, k, none⟩) (show N1 < N1 + 1 by omega)).trans (unhide Q1 k hlt2)
          have r2 := (hb'.cell (p := ⟨w.heap.size + 1, (t[k]'hlt2).toNat, none⟩) (show w.heap.size + 1 < N1 + 1 by omega)).trans (unhide Q2 (t[k]'hlt2))
          have HS := hide (unhide HSt k hlt2)
          have b1 := UInt8.toNat_lt (t[k]'hlt2)
          have b1' : ((t[k]'hlt2).toNat : Int) < 256 := by omega
          have b2 := UInt8.toNat_lt (g (t[k]'hlt2))
          have b2' : ((g (t[k]'hlt2)).toNat : Int) < 256 := by omega
          generalize hy : g (t[k]'hlt2) = y at *
          clear hy
          go_wp2_with (at_builtin; refine wpList_append_own _ rfl _ _ 34 rfl (N1 + 1) 5 i0 (.int .u8 0) 1 1 Try.underlying34 hi hz0 hz1 hz2 rfl (by decide) _ _ _ rfl (ho'.alloc _) ⟨wr.heap.size, 0, none⟩ 1 1 [.int .u8 (y.toNat : Int)] rfl rfl (cell_one_new _ _ _) (by intro u hu; simp at hu; subst hu; rfl) (by unfold maxLen; omega) (by omega) (by simp; omega) ?_; intro v' w1 hown' hgrow _)
          have hb1 := (hb'.alloc (by omega) (.cells #[.int .u8 (y.toNat : Int)] 5)).grown hgrow (by simp; omega) (fun g hg => by have := (ho'.alloc (.cells #[.int .u8 (y.toNat : Int)] 5)).lt g hg; omega)
          have hs1 : N1 + 1 ≤ w1.heap.size := by have := hgrow.size; simp at this; omega
          clear hgrow ho' hb'
          go_roundw
          case rel => exact ⟨k + 1, by omega, by go_num, by rw [unhide HS]; exact hown', hb1, hs1⟩
          case measure => simp [intOf]; omega
        · obtain rfl : k = t.size := by omega
          rw [List.take_of_length_le (by rw [unhide HNL]; exact Nat.le_refl _)] at ho'
          have ho2 := ho'
          rw [← unhide HNL] at ho2
          have hcv1 := out_string _ _ _ _ ho2
          have hcv2 : (convert 34 9 u11).run Try.prog wr = .ok (.string (mapT g t)) wr := by simpa using hcv1
          have hbb : Below w.heap.size w wr := (unhide Q3).trans (hb'.mono (by omega))
          have HB := hide hbb
          obtain ⟨z, hz⟩ : ∃ z, z = mapT g t := ⟨_, rfl⟩
          rw [← hz] at hcv2
          have HZ := hide hz
          clear ho' ho2 hcv1 hb' hbb hz
          go_wp2
          go_ret2
          exact ⟨by rw [unhide HZ, ← unhide HG]; rfl, unhide HB⟩

theorem refReplace_any (t f o : ByteArray) (w : World) (ht : t.size ≤ maxLen) (hf : f.size ≤ maxLen) (ho : o.size ≤ maxLen) :
    Calls Try.prog 10 #[.string t, .string f, .string o] w fun e w' => e = .returned (.tuple #[.string (replV t f o), .int .i64 (replE t f o)]) ∧ Below w.heap.size w w' := by
  by_cases h : replE t f o = 0
  · obtain ⟨h1, h2, h3, h4⟩ := replE_zero t f o h
    have e : replV t f o = mapT (bec f o f.size) t := by unfold replV; rw [if_pos h]
    rw [e, h]
    exact refReplace_ok t f o w h1 h2 h3 h4
  · have e : replV t f o = ⟨#[]⟩ := by unfold replV; rw [if_neg h]
    rw [e]
    exact refReplace_wrong t f o w ht hf ho h
end Go.Proofs.Ytcphfhkefgaalaa
