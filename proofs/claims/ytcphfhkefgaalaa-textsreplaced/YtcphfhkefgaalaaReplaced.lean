/- What is replaced one by one comes back: the plain part, and the law's walk. -/
import Derived.Test.YtcphfhkefgaalaaAlive
import Derived.Test.YtcphfhkefgaalaaReplace
import Derived.Deep.QuietTactic
import Derived.BigQuiet
namespace Go.Proofs.Ytcphfhkefgaalaa
open Go.RowKit

/-- How often c stands in the first k places. -/
def cnt (f : ByteArray) : Nat → UInt8 → Nat
  | 0, _ => 0
  | k + 1, c => cnt f k c + if at8 f k = c then 1 else 0
theorem cnt_le (f : ByteArray) : ∀ k c, cnt f k c ≤ k
  | 0, _ => Nat.le_refl _
  | k + 1, c => by
    have := cnt_le f k c
    unfold cnt
    split <;> omega
theorem cnt_pos (f : ByteArray) (c : UInt8) : ∀ k j, j < k → at8 f j = c → 0 < cnt f k c
  | 0, j, h, _ => absurd h (Nat.not_lt_zero _)
  | k + 1, j, h, e => by
    unfold cnt
    by_cases hj : j = k
    · subst hj; rw [if_pos e]; omega
    · have := cnt_pos f c k j (by omega) e; omega
theorem cnt_some (f : ByteArray) (c : UInt8) : ∀ k, 0 < cnt f k c → ∃ j, j < k ∧ at8 f j = c
  | 0, h => absurd h (Nat.lt_irrefl _)
  | k + 1, h => by
    by_cases e : at8 f k = c
    · exact ⟨k, by omega, e⟩
    · unfold cnt at h
      rw [if_neg e] at h
      obtain ⟨j, h1, h2⟩ := cnt_some f c k (by omega)
      exact ⟨j, by omega, h2⟩
theorem cnt_one (f : ByteArray) (c : UInt8) : ∀ k i j, cnt f k c ≤ 1 → i < j → j < k → at8 f i = c → at8 f j = c → False
  | 0, _, _, _, _, h, _, _ => absurd h (Nat.not_lt_zero _)
  | k + 1, i, j, h, hij, hj, ei, ej => by
    unfold cnt at h
    by_cases e : j = k
    · subst e
      rw [if_pos ej] at h
      have := cnt_pos f c j i hij ei
      omega
    · exact cnt_one f c k i j (by split at h <;> omega) hij (by omega) ei ej
theorem bec_none (f o : ByteArray) (c : UInt8) : ∀ k, (∀ j, j < k → at8 f j ≠ c) → bec f o k c = c
  | 0, _ => rfl
  | k + 1, h => by
    unfold bec
    rw [if_neg (h k (by omega))]
    exact bec_none f o c k fun j hj => h j (by omega)
theorem bec_at (f o : ByteArray) (c : UInt8) : ∀ k j, j < k → at8 f j = c → (∀ i, i < k → at8 f i = c → i = j) → bec f o k c = at8 o j
  | 0, j, h, _, _ => absurd h (Nat.not_lt_zero _)
  | k + 1, j, h, e, u => by
    unfold bec
    by_cases hk : at8 f k = c
    · rw [if_pos hk, u k (by omega) hk]
    · rw [if_neg hk]
      have : j ≠ k := fun x => hk (x ▸ e)
      exact bec_at f o c k j (by omega) e fun i hi => u i (by omega)
theorem bec_back (f o : ByteArray) (n : Nat) (h : ∀ c, cnt f n c ≤ 1 ∧ cnt o n c ≤ 1 ∧ cnt o n c ≤ cnt f n c) (c : UInt8) : bec o f n (bec f o n c) = c := by
  have uniq : ∀ (g : ByteArray), (∀ c, cnt g n c ≤ 1) → ∀ c i j, i < n → j < n → at8 g i = c → at8 g j = c → i = j := fun g hg c i j hi hj ei ej => by
    rcases Nat.lt_trichotomy i j with h1 | h1 | h1
    · exact (cnt_one g c n i j (hg c) h1 hj ei ej).elim
    · exact h1
    · exact (cnt_one g c n j i (hg c) h1 hi ej ei).elim
  by_cases hp : 0 < cnt f n c
  · obtain ⟨j, hj, e⟩ := cnt_some f c n hp
    rw [bec_at f o c n j hj e fun i hi ei => uniq f (fun c => (h c).1) c i j hi hj ei e]
    rw [bec_at o f (at8 o j) n j hj rfl fun i hi ei => uniq o (fun c => (h c).2.1) _ i j hi hj ei rfl]
    exact e
  · have hn : ∀ j, j < n → at8 f j ≠ c := fun j hj e => hp (cnt_pos f c n j hj e)
    rw [bec_none f o c n hn]
    refine bec_none o f c n fun j hj e => ?_
    have := cnt_pos o c n j hj e
    have := (h c).2.2
    omega
theorem mapT_back (f o : ByteArray) (n : Nat) (h : ∀ c, cnt f n c ≤ 1 ∧ cnt o n c ≤ 1 ∧ cnt o n c ≤ cnt f n c) (t : ByteArray) : mapT (bec o f n) (mapT (bec f o n) t) = t := by
  unfold mapT
  apply ByteArray.ext
  simp only [List.map_map]
  rw [List.map_congr_left (f := bec o f n ∘ bec f o n) (g := id) (fun c _ => bec_back f o n h c)]
  simp
theorem mapT_cut (g : UInt8 → UInt8) (t : ByteArray) (c : Nat) (h : c ≤ t.size) : mapT g (t.extract 0 c) ++ mapT g (t.extract c t.size) = mapT g t := by
  rw [← mapT_append, ByteArray.extract_append_extract]
  congr 1
  rw [Nat.min_eq_left (Nat.zero_le _), Nat.max_eq_right h]
  exact ByteArray.extract_zero_size

/-- 256 numbers. -/
def cntCells (f : ByteArray) (k : Nat) : Array Value := Array.ofFn (n := 256) fun i => .int .i64 (cnt f k (UInt8.ofNat i) : Int)
theorem cntCells_zero (f : ByteArray) : cntCells f 0 = Array.replicate 256 (.int .i64 0) := by
  apply Array.ext
  · simp [cntCells]
  · intro i h1 h2; simp [cntCells, cnt]
theorem cntCells_at (f : ByteArray) (k i : Nat) (h : i < 256) : (cntCells f k)[i]? = some (.int .i64 (cnt f k (UInt8.ofNat i) : Int)) := by
  rw [Array.getElem?_eq_getElem (by simpa [cntCells] using h)]
  simp only [cntCells, Array.getElem_ofFn]
theorem cntCells_step (f : ByteArray) (k : Nat) (n : Nat) (hn : n = cnt f k (at8 f k)) : (cntCells f k).setIfInBounds (at8 f k).toNat (.int .i64 ((n : Int) + 1)) = cntCells f (k + 1) := by
  subst hn
  apply Array.ext
  · simp [cntCells]
  · intro i h1 h2
    have hi : i < 256 := by simpa [cntCells] using h1
    rw [Array.getElem_setIfInBounds (by simpa using h1)]
    simp only [cntCells, Array.getElem_ofFn, cnt]
    by_cases h : (at8 f k).toNat = i
    · have e : at8 f k = UInt8.ofNat i := by rw [← h]; simp
      rw [if_pos h, if_pos e, ← e]
      simp
    · have e : ¬ at8 f k = UInt8.ofNat i := fun e => h (by rw [e]; simp [UInt8.toNat_ofNat']; omega)
      rw [if_neg h, if_neg e]
      simp
theorem info_ints : (Try.prog.info? 33).map (fun i => (i.zero, i.size)) = some (some (.agg (Array.replicate 256 (.int .i64 0))), 256) := by kernel_rfl
def zerosI : Array Value := Array.replicate 256 (.int .i64 0)

theorem below_drewN {B : Nat} {a w : World} (h : Below B a w) (n : Nat) : Below B a (w.drewN n) := ⟨h.os, h.tape, h.output, h.size, h.block⟩
theorem zerosI_eq (f : ByteArray) : zerosI = cntCells f 0 := (cntCells_zero f).symm
theorem two_rows (W : World) (A B o : Obj) : (((W.alloc A).alloc B).alloc o).drew.heap[W.heap.size]? = some A ∧ (((W.alloc A).alloc B).alloc o).drew.heap[W.heap.size + 1]? = some B := by
  rw [heap_drew]
  constructor
  · rw [Below.heap_alloc _ o _ (by simp; omega)]
    exact heap_alloc2_old W A B
  · rw [Below.heap_alloc _ o _ (by simp)]
    exact heap_alloc2_new W A B

set_option maxHeartbeats 4000000 in
set_option maxRecDepth 100000 in
theorem textsReplaced_walk (a0 : ByteArray) (a1 : ByteArray) (a2 : ByteArray) (a3 : Int) (w0 : a0.size ≤ maxLen) (w1 : a1.size ≤ maxLen) (w2 : a2.size ≤ maxLen) (_w3 : (Lit.int .i64 a3).wf = true) (w : World) :
    Calls Try.prog 5 #[.string a0, .string a1, .string a2, .int .i64 a3] w fun e w' => e = .returned (.bool true) ∧ Below w.heap.size w w' := by
  by_cases h : replE a0 a1 a2 = 0
  · obtain ⟨s0, s1, s2, s3⟩ := replE_zero a0 a1 a2 h
    have c1 := fun W => replace_ok a0 a1 a2 W s0 s1 s2 s3
    have hasz := mapT_size (bec a1 a2 a1.size) a0
    have hasz' : (((mapT (bec a1 a2 a1.size) a0).size : Int) != (a0.size : Int)) = false := by rw [bne_eq_false_iff_eq]; omega
    have hz : ∀ w, (zeroValue 33).run Try.prog w = .ok (.agg zerosI) w := (zero_of_info info_ints).1
    have hcv := fun W => run_bytes_of_string (P := Try.prog) W 9 34 5 a1 Try.underlying9 Try.underlying34 Try.underlying5
    have hcuts : (∃ c : Nat, a3 = (c : Int) ∧ c ≤ a0.size ∧ decide ((0 : Int) ≤ a3) = true ∧ decide (a3 ≤ (a0.size : Int)) = true) ∨ (decide ((0 : Int) ≤ a3) = false) ∨ (decide ((0 : Int) ≤ a3) = true ∧ decide (a3 ≤ (a0.size : Int)) = false) := by
      by_cases h1 : (0 : Int) ≤ a3
      · by_cases h2 : a3 ≤ (a0.size : Int)
        · exact .inl ⟨a3.toNat, by omega, by omega, by simpa using h1, by simpa using h2⟩
        · exact .inr (.inr ⟨by simpa using h1, by simpa using h2⟩)
      · exact .inr (.inl (by simpa using h1))
    have HC1 := hide c1
    clear c1 h
    rcases hcuts with ⟨c, rfl, hc, hd1, hd2⟩ | hd1 | ⟨hd1, hd2⟩
    case' inl =>
      have e1 : (a0.extract 0 c).size = c := by rw [ByteArray.size_extract]; omega
      have e2 : (a0.extract c a0.size).size = a0.size - c := by rw [ByteArray.size_extract]; omega
      have HC2 := hide (fun W => replace_ok (a0.extract 0 c) a1 a2 W (by omega) s1 s2 s3)
      have HC3 := hide (fun W => replace_ok (a0.extract c a0.size) a1 a2 W (by omega) s1 s2 s3)
      have hj := mapT_cut (bec a1 a2 a1.size) a0 c hc
      have hj2 : ((mapT (bec a1 a2 a1.size) (a0.extract 0 c) ++ mapT (bec a1 a2 a1.size) (a0.extract c a0.size)).toList == (mapT (bec a1 a2 a1.size) a0).toList) = true := by rw [hj]; exact beq_self_eq_true _
      have m1 := mapT_size (bec a1 a2 a1.size) (a0.extract 0 c)
      have m2 := mapT_size (bec a1 a2 a1.size) (a0.extract c a0.size)
      rw [e1] at m1
      rw [e2] at m2
      generalize mapT (bec a1 a2 a1.size) (a0.extract 0 c) = y1 at *
      generalize mapT (bec a1 a2 a1.size) (a0.extract c a0.size) = y2 at *
      have HJ := hide hj
      clear hj e1 e2
    all_goals
      have HA := hide (fun h => mapT_back a1 a2 a1.size h a0)
      generalize mapT (bec a1 a2 a1.size) a0 = y at *
      go_enter Try.func5, Try.ntmps5
      go_wp2_with (first
        | (go_at_call 16; refine (alive_any _).mono ?_; rintro e wX ⟨rfl, hbX⟩)
        | (go_at_call 9; with_reducible refine (unhide HC1 _).mono ?_; rintro e wX ⟨rfl, hb'⟩; replace hbX := bnext hbX hb'; clear hb')
        | (go_at_call 9; with_reducible refine (unhide HC2 _).mono ?_; rintro e wX ⟨rfl, hb'⟩; replace hbX := bnext hbX hb'; clear hb')
        | (go_at_call 9; with_reducible refine (unhide HC3 _).mono ?_; rintro e wX ⟨rfl, hb'⟩; replace hbX := bnext hbX hb'; clear hb'))
      have hg0 := two_rows wX (.cells zerosI 33) (.cells zerosI 33)
      have hbS := fun o => (((hbX.alloc hbX.size (.cells zerosI 33)).alloc (by have := hbX.size; simp; omega) (.cells zerosI 33)).alloc (by have := hbX.size; simp; omega) o).drew
      have hxs := hbX.size
      clear hz hcv hbX HC1
      go_loopw [78] (fun i wr => ∃ k : Nat, k ≤ a1.size ∧ i = .int .i64 k ∧ wr.heap[wX.heap.size]? = some (.cells (cntCells a1 k) 33 (0, 0)) ∧ wr.heap[wX.heap.size + 1]? = some (.cells (cntCells a2 k) 33 (0, 0)) ∧ Below w.heap.size w wr) (fun i _ => a1.size - (intOf i).toNat)
      case atStart => exact ⟨0, Nat.zero_le _, rfl, by rw [← zerosI_eq]; exact (hg0 _).1, by rw [← zerosI_eq]; exact (hg0 _).2, hbS _⟩
      case round =>
        clear hg0 hbS
        obtain ⟨k, hk, rfl, hg1, hg2, hb⟩ := hrel
        by_cases hlt : k < a1.size
        · have h1 : (k : Int) < (a1.size : Int) := by omega
          have h2 : (k : Int) < (a2.size : Int) := by omega
          have hx1 : a1[k] = at8 a1 k := at8_eq a1 k hlt
          have hx2 : a2[k]'(by omega) = at8 a2 k := at8_eq a2 k (by omega)
          have b1 := UInt8.toNat_lt (at8 a1 k)
          have b2 := UInt8.toNat_lt (at8 a2 k)
          have b1' : ((at8 a1 k).toNat : Int) < 256 := by omega
          have b2' : ((at8 a2 k).toNat : Int) < 256 := by omega
          have r1 : wr.cell? ⟨wX.heap.size, (at8 a1 k).toNat, none⟩ = some (.int .i64 (cnt a1 k (at8 a1 k) : Int)) := by
            rw [cell_of_row wr _ _ _ _ _ hg1, cntCells_at a1 k _ b1]; simp
          have r2 : wr.cell? ⟨wX.heap.size + 1, (at8 a2 k).toNat, none⟩ = some (.int .i64 (cnt a2 k (at8 a2 k) : Int)) := by
            rw [cell_of_row wr _ _ _ _ _ hg2, cntCells_at a2 k _ b2]; simp
          have f1 := frozen_of_row wr wX.heap.size (at8 a1 k).toNat _ _ hg1
          have f2 := frozen_of_row wr (wX.heap.size + 1) (at8 a2 k).toNat _ _ hg2
          have l1 := cnt_le a1 k (at8 a1 k)
          have l2 := cnt_le a2 k (at8 a2 k)
          have S1 := hide (cntCells_step a1 k)
          have S2 := hide (cntCells_step a2 k)
          obtain ⟨n1, hn1⟩ : ∃ n, n = cnt a1 k (at8 a1 k) := ⟨_, rfl⟩
          obtain ⟨n2, hn2⟩ : ∃ n, n = cnt a2 k (at8 a2 k) := ⟨_, rfl⟩
          rw [← hn1] at r1 l1
          rw [← hn2] at r2 l2
          have S1' := hide (unhide S1 n1 hn1)
          have S2' := hide (unhide S2 n2 hn2)
          have HX1 := hide hx1
          have HX2 := hide hx2
          have HG1 := hide hg1
          have HG2 := hide hg2
          have HB := hide hb
          clear S1 S2 hn1 hn2 hg1 hg2 hb hx1 hx2
          generalize hy1 : at8 a1 k = x1 at *
          generalize hy2 : at8 a2 k = x2 at *
          have hx1 := unhide HX1
          have hx2 := unhide HX2
          clear hy1 hy2
          go_wp2
          have hg1 := unhide HG1
          have hg2 := unhide HG2
          have hb := unhide HB
          have m1 := heap_setCell_same wr wX.heap.size x1.toNat _ _ (.int .i64 ((n1 : Int) + 1)) hg1
          rw [unhide S1'] at m1
          have m2 := (heap_setCell_other wr ⟨wX.heap.size, x1.toNat, none⟩ (wX.heap.size + 1) (.int .i64 ((n1 : Int) + 1)) (by simp)).trans hg2
          have m3 := heap_setCell_same _ (wX.heap.size + 1) x2.toNat _ _ (.int .i64 ((n2 : Int) + 1)) m2
          rw [unhide S2'] at m3
          have m4 := (heap_setCell_other (wr.setCell ⟨wX.heap.size, x1.toNat, none⟩ (.int .i64 ((n1 : Int) + 1))) ⟨wX.heap.size + 1, x2.toNat, none⟩ wX.heap.size (.int .i64 ((n2 : Int) + 1)) (by simp)).trans m1
          go_roundw
          case rel => exact ⟨k + 1, by omega, by go_num, m4, m3, (hb.setCell (by simpa using hxs) _).setCell (by simp; omega) _⟩
          case measure => simp [intOf]; omega
        · obtain rfl : k = a1.size := by omega
          have r1 : ∀ j, j < 256 → wr.cell? ⟨wX.heap.size, j, none⟩ = some (.int .i64 (cnt a1 a1.size (UInt8.ofNat j) : Int)) := fun j hj => by
            rw [cell_of_row wr _ _ _ _ _ hg1, cntCells_at a1 _ _ hj]
          have r2 : ∀ j, j < 256 → wr.cell? ⟨wX.heap.size + 1, j, none⟩ = some (.int .i64 (cnt a2 a1.size (UInt8.ofNat j) : Int)) := fun j hj => by
            rw [cell_of_row wr _ _ _ _ _ hg2, cntCells_at a2 _ _ hj]
          have R1 := hide r1
          have R2 := hide r2
          have HB := hide hb
          clear r1 r2 hg1 hg2 hb
          go_wp2
          go_loopw [96] (fun i wq => ∃ (k m : Nat), k ≤ 256 ∧ i = .int .i64 k ∧ wq = wr.drewN m ∧ Hid (∀ j, j < k → cnt a1 a1.size (UInt8.ofNat j) ≤ 1 ∧ cnt a2 a1.size (UInt8.ofNat j) ≤ 1 ∧ cnt a2 a1.size (UInt8.ofNat j) ≤ cnt a1 a1.size (UInt8.ofNat j))) (fun i _ => 256 - (intOf i).toNat)
          case atStart => exact ⟨0, 0, by omega, rfl, rfl, fun j hj => absurd hj (Nat.not_lt_zero _)⟩
          case round =>
            obtain ⟨k, m, hk, rfl, rfl, hall⟩ := hrel
            by_cases hlt : k < 256
            · have h1 : (k : Int) < 256 := by omega
              have v1 := unhide R1 k hlt
              have v2 := unhide R2 k hlt
              obtain ⟨n1, hn1⟩ : ∃ n, n = cnt a1 a1.size (UInt8.ofNat k) := ⟨_, rfl⟩
              obtain ⟨n2, hn2⟩ : ∃ n, n = cnt a2 a1.size (UInt8.ofNat k) := ⟨_, rfl⟩
              rw [← hn1] at v1
              rw [← hn2] at v2
              have HN1 := hide hn1
              have HN2 := hide hn2
              clear hn1 hn2
              by_cases d1 : (1 : Int) < (n1 : Int)
              · have dd1 : decide ((1 : Int) < (n1 : Int)) = true := by simpa using d1
                clear d1
                go_wp2
                go_quiet (fail)
                go_wp2
                go_ret
                exact ⟨rfl, below_drewN (below_drewN (unhide HB) _) _⟩
              · have dd1 : decide ((1 : Int) < (n1 : Int)) = false := by simpa using d1
                by_cases d2 : (1 : Int) < (n2 : Int)
                · have dd2 : decide ((1 : Int) < (n2 : Int)) = true := by simpa using d2
                  go_wp2
                  go_quiet (fail)
                  go_wp2
                  go_ret
                  exact ⟨rfl, below_drewN (below_drewN (unhide HB) _) _⟩
                · have dd2 : decide ((1 : Int) < (n2 : Int)) = false := by simpa using d2
                  by_cases d3 : (n1 : Int) < (n2 : Int)
                  · have dd3 : decide ((n1 : Int) < (n2 : Int)) = true := by simpa using d3
                    go_wp2
                    go_quiet (fail)
                    go_wp2
                    go_ret
                    exact ⟨rfl, below_drewN (below_drewN (unhide HB) _) _⟩
                  · have dd3 : decide ((n1 : Int) < (n2 : Int)) = false := by simpa using d3
                    go_wp2
                    go_quiet (fail)
                    go_wp2
                    go_roundw
                    case rel =>
                      refine ⟨k + 1, _, by omega, by go_num, rfl, fun j hj => ?_⟩
                      by_cases e : j = k
                      · subst e
                        rw [← unhide HN1, ← unhide HN2]
                        omega
                      · exact unhide hall j (by omega)
                    case measure => simp [intOf]; omega
            · obtain rfl : k = 256 := by omega
              have hcond : ∀ c, cnt a1 a1.size c ≤ 1 ∧ cnt a2 a1.size c ≤ 1 ∧ cnt a2 a1.size c ≤ cnt a1 a1.size c := fun c => by
                have := unhide hall c.toNat (UInt8.toNat_lt c)
                rw [UInt8.ofNat_toNat] at this
                exact this
              have hback := unhide HA hcond
              have c4 := fun W => replace_ok y a2 a1 W (by omega) (by omega) s2.symm (by omega)
              rw [s2, hback] at c4
              have HC4 := hide c4
              clear hcond hback c4 hall
              go_wp2_with (go_at_call 9; with_reducible refine (unhide HC4 _).mono ?_; rintro e wZ ⟨rfl, hb'⟩)
              go_ret
              exact ⟨rfl, bnext (below_drewN (unhide HB) _) hb'⟩
  · have c1 := fun W => replace_wrong a0 a1 a2 W w0 w1 w2 h
    have hne : (replE a0 a1 a2 != 0) = true := by rw [bne_iff_ne]; exact h
    generalize replE a0 a1 a2 = q at *
    have HC1 := hide c1
    clear c1 h
    go_enter Try.func5, Try.ntmps5
    go_wp2_with (first | (go_at_call 16; refine (alive_any _).mono ?_; rintro e w1 ⟨rfl, hb1⟩) | (go_at_call 9; with_reducible refine (unhide HC1 _).mono ?_; rintro e w2 ⟨rfl, hb2⟩))
    go_ret
    exact ⟨rfl, bnext hb1 hb2⟩
end Go.Proofs.Ytcphfhkefgaalaa
