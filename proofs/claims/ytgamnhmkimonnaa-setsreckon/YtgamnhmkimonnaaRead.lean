/- What sets.Read does, for every text. -/
import Derived.Test.YtgamnhmkimonnaaReadRun
import Derived.Test.YtgamnhmkimonnaaPrefix
import Derived.Test.YtgamnhmkimonnaaSetNot
import Derived.Deep.RegionHeld3
namespace Go.Proofs.Ytgamnhmkimonnaa
open Go.RowKit

/-- The runs of a text, from a place on: what is wrong, and where; or the set. -/
def rd (c : Nat → Nat) (n : Nat) : Nat → Nat → (Nat → Bool) → Nat × Nat × (Nat → Bool)
  | 0, _, p => (0, 0, p)
  | f + 1, i, p =>
    if i < n then
      if (rr c i).2.2.2.1 ≠ 0 then ((rr c i).2.2.2.1, (rr c i).2.2.2.2, fun _ => false)
      else rd c n f (rr c i).2.2.1 (fun x => p x || (decide ((rr c i).1 ≤ x) && decide (x ≤ (rr c i).2.1)))
    else (0, 0, p)
/-- What a text tells. -/
def readIn (t : ByteArray) : Nat × Nat × (Nat → Bool) := rd (ch t) t.size t.size (if ch t 0 = 94 then 1 else 0) (fun _ => false)
def readSaid (t : ByteArray) : Nat × Nat × (Nat → Bool) :=
  if 65536 < t.size then (4, 0, fun _ => false)
  else if (readIn t).1 ≠ 0 then ((readIn t).1, (readIn t).2.1, fun _ => false)
  else (0, 0, if ch t 0 = 94 then fun x => !(readIn t).2.2 x else (readIn t).2.2)
def readV (r : Nat × Nat × (Nat → Bool)) : Value := .tuple #[sv r.2.2, fv r.1 r.2.1]
theorem rr_ok (t : ByteArray) (i : Nat) (hi : i ≤ t.size) (h : (rr (ch t) i).2.2.2.1 = 0) : i < (rr (ch t) i).2.2.1 ∧ (rr (ch t) i).2.2.1 ≤ t.size ∧ (rr (ch t) i).1 ≤ (rr (ch t) i).2.1 ∧ (rr (ch t) i).2.1 < 256 := by
  unfold rr at h ⊢
  split
  · rename_i h1; rw [if_pos h1] at h; simp at h
  · rename_i h1
    have h1' : (rb (ch t) i).1 = true := by simpa using h1
    obtain ⟨a1, a2, a3⟩ := rb_next t i hi h1'
    rw [if_neg h1] at h
    split
    · exact ⟨a1, a2, Nat.le_refl _, a3⟩
    · rename_i h2
      rw [if_neg h2] at h
      have hlt : (rb (ch t) i).2.2 < t.size := by
        by_cases hh : (rb (ch t) i).2.2 < t.size
        · exact hh
        · exfalso
          apply h2
          rw [ch_end t _ (by omega)]
          decide
      split
      · rename_i h3; rw [if_pos h3] at h; simp at h
      · rename_i h3
        rw [if_neg h3] at h
        have h3' : (rb (ch t) ((rb (ch t) i).2.2 + 1)).1 = true := by simpa using h3
        obtain ⟨b1, b2, b3⟩ := rb_next t _ (by omega) h3'
        split
        · rename_i h4; rw [if_pos h4] at h; simp at h
        · rename_i h4
          exact ⟨by simp only; omega, b2, by simp only; omega, b3⟩
theorem rr_err (c : Nat → Nat) (i : Nat) : (rr c i).2.2.2.1 = 0 ∨ (rr c i).2.2.2.1 = 2 ∨ (rr c i).2.2.2.1 = 3 := by
  unfold rr
  split
  · exact .inr (.inl rfl)
  · split
    · exact .inl rfl
    · split
      · exact .inr (.inl rfl)
      · split
        · exact .inr (.inr rfl)
        · exact .inl rfl

theorem sc_none (p : Nat → Bool) (x : Nat) : (sc fun c => p c || (decide (x ≤ c) && decide (c < x))) = sc p := sc_congr fun c _ => by
  have : (decide (x ≤ c) && decide (c < x)) = false := by rw [Bool.and_eq_false_iff, decide_eq_false_iff_not, decide_eq_false_iff_not]; omega
  rw [this, Bool.or_false]
theorem sc_more (p : Nat → Bool) (x b : Nat) (h : x ≤ b) : (sc fun c => (p c || (decide (x ≤ c) && decide (c < b))) || c == b) = sc fun c => p c || (decide (x ≤ c) && decide (c < b + 1)) := sc_congr fun c _ => by
  rw [Bool.or_assoc]
  congr 1
  by_cases e : c = b
  · subst e; simp; exact h
  · have e1 : (c == b) = false := by rw [beq_eq_false_iff_ne]; exact e
    have e2 : decide (c < b + 1) = decide (c < b) := by simp only [decide_eq_decide]; omega
    rw [e1, e2, Bool.or_false]
theorem sc_upto (p : Nat → Bool) (x y : Nat) : (sc fun c => p c || (decide (x ≤ c) && decide (c < y + 1))) = sc fun c => p c || (decide (x ≤ c) && decide (c ≤ y)) := sc_congr fun c _ => by
  have e2 : decide (c < y + 1) = decide (c ≤ y) := by simp only [decide_eq_decide]; omega
  rw [e2]
theorem lt_of_block {w : World} {n : Nat} {x : Obj} (h : w.heap[n]? = some x) : n < w.heap.size := (Array.getElem?_eq_some_iff.1 h).1
theorem six_back {W : World} {N : Nat} (e a : Value) (h0 : W.heap[N]? = some (.cells zerosS 24 (0, 0))) (h1 : W.heap[N + 1]? = some (.cells #[.int .i64 0, .int .i64 0] 38 (0, 0))) :
    ((((((W.setCell ⟨N, 0, none⟩ (.int .u64 0)).setCell ⟨N, 1, none⟩ (.int .u64 0)).setCell ⟨N, 2, none⟩ (.int .u64 0)).setCell ⟨N, 3, none⟩ (.int .u64 0)).setCell ⟨N + 1, 0, none⟩ e).setCell ⟨N + 1, 1, none⟩ a).drew.heap[N]? = some (.cells zerosS 24 (0, 0)) ∧
    ((((((W.setCell ⟨N, 0, none⟩ (.int .u64 0)).setCell ⟨N, 1, none⟩ (.int .u64 0)).setCell ⟨N, 2, none⟩ (.int .u64 0)).setCell ⟨N, 3, none⟩ (.int .u64 0)).setCell ⟨N + 1, 0, none⟩ e).setCell ⟨N + 1, 1, none⟩ a).drew.heap[N + 1]? = some (.cells #[e, a] 38 (0, 0)) := by
  rw [heap_drew]
  constructor
  · rw [heap_setCell_other _ _ _ _ (by simp only; omega), heap_setCell_other _ _ _ _ (by simp only; omega)]
    exact heap_setCell_same _ _ 3 _ _ _ (heap_setCell_same _ _ 2 _ _ _ (heap_setCell_same _ _ 1 _ _ _ (heap_setCell_same _ _ 0 _ _ _ h0)))
  · refine heap_setCell_same _ _ 1 #[e, .int .i64 0] _ _ (heap_setCell_same _ _ 0 #[.int .i64 0, .int .i64 0] _ _ ?_)
    rw [heap_setCell_other _ _ _ _ (by simp only; omega), heap_setCell_other _ _ _ _ (by simp only; omega), heap_setCell_other _ _ _ _ (by simp only; omega), heap_setCell_other _ _ _ _ (by simp only; omega)]
    exact h1
theorem rd_end (c : Nat → Nat) (n f : Nat) (p : Nat → Bool) : rd c n f n p = (0, 0, p) := by
  cases f with
  | zero => rfl
  | succ f => unfold rd; rw [if_neg (by omega)]
theorem info_fc : (Try.prog.info? 38).map (·.size) = some (#[Value.int .i64 0, Value.int .i64 0] : Array Value).size := info_fault
/-- Two results that lie in memory: a set and a fault. -/
theorem results_two {fn : Func} {p q : Tmp} (h : fn.results = #[.cell p 24, .cell q 38]) (tmps : Array Value) (w : World) (g k : Nat) (S F : Array Value)
    (hp : tmps.getD p undef = .pointer (some ⟨g, 0, none⟩)) (hq : tmps.getD q undef = .pointer (some ⟨k, 0, none⟩))
    (hg : w.heap[g]? = some (.cells S 24 (0, 0))) (hk : w.heap[k]? = some (.cells F 38 (0, 0))) (hS : S.size = 4) (hF : F.size = 2) :
    (results fn tmps).run Try.prog w = .ok (.tuple #[.agg S, .agg F]) w := by
  have hp' : tmps[p]?.getD undef = .pointer (some ⟨g, 0, none⟩) := by simpa using hp
  have hq' : tmps[q]?.getD undef = .pointer (some ⟨k, 0, none⟩) := by simpa using hq
  have e1 := run_loadVar_row (P := Try.prog) w g 24 24 S (0, 0) _ hg Try.underlying24 rfl (by rw [hS]; exact size_set)
  have e2 := run_loadVar_row (P := Try.prog) w k 38 38 F (0, 0) _ hk Try.underlying38 rfl (by rw [hF]; exact info_fault)
  simp [results, h, hp', hq', asAddr, e1, e2]
theorem results_read : Try.f25.results = #[.cell 2 24, .cell 3 38] := rfl

set_option maxHeartbeats 400000 in
theorem read_much (t : ByteArray) (w : World) (hm : t.size ≤ maxLen) (ht : 65536 < t.size) :
    Calls Try.prog 25 #[.string t] w fun e w' => e = .returned (.tuple #[sv fun _ => false, fv 4 0]) ∧ Below w.heap.size w w' := by
  unfold maxLen at hm
  have h1 : (65536 : Int) < (t.size : Int) := by omega
  have HZ := hide zerosS_eq
  go_enter Try.func25, Try.ntmps25
  go_wp2
  refine bodyPost_ret (results_two results_read _ _ w.heap.size (w.heap.size + 1) _ _ rfl rfl (at_old (by simp only [World.size_alloc]; omega) (at_new rfl)) (at_new (by simp only [World.size_alloc])) rfl rfl) rfl ⟨?_, ((Below.refl _ _).alloc (Nat.le_refl _) _).alloc (by simp only [World.size_alloc]; omega) _⟩
  unfold sv
  rw [← unhide HZ]
  rfl

set_option maxHeartbeats 1000000 in
theorem read_others (t : ByteArray) (w : World) (ht : t.size ≤ 65536) (h94 : ch t 0 = 94) :
    Calls Try.prog 25 #[.string t] w fun e w' => e = .returned (readV (readSaid t)) ∧ Below w.heap.size w w' := by
  have C0 := hide (fun W => prefix_any t W ht)
  have C1 := hide (fun i hi W => readRun_any t i W ht hi)
  obtain ⟨R, hR⟩ : ∃ R, R = readSaid t := ⟨_, rfl⟩
  rw [← hR]
  obtain ⟨R0, hR0⟩ : ∃ R0, R0 = readIn t := ⟨_, rfl⟩
  have HR : Hid (R = if R0.1 ≠ 0 then (R0.1, R0.2.1, fun _ => false) else (0, 0, fun x => !R0.2.2 x)) := by
    show R = _
    rw [hR]
    unfold readSaid
    rw [if_neg (by omega), if_pos h94, hR0]
  have HR0 : Hid (rd (ch t) t.size t.size 1 (fun _ => false) = R0) := by
    show _ = R0
    rw [hR0]
    unfold readIn
    rw [if_pos h94]
  clear hR hR0
  rw [decide_eq_true h94] at C0
  have hle : 1 ≤ t.size := by
    by_cases h : 1 ≤ t.size
    · exact h
    · rw [ch_end t 0 (by omega)] at h94; omega
  have HL := hide hle
  have HZ := hide zerosS_eq
  clear hle h94
  go_enter Try.func25, Try.ntmps25
  go_wp2_with fail
  refine (unhide C0 _).mono ?_
  rintro e w1 ⟨rfl, rfl⟩
  go_wp2
  go_loopw [5] (fun a wr => ∃ (i f : Nat) (p : Nat → Bool), i ≤ t.size ∧ a = .int .i64 i ∧ wr.heap[w.heap.size]? = some (.cells zerosS 24 (0, 0)) ∧ wr.heap[w.heap.size + 1]? = some (.cells #[.int .i64 0, .int .i64 0] 38 (0, 0)) ∧ wr.heap[w.heap.size + 1 + 1]? = some (.cells (sc p) 24 (0, 0)) ∧ Below w.heap.size w wr ∧ Hid (rd (ch t) t.size f i p = R0) ∧ t.size ≤ f + i) (fun a _ => t.size - (intOf a).toNat)
  case atStart =>
    refine ⟨1, t.size, fun _ => false, unhide HL, rfl, at_old (by simp only [World.size_alloc]; omega) (at_old (by simp only [World.size_alloc]; omega) (at_new rfl)), at_old (by simp only [World.size_alloc]; omega) (at_new (by simp only [World.size_alloc])), ?_, (((Below.refl _ _).alloc (Nat.le_refl _) _).alloc (by simp only [World.size_alloc]; omega) _).alloc (by simp only [World.size_alloc]; omega) _, HR0, by omega⟩
    rw [← unhide HZ]
    exact at_new (by simp only [World.size_alloc])
  case round =>
    obtain ⟨i, f, p, hi, rfl, hg0, hg1, hg2, hb, HF, hf⟩ := hrel
    by_cases hlt : i < t.size
    · have h1 : (i : Int) < (t.size : Int) := by omega
      obtain ⟨f, rfl⟩ : ∃ g, f = g + 1 := ⟨f - 1, by omega⟩
      have D := hide (unhide C1 i hi)
      have hF := unhide HF
      unfold rd at hF
      rw [if_pos hlt] at hF
      by_cases he : (rr (ch t) i).2.2.2.1 = 0
      · rw [if_neg (by omega)] at hF
        obtain ⟨r1, r2, r3, r4⟩ := rr_ok t i hi he
        have hv : rrV (rr (ch t) i) = .tuple #[.int .u8 ((rr (ch t) i).1 : Int), .int .u8 ((rr (ch t) i).2.1 : Int), .int .i64 ((rr (ch t) i).2.2.1 : Int), .agg #[.int .i64 0, .int .i64 ((rr (ch t) i).2.2.2.2 : Int)]] := by unfold rrV fv; rw [he]; rfl
        rw [hv] at D
        have HF2 := hide hF
        clear hF HF he hv
        generalize (rr (ch t) i).1 = x at *
        generalize (rr (ch t) i).2.1 = y at *
        generalize (rr (ch t) i).2.2.1 = m at *
        generalize (rr (ch t) i).2.2.2.2 = z at *
        go_wp2_with fail
        refine (unhide D _).mono ?_
        rintro e w1 ⟨rfl, hb1⟩
        have k0 := row_below hg0 hb1
        have k1 := row_below hg1 hb1
        have k2 := row_below hg2 hb1
        have kb := bnext hb hb1
        clear hg0 hg1 hg2 hb hb1
        go_wp2
        have j0 := at_old (o := .cells #[.int .i64 0, .int .i64 (z : Int)] 38) (lt_of_block k0) k0
        have j1 := at_old (o := .cells #[.int .i64 0, .int .i64 (z : Int)] 38) (lt_of_block k1) k1
        have j2 := at_old (o := .cells #[.int .i64 0, .int .i64 (z : Int)] 38) (lt_of_block k2) k2
        have jb := kb.alloc kb.size (.cells #[.int .i64 0, .int .i64 (z : Int)] 38)
        generalize w1.alloc (.cells #[.int .i64 0, .int .i64 (z : Int)] 38) = W1 at *
        clear k0 k1 k2 kb
        go_loopw [11] (fun v wq => ∃ b : Nat, x ≤ b ∧ b ≤ y + 1 ∧ v = .int .i64 b ∧ wq.heap[w.heap.size]? = some (.cells zerosS 24 (0, 0)) ∧ wq.heap[w.heap.size + 1]? = some (.cells #[.int .i64 0, .int .i64 0] 38 (0, 0)) ∧ wq.heap[w.heap.size + 1 + 1]? = some (.cells (sc fun c => p c || (decide (x ≤ c) && decide (c < b))) 24 (0, 0)) ∧ Below w.heap.size w wq) (fun v _ => y + 1 - (intOf v).toNat)
        case atStart => exact ⟨x, Nat.le_refl _, by omega, rfl, j0, j1, by rw [sc_none]; exact j2, jb⟩
        case round =>
          obtain ⟨b, hb1, hb2, rfl, l0, l1, l2, lb⟩ := hrel
          clear j0 j1 j2 jb
          by_cases hby : b ≤ y
          · have h3 : (b : Int) ≤ (y : Int) := by omega
            have E := hide (fun W => with_any (fun c => p c || (decide (x ≤ c) && decide (c < b))) b (by omega) W)
            unfold sv at E
            rw [sc_more p x b hb1] at E
            have qs := sc_size (fun c => p c || (decide (x ≤ c) && decide (c < b)))
            have ds := sc_size (fun c => p c || (decide (x ≤ c) && decide (c < b + 1)))
            have d1 := sc_one (fun c => p c || (decide (x ≤ c) && decide (c < b + 1)))
            have HI := hide (show (Try.prog.info? 24).map (·.size) = some (sc (fun c => p c || (decide (x ≤ c) && decide (c < b)))).size by rw [qs]; exact size_set)
            have HJ := hide (show (Try.prog.info? 24).map (·.size) = some (sc (fun c => p c || (decide (x ≤ c) && decide (c < b + 1)))).size by rw [ds]; exact size_set)
            have hss := qs.trans ds.symm
            generalize sc (fun c => p c || (decide (x ≤ c) && decide (c < b))) = C at *
            obtain ⟨D2, hD2⟩ : ∃ D2, D2 = sc (fun c => p c || (decide (x ≤ c) && decide (c < b + 1))) := ⟨_, rfl⟩
            rw [← hD2] at E ds d1 HJ hss
            have HD2 := hide hD2
            clear hD2
            go_wp2_with (first
              | (refine wpList_load_row rfl 24 _ rfl (w.heap.size + 1 + 1) rfl 24 C (0, 0) _ l2 Try.underlying24 rfl (unhide HI) ?_)
              | (go_at_call 28; refine (unhide E _).mono ?_; rintro e w2 ⟨rfl, hw2⟩; have m2 := row_below l2 hw2)
              | (refine wpList_store_row rfl 24 _ _ rfl (w.heap.size + 1 + 1) D2 rfl rfl 24 C m2 (unhide HJ) hss d1 ?_))
            go_roundw
            case rel => exact ⟨b + 1, by omega, by omega, by go_num, (setRow_other _ _ _ _ (by omega)).trans (row_below l0 hw2), (setRow_other _ _ _ _ (by omega)).trans (row_below l1 hw2), by rw [← unhide HD2]; exact setRow_heap _ _ _ _ _ _ m2, below_setRow (bnext lb hw2) _ (by omega) _⟩
            case measure => simp [intOf]; omega
          · obtain rfl : b = y + 1 := by omega
            rw [sc_upto p x y] at l2
            have h3 : ¬ ((y + 1 : Nat) : Int) ≤ (y : Int) := by omega
            have LL := hide (And.intro l0 (And.intro l1 (And.intro l2 lb)))
            clear l0 l1 l2 lb
            go_wp2
            go_roundw
            case rel => exact ⟨m, f, _, r2, rfl, (unhide LL).1, (unhide LL).2.1, (unhide LL).2.2.1, (unhide LL).2.2.2, HF2, by omega⟩
            case measure => simp [intOf]; omega
      · rw [if_pos (by omega)] at hF
        have he2 := rr_err (ch t) i
        have hv : rrV (rr (ch t) i) = .tuple #[.int .u8 ((rr (ch t) i).1 : Int), .int .u8 ((rr (ch t) i).2.1 : Int), .int .i64 ((rr (ch t) i).2.2.1 : Int), .agg #[.int .i64 ((rr (ch t) i).2.2.2.1 : Int), .int .i64 ((rr (ch t) i).2.2.2.2 : Int)]] := rfl
        rw [hv] at D
        generalize (rr (ch t) i).1 = x at *
        generalize (rr (ch t) i).2.1 = y at *
        generalize (rr (ch t) i).2.2.1 = m at *
        generalize (rr (ch t) i).2.2.2.1 = ee at *
        generalize (rr (ch t) i).2.2.2.2 = z at *
        have HE : Hid (R = (ee, z, fun _ => false)) := by
          show R = _
          rw [unhide HR, ← hF]
          rw [if_pos he]
        have hne : ((ee : Int) != 0) = true := by rw [bne_iff_ne]; omega
        clear hF HF hv he he2 hf
        go_wp2_with fail
        refine (unhide D _).mono ?_
        rintro e w1 ⟨rfl, hb1⟩
        have k0 := row_below hg0 hb1
        have k1 := row_below hg1 hb1
        have kb := bnext hb hb1
        clear hg0 hg1 hg2 hb hb1
        go_wp2
        have j0 := at_old (o := .cells #[.int .i64 (ee : Int), .int .i64 (z : Int)] 38) (lt_of_block k0) k0
        have j1 := at_old (o := .cells #[.int .i64 (ee : Int), .int .i64 (z : Int)] 38) (lt_of_block k1) k1
        have j2 : (w1.alloc (.cells #[.int .i64 (ee : Int), .int .i64 (z : Int)] 38)).heap[w1.heap.size]? = some (.cells #[.int .i64 (ee : Int), .int .i64 (z : Int)] 38 (0, 0)) := at_new rfl
        have jb := kb.alloc kb.size (.cells #[.int .i64 (ee : Int), .int .i64 (z : Int)] 38)
        have hM := lt_of_block k1
        generalize w1.alloc (.cells #[.int .i64 (ee : Int), .int .i64 (z : Int)] 38) = W at *
        clear k0 k1 kb hne
        have c0 : W.cell? ⟨w.heap.size, 0, none⟩ = some (.int .u64 0) := (cell_of_row _ _ 0 _ _ _ j0).trans rfl
        have c1 : W.cell? ⟨w.heap.size, 1, none⟩ = some (.int .u64 0) := (cell_of_row _ _ 1 _ _ _ j0).trans rfl
        have c2 : W.cell? ⟨w.heap.size, 2, none⟩ = some (.int .u64 0) := (cell_of_row _ _ 2 _ _ _ j0).trans rfl
        have c3 : W.cell? ⟨w.heap.size, 3, none⟩ = some (.int .u64 0) := (cell_of_row _ _ 3 _ _ _ j0).trans rfl
        have z0 := frozen_of_row _ _ 0 _ _ j0
        have z1 := frozen_of_row _ _ 1 _ _ j0
        have z2 := frozen_of_row _ _ 2 _ _ j0
        have z3 := frozen_of_row _ _ 3 _ _ j0
        have d0 : W.cell? ⟨w.heap.size + 1, 0, none⟩ = some (.int .i64 0) := (cell_of_row _ _ 0 _ _ _ j1).trans rfl
        have d1 : W.cell? ⟨w.heap.size + 1, 1, none⟩ = some (.int .i64 0) := (cell_of_row _ _ 1 _ _ _ j1).trans rfl
        have y0 := frozen_of_row _ _ 0 _ _ j1
        have y1 := frozen_of_row _ _ 1 _ _ j1
        have e0 : W.cell? ⟨w1.heap.size, 0, none⟩ = some (.int .i64 (ee : Int)) := (cell_of_row _ _ 0 _ _ _ j2).trans rfl
        have e1 : W.cell? ⟨w1.heap.size, 1, none⟩ = some (.int .i64 (z : Int)) := (cell_of_row _ _ 1 _ _ _ j2).trans rfl
        generalize w1.heap.size = M at *
        have n0 : ¬ M = w.heap.size := by omega
        have n1 : ¬ M = w.heap.size + 1 := by omega
        have n2 : ¬ w.heap.size = M := by omega
        have n3 : ¬ w.heap.size + 1 = M := by omega
        have J := hide (And.intro j0 (And.intro j1 jb))
        clear j0 j1 j2 jb
        go_region_held3 (fun w' => w'.cell? ⟨M, 0, none⟩ = some (.int .i64 (ee : Int)) ∧ w'.cell? ⟨M, 1, none⟩ = some (.int .i64 (z : Int))) (go_keep) (fail)
        go_wp2
        obtain ⟨q0, q1⟩ := six_back (.int .i64 (ee : Int)) (.int .i64 (z : Int)) (unhide J).1 (unhide J).2.1
        refine bodyPost_ret (results_two results_read _ _ w.heap.size (w.heap.size + 1) zerosS #[.int .i64 (ee : Int), .int .i64 (z : Int)] rfl rfl q0 q1 rfl rfl) rfl ⟨?_, ((((((((unhide J).2.2.setCell (Nat.le_refl _) _).setCell (Nat.le_refl _) _).setCell (Nat.le_refl _) _).setCell (Nat.le_refl _) _).setCell (Nat.le_succ _) _).setCell (Nat.le_succ _) _)).drew⟩
        rw [unhide HE]
        unfold readV sv
        rw [← unhide HZ]
        rfl
    · obtain rfl : i = t.size := by omega
      have hF := unhide HF
      rw [rd_end] at hF
      have HE : Hid (R = (0, 0, fun x => !p x)) := by
        show R = _
        rw [unhide HR, ← hF]
        rw [if_neg (by simp)]
      clear hF HF C1 hf
      have qs := sc_size p
      have HI := hide (show (Try.prog.info? 24).map (·.size) = some (sc p).size by rw [qs]; exact size_set)
      have HFI := hide info_fc
      have E := hide (fun W => not_any p W)
      unfold sv at E
      have ds := sc_size (fun x => !p x)
      have d1 := sc_one (fun x => !p x)
      have HJ := hide (show (Try.prog.info? 24).map (·.size) = some (sc (fun x => !p x)).size by rw [ds]; exact size_set)
      have hss := qs.trans ds.symm
      generalize sc p = C at *
      obtain ⟨D2, hD2⟩ : ∃ D2, D2 = sc (fun x => !p x) := ⟨_, rfl⟩
      rw [← hD2] at E ds d1 HJ hss
      have HD2 := hide hD2
      clear hD2
      have hzs : zerosS.size = D2.size := ds.symm
      go_wp2_with (first
        | (refine wpList_load_row rfl 24 _ rfl (w.heap.size + 1 + 1) rfl 24 C (0, 0) _ hg2 Try.underlying24 rfl (unhide HI) ?_)
        | (go_at_call 21; refine (unhide E _).mono ?_; rintro e w2 ⟨rfl, hw2⟩; have m2 := row_below hg2 hw2; have m3 := setRow_heap w2 (w.heap.size + 1 + 1) C D2 _ _ m2; have m0 := (setRow_other w2 (w.heap.size + 1 + 1) w.heap.size D2 (by omega)).trans (row_below hg0 hw2); have m1 := (setRow_other w2 (w.heap.size + 1 + 1) (w.heap.size + 1) D2 (by omega)).trans (row_below hg1 hw2); have m4 := (setRow_other _ w.heap.size (w.heap.size + 1) D2 (by omega)).trans m1)
        | (refine wpList_store_row rfl 24 _ _ rfl (w.heap.size + 1 + 1) D2 rfl rfl 24 C m2 (unhide HJ) hss d1 ?_)
        | (refine wpList_load_row rfl 24 _ rfl (w.heap.size + 1 + 1) rfl 24 D2 (0, 0) _ m3 Try.underlying24 rfl (unhide HJ) ?_)
        | (refine wpList_store_row rfl 24 _ _ rfl w.heap.size D2 rfl rfl 24 zerosS m0 (unhide HJ) hzs d1 ?_)
        | (refine wpList_store_row rfl 38 _ _ rfl (w.heap.size + 1) #[.int .i64 0, .int .i64 0] rfl rfl 38 #[.int .i64 0, .int .i64 0] m4 (unhide HFI) rfl (fc_one 0 0) ?_))
      (try simp only [Exit.inBlock, Exit.then])
      refine bodyPost_ret (results_two results_read _ _ w.heap.size (w.heap.size + 1) D2 #[.int .i64 0, .int .i64 0] rfl rfl ((setRow_other _ (w.heap.size + 1) w.heap.size _ (by omega)).trans (setRow_heap _ w.heap.size _ D2 _ _ m0)) (setRow_heap _ (w.heap.size + 1) _ _ _ _ m4) ds rfl) rfl ⟨?_, below_setRow (below_setRow (below_setRow (bnext hb hw2) _ (by omega) _) _ (Nat.le_refl _) _) _ (by omega) _⟩
      rw [unhide HE]
      unfold readV sv
      rw [← unhide HD2]
      rfl

set_option maxHeartbeats 1000000 in
theorem read_these (t : ByteArray) (w : World) (ht : t.size ≤ 65536) (h94 : ¬ ch t 0 = 94) :
    Calls Try.prog 25 #[.string t] w fun e w' => e = .returned (readV (readSaid t)) ∧ Below w.heap.size w w' := by
  have C0 := hide (fun W => prefix_any t W ht)
  have C1 := hide (fun i hi W => readRun_any t i W ht hi)
  obtain ⟨R, hR⟩ : ∃ R, R = readSaid t := ⟨_, rfl⟩
  rw [← hR]
  obtain ⟨R0, hR0⟩ : ∃ R0, R0 = readIn t := ⟨_, rfl⟩
  have HR : Hid (R = if R0.1 ≠ 0 then (R0.1, R0.2.1, fun _ => false) else (0, 0, R0.2.2)) := by
    show R = _
    rw [hR]
    unfold readSaid
    rw [if_neg (by omega), if_neg h94, hR0]
  have HR0 : Hid (rd (ch t) t.size t.size 0 (fun _ => false) = R0) := by
    show _ = R0
    rw [hR0]
    unfold readIn
    rw [if_neg h94]
  clear hR hR0
  rw [decide_eq_false h94] at C0
  have hle : 0 ≤ t.size := Nat.zero_le _
  have HL := hide hle
  have HZ := hide zerosS_eq
  clear hle h94
  go_enter Try.func25, Try.ntmps25
  go_wp2_with fail
  refine (unhide C0 _).mono ?_
  rintro e w1 ⟨rfl, rfl⟩
  go_wp2
  go_loopw [5] (fun a wr => ∃ (i f : Nat) (p : Nat → Bool), i ≤ t.size ∧ a = .int .i64 i ∧ wr.heap[w.heap.size]? = some (.cells zerosS 24 (0, 0)) ∧ wr.heap[w.heap.size + 1]? = some (.cells #[.int .i64 0, .int .i64 0] 38 (0, 0)) ∧ wr.heap[w.heap.size + 1 + 1]? = some (.cells (sc p) 24 (0, 0)) ∧ Below w.heap.size w wr ∧ Hid (rd (ch t) t.size f i p = R0) ∧ t.size ≤ f + i) (fun a _ => t.size - (intOf a).toNat)
  case atStart =>
    refine ⟨0, t.size, fun _ => false, unhide HL, rfl, at_old (by simp only [World.size_alloc]; omega) (at_old (by simp only [World.size_alloc]; omega) (at_new rfl)), at_old (by simp only [World.size_alloc]; omega) (at_new (by simp only [World.size_alloc])), ?_, (((Below.refl _ _).alloc (Nat.le_refl _) _).alloc (by simp only [World.size_alloc]; omega) _).alloc (by simp only [World.size_alloc]; omega) _, HR0, by omega⟩
    rw [← unhide HZ]
    exact at_new (by simp only [World.size_alloc])
  case round =>
    obtain ⟨i, f, p, hi, rfl, hg0, hg1, hg2, hb, HF, hf⟩ := hrel
    by_cases hlt : i < t.size
    · have h1 : (i : Int) < (t.size : Int) := by omega
      obtain ⟨f, rfl⟩ : ∃ g, f = g + 1 := ⟨f - 1, by omega⟩
      have D := hide (unhide C1 i hi)
      have hF := unhide HF
      unfold rd at hF
      rw [if_pos hlt] at hF
      by_cases he : (rr (ch t) i).2.2.2.1 = 0
      · rw [if_neg (by omega)] at hF
        obtain ⟨r1, r2, r3, r4⟩ := rr_ok t i hi he
        have hv : rrV (rr (ch t) i) = .tuple #[.int .u8 ((rr (ch t) i).1 : Int), .int .u8 ((rr (ch t) i).2.1 : Int), .int .i64 ((rr (ch t) i).2.2.1 : Int), .agg #[.int .i64 0, .int .i64 ((rr (ch t) i).2.2.2.2 : Int)]] := by unfold rrV fv; rw [he]; rfl
        rw [hv] at D
        have HF2 := hide hF
        clear hF HF he hv
        generalize (rr (ch t) i).1 = x at *
        generalize (rr (ch t) i).2.1 = y at *
        generalize (rr (ch t) i).2.2.1 = m at *
        generalize (rr (ch t) i).2.2.2.2 = z at *
        go_wp2_with fail
        refine (unhide D _).mono ?_
        rintro e w1 ⟨rfl, hb1⟩
        have k0 := row_below hg0 hb1
        have k1 := row_below hg1 hb1
        have k2 := row_below hg2 hb1
        have kb := bnext hb hb1
        clear hg0 hg1 hg2 hb hb1
        go_wp2
        have j0 := at_old (o := .cells #[.int .i64 0, .int .i64 (z : Int)] 38) (lt_of_block k0) k0
        have j1 := at_old (o := .cells #[.int .i64 0, .int .i64 (z : Int)] 38) (lt_of_block k1) k1
        have j2 := at_old (o := .cells #[.int .i64 0, .int .i64 (z : Int)] 38) (lt_of_block k2) k2
        have jb := kb.alloc kb.size (.cells #[.int .i64 0, .int .i64 (z : Int)] 38)
        generalize w1.alloc (.cells #[.int .i64 0, .int .i64 (z : Int)] 38) = W1 at *
        clear k0 k1 k2 kb
        go_loopw [11] (fun v wq => ∃ b : Nat, x ≤ b ∧ b ≤ y + 1 ∧ v = .int .i64 b ∧ wq.heap[w.heap.size]? = some (.cells zerosS 24 (0, 0)) ∧ wq.heap[w.heap.size + 1]? = some (.cells #[.int .i64 0, .int .i64 0] 38 (0, 0)) ∧ wq.heap[w.heap.size + 1 + 1]? = some (.cells (sc fun c => p c || (decide (x ≤ c) && decide (c < b))) 24 (0, 0)) ∧ Below w.heap.size w wq) (fun v _ => y + 1 - (intOf v).toNat)
        case atStart => exact ⟨x, Nat.le_refl _, by omega, rfl, j0, j1, by rw [sc_none]; exact j2, jb⟩
        case round =>
          obtain ⟨b, hb1, hb2, rfl, l0, l1, l2, lb⟩ := hrel
          clear j0 j1 j2 jb
          by_cases hby : b ≤ y
          · have h3 : (b : Int) ≤ (y : Int) := by omega
            have E := hide (fun W => with_any (fun c => p c || (decide (x ≤ c) && decide (c < b))) b (by omega) W)
            unfold sv at E
            rw [sc_more p x b hb1] at E
            have qs := sc_size (fun c => p c || (decide (x ≤ c) && decide (c < b)))
            have ds := sc_size (fun c => p c || (decide (x ≤ c) && decide (c < b + 1)))
            have d1 := sc_one (fun c => p c || (decide (x ≤ c) && decide (c < b + 1)))
            have HI := hide (show (Try.prog.info? 24).map (·.size) = some (sc (fun c => p c || (decide (x ≤ c) && decide (c < b)))).size by rw [qs]; exact size_set)
            have HJ := hide (show (Try.prog.info? 24).map (·.size) = some (sc (fun c => p c || (decide (x ≤ c) && decide (c < b + 1)))).size by rw [ds]; exact size_set)
            have hss := qs.trans ds.symm
            generalize sc (fun c => p c || (decide (x ≤ c) && decide (c < b))) = C at *
            obtain ⟨D2, hD2⟩ : ∃ D2, D2 = sc (fun c => p c || (decide (x ≤ c) && decide (c < b + 1))) := ⟨_, rfl⟩
            rw [← hD2] at E ds d1 HJ hss
            have HD2 := hide hD2
            clear hD2
            go_wp2_with (first
              | (refine wpList_load_row rfl 24 _ rfl (w.heap.size + 1 + 1) rfl 24 C (0, 0) _ l2 Try.underlying24 rfl (unhide HI) ?_)
              | (go_at_call 28; refine (unhide E _).mono ?_; rintro e w2 ⟨rfl, hw2⟩; have m2 := row_below l2 hw2)
              | (refine wpList_store_row rfl 24 _ _ rfl (w.heap.size + 1 + 1) D2 rfl rfl 24 C m2 (unhide HJ) hss d1 ?_))
            go_roundw
            case rel => exact ⟨b + 1, by omega, by omega, by go_num, (setRow_other _ _ _ _ (by omega)).trans (row_below l0 hw2), (setRow_other _ _ _ _ (by omega)).trans (row_below l1 hw2), by rw [← unhide HD2]; exact setRow_heap _ _ _ _ _ _ m2, below_setRow (bnext lb hw2) _ (by omega) _⟩
            case measure => simp [intOf]; omega
          · obtain rfl : b = y + 1 := by omega
            rw [sc_upto p x y] at l2
            have h3 : ¬ ((y + 1 : Nat) : Int) ≤ (y : Int) := by omega
            have LL := hide (And.intro l0 (And.intro l1 (And.intro l2 lb)))
            clear l0 l1 l2 lb
            go_wp2
            go_roundw
            case rel => exact ⟨m, f, _, r2, rfl, (unhide LL).1, (unhide LL).2.1, (unhide LL).2.2.1, (unhide LL).2.2.2, HF2, by omega⟩
            case measure => simp [intOf]; omega
      · rw [if_pos (by omega)] at hF
        have he2 := rr_err (ch t) i
        have hv : rrV (rr (ch t) i) = .tuple #[.int .u8 ((rr (ch t) i).1 : Int), .int .u8 ((rr (ch t) i).2.1 : Int), .int .i64 ((rr (ch t) i).2.2.1 : Int), .agg #[.int .i64 ((rr (ch t) i).2.2.2.1 : Int), .int .i64 ((rr (ch t) i).2.2.2.2 : Int)]] := rfl
        rw [hv] at D
        generalize (rr (ch t) i).1 = x at *
        generalize (rr (ch t) i).2.1 = y at *
        generalize (rr (ch t) i).2.2.1 = m at *
        generalize (rr (ch t) i).2.2.2.1 = ee at *
        generalize (rr (ch t) i).2.2.2.2 = z at *
        have HE : Hid (R = (ee, z, fun _ => false)) := by
          show R = _
          rw [unhide HR, ← hF]
          rw [if_pos he]
        have hne : ((ee : Int) != 0) = true := by rw [bne_iff_ne]; omega
        clear hF HF hv he he2 hf
        go_wp2_with fail
        refine (unhide D _).mono ?_
        rintro e w1 ⟨rfl, hb1⟩
        have k0 := row_below hg0 hb1
        have k1 := row_below hg1 hb1
        have kb := bnext hb hb1
        clear hg0 hg1 hg2 hb hb1
        go_wp2
        have j0 := at_old (o := .cells #[.int .i64 (ee : Int), .int .i64 (z : Int)] 38) (lt_of_block k0) k0
        have j1 := at_old (o := .cells #[.int .i64 (ee : Int), .int .i64 (z : Int)] 38) (lt_of_block k1) k1
        have j2 : (w1.alloc (.cells #[.int .i64 (ee : Int), .int .i64 (z : Int)] 38)).heap[w1.heap.size]? = some (.cells #[.int .i64 (ee : Int), .int .i64 (z : Int)] 38 (0, 0)) := at_new rfl
        have jb := kb.alloc kb.size (.cells #[.int .i64 (ee : Int), .int .i64 (z : Int)] 38)
        have hM := lt_of_block k1
        generalize w1.alloc (.cells #[.int .i64 (ee : Int), .int .i64 (z : Int)] 38) = W at *
        clear k0 k1 kb hne
        have c0 : W.cell? ⟨w.heap.size, 0, none⟩ = some (.int .u64 0) := (cell_of_row _ _ 0 _ _ _ j0).trans rfl
        have c1 : W.cell? ⟨w.heap.size, 1, none⟩ = some (.int .u64 0) := (cell_of_row _ _ 1 _ _ _ j0).trans rfl
        have c2 : W.cell? ⟨w.heap.size, 2, none⟩ = some (.int .u64 0) := (cell_of_row _ _ 2 _ _ _ j0).trans rfl
        have c3 : W.cell? ⟨w.heap.size, 3, none⟩ = some (.int .u64 0) := (cell_of_row _ _ 3 _ _ _ j0).trans rfl
        have z0 := frozen_of_row _ _ 0 _ _ j0
        have z1 := frozen_of_row _ _ 1 _ _ j0
        have z2 := frozen_of_row _ _ 2 _ _ j0
        have z3 := frozen_of_row _ _ 3 _ _ j0
        have d0 : W.cell? ⟨w.heap.size + 1, 0, none⟩ = some (.int .i64 0) := (cell_of_row _ _ 0 _ _ _ j1).trans rfl
        have d1 : W.cell? ⟨w.heap.size + 1, 1, none⟩ = some (.int .i64 0) := (cell_of_row _ _ 1 _ _ _ j1).trans rfl
        have y0 := frozen_of_row _ _ 0 _ _ j1
        have y1 := frozen_of_row _ _ 1 _ _ j1
        have e0 : W.cell? ⟨w1.heap.size, 0, none⟩ = some (.int .i64 (ee : Int)) := (cell_of_row _ _ 0 _ _ _ j2).trans rfl
        have e1 : W.cell? ⟨w1.heap.size, 1, none⟩ = some (.int .i64 (z : Int)) := (cell_of_row _ _ 1 _ _ _ j2).trans rfl
        generalize w1.heap.size = M at *
        have n0 : ¬ M = w.heap.size := by omega
        have n1 : ¬ M = w.heap.size + 1 := by omega
        have n2 : ¬ w.heap.size = M := by omega
        have n3 : ¬ w.heap.size + 1 = M := by omega
        have J := hide (And.intro j0 (And.intro j1 jb))
        clear j0 j1 j2 jb
        go_region_held3 (fun w' => w'.cell? ⟨M, 0, none⟩ = some (.int .i64 (ee : Int)) ∧ w'.cell? ⟨M, 1, none⟩ = some (.int .i64 (z : Int))) (go_keep) (fail)
        go_wp2
        obtain ⟨q0, q1⟩ := six_back (.int .i64 (ee : Int)) (.int .i64 (z : Int)) (unhide J).1 (unhide J).2.1
        refine bodyPost_ret (results_two results_read _ _ w.heap.size (w.heap.size + 1) zerosS #[.int .i64 (ee : Int), .int .i64 (z : Int)] rfl rfl q0 q1 rfl rfl) rfl ⟨?_, ((((((((unhide J).2.2.setCell (Nat.le_refl _) _).setCell (Nat.le_refl _) _).setCell (Nat.le_refl _) _).setCell (Nat.le_refl _) _).setCell (Nat.le_succ _) _).setCell (Nat.le_succ _) _)).drew⟩
        rw [unhide HE]
        unfold readV sv
        rw [← unhide HZ]
        rfl
    · obtain rfl : i = t.size := by omega
      have hF := unhide HF
      rw [rd_end] at hF
      have HE : Hid (R = (0, 0, p)) := by
        show R = _
        rw [unhide HR, ← hF]
        rw [if_neg (by simp)]
      clear hF HF C1 hf
      have qs := sc_size p
      have HI := hide (show (Try.prog.info? 24).map (·.size) = some (sc p).size by rw [qs]; exact size_set)
      have HFI := hide info_fc
      have d1 := sc_one p
      have hzs : zerosS.size = (sc p).size := qs.symm
      obtain ⟨D2, hD2⟩ : ∃ D2, D2 = sc p := ⟨_, rfl⟩
      rw [← hD2] at hg2 qs d1 HI hzs
      have HD2 := hide hD2
      clear hD2
      have m4 := (setRow_other _ w.heap.size (w.heap.size + 1) D2 (by omega)).trans hg1
      go_wp2_with (first
        | (refine wpList_load_row rfl 24 _ rfl (w.heap.size + 1 + 1) rfl 24 D2 (0, 0) _ hg2 Try.underlying24 rfl (unhide HI) ?_)
        | (refine wpList_store_row rfl 24 _ _ rfl w.heap.size D2 rfl rfl 24 zerosS hg0 (unhide HI) hzs d1 ?_)
        | (refine wpList_store_row rfl 38 _ _ rfl (w.heap.size + 1) #[.int .i64 0, .int .i64 0] rfl rfl 38 #[.int .i64 0, .int .i64 0] m4 (unhide HFI) rfl (fc_one 0 0) ?_))
      (try simp only [Exit.inBlock, Exit.then])
      refine bodyPost_ret (results_two results_read _ _ w.heap.size (w.heap.size + 1) D2 #[.int .i64 0, .int .i64 0] rfl rfl ((setRow_other _ (w.heap.size + 1) w.heap.size _ (by omega)).trans (setRow_heap _ w.heap.size _ D2 _ _ hg0)) (setRow_heap _ (w.heap.size + 1) _ _ _ _ m4) qs rfl) rfl ⟨?_, below_setRow (below_setRow hb _ (Nat.le_refl _) _) _ (by omega) _⟩
      rw [unhide HE]
      unfold readV sv
      rw [← unhide HD2]
      rfl

theorem read_any (t : ByteArray) (w : World) (hm : t.size ≤ maxLen) :
    Calls Try.prog 25 #[.string t] w fun e w' => e = .returned (readV (readSaid t)) ∧ Below w.heap.size w w' := by
  by_cases ht : 65536 < t.size
  · have e : readSaid t = (4, 0, fun _ => false) := by unfold readSaid; rw [if_pos ht]
    rw [e]
    exact read_much t w hm ht
  · by_cases h : ch t 0 = 94
    · exact read_others t w (by omega) h
    · exact read_these t w (by omega) h
end Go.Proofs.Ytgamnhmkimonnaa
