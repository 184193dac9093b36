/- What the document's Names does. -/
import Derived.Test.YtffapdilojbagaaDoorNames4
import Derived.Test.YtffapdilojbagaaDoorRefPut4
import Derived.Test.YtffapdilojbagaaDoorRefWrong4
namespace Go.Proofs.YtffapdilojbagaaDoor
open Go.RowKit

theorem namesOf_snoc (xs : List ByteArray) (s : ByteArray) : namesOf (xs ++ [s]) = putS s (namesOf xs) := by
  unfold namesOf putS putAll
  rw [List.map_append, List.foldl_append, List.map_map]
  have : bytesL ∘ mkB = id := rfl
  rw [this, List.map_id]
  rfl
theorem namesOf_len (xs : List ByteArray) : (namesOf xs).length ≤ xs.length := by
  unfold namesOf
  rw [List.length_map]
  have := putAll_len (xs.map bytesL) []
  simpa using this
/-- What has been put after so many nodes. -/
def givUp (T : PT) (k : Nat) : List ByteArray := (T.all.take k).flatMap givN
def calUp (T : PT) (k : Nat) : List ByteArray := (T.all.take k).flatMap calN
theorem givUp_step (T : PT) (k : Nat) (hk : k < T.all.length) : givUp T (k + 1) = givUp T k ++ givN T.all[k] ∧ calUp T (k + 1) = calUp T k ++ calN T.all[k] := by
  unfold givUp calUp
  rw [List.take_succ_eq_append_getElem hk, List.flatMap_append, List.flatMap_append]
  exact ⟨by simp, by simp⟩
theorem givUp_len (T : PT) (k : Nat) : (givUp T k).length ≤ T.cnt ∧ (calUp T k).length ≤ T.cnt := by
  have h1 : ∀ l : List PT, (l.flatMap givN).length ≤ l.length ∧ (l.flatMap calN).length ≤ l.length := by
    intro l
    induction l with
    | nil => simp
    | cons x l ih =>
      have g1 : (givN x).length ≤ 1 := by unfold givN; split <;> simp
      have g2 : (calN x).length ≤ 1 := by unfold calN; split <;> simp
      rw [List.flatMap_cons, List.flatMap_cons, List.length_append, List.length_append, List.length_cons]
      omega
  have := h1 (T.all.take k)
  have h2 := T.all_length
  have h3 : (T.all.take k).length ≤ T.all.length := by rw [List.length_take]; omega
  unfold givUp calUp
  omega
structure NMid (T : PT) (w : World) (B g cap k : Nat) (v u : Value) (wr : World) : Prop where
  row : wr.ownsRow B 24 5 (.slice (some ⟨g, 0, none⟩) T.cnt cap) T.cnt (acells T.all)
  giv : Own wr B v (namesOf (givUp T k))
  cal : Own wr B u (namesOf (calUp T k))
  vn : (namesOf (givUp T k)).length = 0 → v = .slice none 0 0
  un : (namesOf (calUp T k)).length = 0 → u = .slice none 0 0
  bel : Below w.heap.size w wr
  low : B ≤ wr.heap.size

set_option maxRecDepth 100000 in
set_option maxHeartbeats 1000000 in
theorem refNames_any (T : PT) (w : World) (hT : T.In w) (hN : T.cnt ≤ 1048576) :
    Calls Tryd.prog 14 #[pv T] w fun e w' => NamesRes T w e w' := by
  have HW := hide (fun W (h : Below w.heap.size w W) => refWrong_any T W (PT.In.later h hT) hN)
  have HA := hide (fun W (h : Below w.heap.size w W) => all_any T W (PT.In.later h hT) hN)
  clear hT
  unfold pv at HW
  unfold pv
  have hk0 := (Below.refl w.heap.size w).alloc (Nat.le_refl _) (.cells #[.int .i64 T.k, .string T.t, .int .i64 T.n, .string T.nm, .slice T.xa T.len T.cap] 24)
  go_enter Tryd.func14, Tryd.ntmps14
  go_wp2_with fail
  refine (unhide HW _ hk0).mono ?_
  rintro e w1 ⟨rfl, hb1⟩
  have H1 := hide (bnext hk0 hb1)
  obtain ⟨c0, c1, c2, c3, c4⟩ := cells5 (row_below (at_new rfl) hb1)
  clear hk0 hb1 HW
  by_cases hz : T.wrong = 0
  · have HZ := hide hz
    have HC := hide (wrong_zero hz)
    rw [hz]
    clear hz
    go_wp2_with fail
    refine (unhide HA _ (unhide H1)).mono ?_
    rintro e w2 ⟨v, rfl, ho, hb2⟩
    obtain ⟨g, cap, rfl, hg1, hg2⟩ := ho.form T.cnt_pos
    have HM0 := hide (show NMid T w w1.heap.size g cap 0 (.slice none 0 0) (.slice none 0 0) w2 from ⟨ho, own_nil _ _, own_nil _ _, fun _ => rfl, fun _ => rfl, bnext (unhide H1) hb2, hb2.size⟩)
    have HL := hide T.all_length
    have h4 : T.cnt ≤ 4096 := (unhide HC).2
    clear ho hb2 hg1 hg2 c0 c1 c2 c3 c4
    go_wp2_with fail
    go_loopw [6, 7, 18] (fun v u i wr => ∃ k : Nat, k ≤ T.cnt ∧ i = .int .i64 (k : Int) ∧ NMid T w w1.heap.size g cap k v u wr) (fun _ _ i _ => T.cnt - (intOf i).toNat)
    case atStart => exact ⟨0, by omega, rfl, unhide HM0⟩
    case round =>
      obtain ⟨k, hk, rfl, hm⟩ := hrel
      rcases Nat.lt_or_ge k T.cnt with hkt | hkt
      · have hkl : k < T.all.length := by rw [unhide HL]; exact hkt
        obtain ⟨k0, k1, k2, k3, k4⟩ := own_at (L := T.all) (by rw [unhide HL]; exact hm.row) k hkl
        have hia := entry_at g T.cnt cap k hkt
        have HST := hide (givUp_step T k hkl)
        have HM := hide hm
        clear hm
        generalize T.all[k] = X at *
        have hn := (Below.refl wr.heap.size wr).alloc (Nat.le_refl _) (.cells #[.int .i64 X.k, .string X.t, .int .i64 X.n, .string X.nm, .slice X.xa X.len X.cap] 24)
        have hn2 := hn.alloc (by simp) (.cells #[.int .i64 21, .int .i64 22, .int .i64 23] 3)
        have HH := hide hn2
        clear hn hn2
        have HRX := hide (show ((wr.alloc (.cells #[.int .i64 X.k, .string X.t, .int .i64 X.n, .string X.nm, .slice X.xa X.len X.cap] 24)).alloc (.cells #[.int .i64 21, .int .i64 22, .int .i64 23] 3)).heap[wr.heap.size]? = some (.cells #[.int .i64 X.k, .string X.t, .int .i64 X.n, .string X.nm, .slice X.xa X.len X.cap] 24 (0, 0)) from at_old (by simp) (at_new rfl))
        have hX : (21 ≤ X.k ∧ X.k ≤ 23) ∨ X.k = 24 ∨ (X.k < 21 ∨ 24 < X.k) := by omega
        rcases hX with hX | hX | hX
        · have HIG := hide (show isGiven X.k = true by unfold isGiven; simp; omega)
          have e24 : (X.k == 24) = false := by rw [beq_eq_false_iff_ne]; omega
          have HGN := hide (show givN X = [X.nm] by unfold givN; rw [if_pos (by omega)])
          have HCN := hide (show calN X = [] by unfold calN; rw [if_neg (by omega)])
          clear hX
          go_wp2_with (first | (go_at_call 31; refine (in_isGiven X.k _ _ (at_new (by simp))).mono ?_; rintro e w3 ⟨rfl, hw3⟩; rw [unhide HIG]; have HW3 := hide hw3; clear hw3; rw [← unhide HW3] at HH HRX; (obtain ⟨c0, c1, c2, c3, c4⟩ := cells5 (unhide HRX))) | (go_at_call 32; refine (put_any w1.heap.size _ _ X.nm _ (own_below (unhide HM).giv (unhide HH)) (by have := (givUp_len T k).1; have := namesOf_len (givUp T k); omega) (Nat.le_trans (unhide HM).low (unhide HH).size) (unhide HM).vn).mono ?_; rintro e w4 ⟨v4, rfl, ho4, hb4⟩; have HO4 := hide ho4; have HB4 := hide hb4; clear ho4 hb4; (obtain ⟨d0, d1, d2, d3, d4⟩ := cells5 (row_below (unhide HRX) (unhide HB4)))))
          go_roundw
          case rel =>
            have hm := unhide HM
            obtain ⟨sg, sc⟩ := unhide HST
            rw [unhide HGN] at sg
            rw [unhide HCN] at sc
            rw [List.append_nil] at sc
            refine ⟨k + 1, by omega, by go_num, ⟨own_below (own_below hm.row (unhide HH)) (unhide HB4), ?_, ?_, ?_, ?_, bnext (bnext hm.bel (unhide HH)) (unhide HB4), Nat.le_trans (Nat.le_trans hm.low (unhide HH).size) (unhide HB4).size⟩⟩
            · rw [sg, namesOf_snoc]; exact unhide HO4
            · rw [sc]; exact own_below (own_below hm.cal (unhide HH)) (unhide HB4)
            · rw [sg, namesOf_snoc]; intro h; have := putS_pos X.nm (namesOf (givUp T k)); omega
            · rw [sc]; exact hm.un
          case measure => simp [intOf]; omega
        · have HIG := hide (show isGiven X.k = false by unfold isGiven; simp; omega)
          have e24 : (X.k == 24) = true := by rw [beq_iff_eq]; omega
          have HGN := hide (show givN X = [] by unfold givN; rw [if_neg (by omega)])
          have HCN := hide (show calN X = [X.nm] by unfold calN; rw [if_pos (by omega)])
          clear hX
          go_wp2_with (first | (go_at_call 31; refine (in_isGiven X.k _ _ (at_new (by simp))).mono ?_; rintro e w3 ⟨rfl, hw3⟩; rw [unhide HIG]; have HW3 := hide hw3; clear hw3; rw [← unhide HW3] at HH HRX; (obtain ⟨c0, c1, c2, c3, c4⟩ := cells5 (unhide HRX))) | (go_at_call 32; refine (put_any w1.heap.size _ _ X.nm _ (own_below (unhide HM).cal (unhide HH)) (by have := (givUp_len T k).2; have := namesOf_len (calUp T k); omega) (Nat.le_trans (unhide HM).low (unhide HH).size) (unhide HM).un).mono ?_; rintro e w4 ⟨v4, rfl, ho4, hb4⟩; have HO4 := hide ho4; have HB4 := hide hb4; clear ho4 hb4; (obtain ⟨d0, d1, d2, d3, d4⟩ := cells5 (row_below (unhide HRX) (unhide HB4)))))
          go_roundw
          case rel =>
            have hm := unhide HM
            obtain ⟨sg, sc⟩ := unhide HST
            rw [unhide HGN] at sg
            rw [unhide HCN] at sc
            rw [List.append_nil] at sg
            refine ⟨k + 1, by omega, by go_num, ⟨own_below (own_below hm.row (unhide HH)) (unhide HB4), ?_, ?_, ?_, ?_, bnext (bnext hm.bel (unhide HH)) (unhide HB4), Nat.le_trans (Nat.le_trans hm.low (unhide HH).size) (unhide HB4).size⟩⟩
            · rw [sg]; exact own_below (own_below hm.giv (unhide HH)) (unhide HB4)
            · rw [sc, namesOf_snoc]; exact unhide HO4
            · rw [sg]; exact hm.vn
            · rw [sc, namesOf_snoc]; intro h; have := putS_pos X.nm (namesOf (calUp T k)); omega
          case measure => simp [intOf]; omega
        · have HIG := hide (show isGiven X.k = false by unfold isGiven; simp; omega)
          have e24 : (X.k == 24) = false := by rw [beq_eq_false_iff_ne]; omega
          have HGN := hide (show givN X = [] by unfold givN; rw [if_neg (by omega)])
          have HCN := hide (show calN X = [] by unfold calN; rw [if_neg (by omega)])
          clear hX
          go_wp2_with (first | (go_at_call 31; refine (in_isGiven X.k _ _ (at_new (by simp))).mono ?_; rintro e w3 ⟨rfl, hw3⟩; rw [unhide HIG]; have HW3 := hide hw3; clear hw3; rw [← unhide HW3] at HH HRX; (obtain ⟨c0, c1, c2, c3, c4⟩ := cells5 (unhide HRX))))
          go_roundw
          case rel =>
            have hm := unhide HM
            obtain ⟨sg, sc⟩ := unhide HST
            rw [unhide HGN] at sg
            rw [unhide HCN] at sc
            rw [List.append_nil] at sg sc
            refine ⟨k + 1, by omega, by go_num, ⟨own_below hm.row (unhide HH), ?_, ?_, ?_, ?_, bnext hm.bel (unhide HH), Nat.le_trans hm.low (unhide HH).size⟩⟩
            · rw [sg]; exact own_below hm.giv (unhide HH)
            · rw [sc]; exact own_below hm.cal (unhide HH)
            · rw [sg]; exact hm.vn
            · rw [sc]; exact hm.un
          case measure => simp [intOf]; omega
      · have hk' : k = T.cnt := by omega
        have HM := hide hm
        clear hm
        go_wp2_with fail
        go_ret3
        have hm := unhide HM
        have e1 : givUp T k = T.giv := by unfold givUp; rw [hk', ← unhide HL, List.take_length, ← PT.giv_all]
        have e2 : calUp T k = T.cal := by unfold calUp; rw [hk', ← unhide HL, List.take_length, ← PT.cal_all]
        refine ⟨_, _, by rw [unhide HZ]; rfl, ?_, ?_, hm.bel⟩
        · rw [if_pos (unhide HZ), ← e1]; exact StrsAt.of_own hm.giv
        · rw [if_pos (unhide HZ), ← e2]; exact StrsAt.of_own hm.cal
  · have HZ := hide hz
    have hne : (T.wrong != 0) = true := by rw [bne_iff_ne]; exact hz
    clear hz
    go_wp2_with fail
    go_ret3
    exact ⟨_, _, rfl, by rw [if_neg (unhide HZ)]; exact strs_nil _, by rw [if_neg (unhide HZ)]; exact strs_nil _, unhide H1⟩
end Go.Proofs.YtffapdilojbagaaDoor
