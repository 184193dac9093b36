/- What tune makes of sets, of numbers and of two neighbours. -/
import Derived.Test.YtbmngbpillihaaaDoorSimpWalkAM
namespace Go.Proofs.YtbmngbpillihaaaDoor
open Go.RowKit

theorem cnt_tx (p : Nat → Bool) : ∀ n, cnt p n = (tx p n).length
  | 0 => rfl
  | n + 1 => by
    rw [cnt, tx, List.length_append, cnt_tx p n]
    cases p n <;> rfl
def leafO (k n : Int) (t : ByteArray) : Array Value := #[.int .i64 k, .string t, .int .i64 n, .string ⟨#[]⟩, .slice none 0 0]
theorem pv_leaf (k n : Int) (t : ByteArray) : pv (mkP k t n ⟨#[]⟩ []) = .agg (leafO k n t) := rfl
def zeroP : Array Value := leafO 0 0 ⟨#[]⟩
theorem leafO_info (k n : Int) (t : ByteArray) : (Tryd.prog.info? 24).map (·.size) = some (leafO k n t).size := size_pat
theorem leafO_one (k n : Int) (t : ByteArray) : (leafO k n t).all (·.oneCell') = true := by simp [leafO, Value.oneCell']
set_option maxRecDepth 100000 in
set_option maxHeartbeats 1000000 in
theorem literalS (t : ByteArray) (w : World) : Calls Tryd.prog 40 #[.string t] w fun e w' => e = .returned (.agg (leafO 1 0 t)) ∧ Below w.heap.size w w' := by
  unfold leafO
  go_enter Tryd.func40, Tryd.ntmps40
  go_wp2_with fail
  exact bodyPost_ret (results_cell_row rfl _ _ w.heap.size 24 (leafO 1 0 t) (0, 0) _ rfl (at_new rfl) Tryd.underlying24 rfl size_pat) rfl ⟨rfl, (Below.refl _ _).alloc (Nat.le_refl _) _⟩
set_option maxRecDepth 100000 in
set_option maxHeartbeats 1000000 in
theorem anyOf_any (p : Nat → Bool) (w : World) : Calls Tryd.prog 42 #[sv p] w fun e w' => e = .returned (pv (anyP p)) ∧ Below w.heap.size w w' := by
  have HS := hide (fun W => setSize_any p W)
  have HT := hide (fun W => text_any p W)
  have HL := hide (fun W => literalS (txt p) W)
  have e0 : pv (anyP p) = .agg (if (tx p 256).length = 1 then leafO 1 0 (txt p) else leafO 3 0 (txt p)) := by
    unfold anyP
    by_cases h : (tx p 256).length = 1
    · rw [if_pos h, if_pos h]; rfl
    · rw [if_neg h, if_neg h]; rfl
  rw [e0]
  have hc := cnt_tx p 256
  unfold sv at HS HT ⊢
  rw [show (⟨(tx p 256).toArray⟩ : ByteArray) = txt p from rfl] at HT
  rw [hc] at HS
  have hpi : (Tryd.prog.info? 33).map (·.size) = some (sc p).size := by rw [sc_size]; exact size_set
  obtain ⟨P, hP⟩ : ∃ P, P = sc p := ⟨_, rfl⟩
  rw [← hP] at HS HT hpi ⊢
  have HI := hide hpi
  obtain ⟨n, hn⟩ : ∃ n, n = (tx p 256).length := ⟨_, rfl⟩
  rw [← hn] at HS ⊢
  obtain ⟨t, ht⟩ : ∃ t, t = txt p := ⟨_, rfl⟩
  rw [← ht] at HT HL ⊢
  clear hc hpi hP hn ht e0
  by_cases h : n = 1
  · subst h
    rw [if_pos rfl]
    go_enter Tryd.func42, Tryd.ntmps42
    go_wp2_with (first
      | (refine wpList_load_row rfl 33 _ rfl w.heap.size rfl 33 P (0, 0) _ (keepS (at_new rfl)) Tryd.underlying33 rfl (unhide HI) ?_)
      | fail)
    refine (unhide HS _).mono ?_
    rintro e w1 ⟨rfl, hb1⟩
    have g1 : w1.heap[w.heap.size]? = some (.cells P 33 (0, 0)) := row_below (keepS (at_new rfl)) hb1
    have g2 : w1.heap[w.heap.size + 1]? = some (.cells zeroP 24 (0, 0)) := row_below (at_new (by simp)) hb1
    have HB := hide (bnext (((Below.refl w.heap.size w).alloc (Nat.le_refl _) _).alloc (by simp) _) hb1)
    clear hb1
    go_wp2_with (first
      | (refine wpList_load_row rfl 33 _ rfl w.heap.size rfl 33 P (0, 0) _ g1 Tryd.underlying33 rfl (unhide HI) ?_)
      | fail)
    refine (unhide HT _).mono ?_
    rintro e w2 ⟨rfl, hb2⟩
    have g3 := row_below g2 hb2
    have HB2 := hide (bnext (unhide HB) hb2)
    clear hb2 g1 g2
    go_wp2_with fail
    refine (unhide HL _).mono ?_
    rintro e w3 ⟨rfl, hb3⟩
    have g4 := row_below g3 hb3
    have HB3 := hide (bnext (unhide HB2) hb3)
    clear hb3 g3
    go_wp2_with (first
      | (refine wpList_store_row rfl 24 _ _ rfl (w.heap.size + 1) (leafO 1 0 t) rfl rfl 24 zeroP g4 (leafO_info _ _ _) rfl (leafO_one _ _ _) ?_)
      | fail)
    (try simp only [Exit.inBlock, Exit.then])
    exact bodyPost_ret (results_cell_row rfl _ _ (w.heap.size + 1) 24 (leafO 1 0 t) (0, 0) _ rfl (setRow_heap _ _ _ _ _ _ g4) Tryd.underlying24 rfl (leafO_info _ _ _)) rfl ⟨rfl, below_setRow (unhide HB3) _ (by omega) _⟩
  · rw [if_neg h]
    have hb : ((n : Int) == 1) = false := by rw [beq_eq_false_iff_ne]; omega
    go_enter Tryd.func42, Tryd.ntmps42
    go_wp2_with (first
      | (refine wpList_load_row rfl 33 _ rfl w.heap.size rfl 33 P (0, 0) _ (keepS (at_new rfl)) Tryd.underlying33 rfl (unhide HI) ?_)
      | fail)
    refine (unhide HS _).mono ?_
    rintro e w1 ⟨rfl, hb1⟩
    have g1 : w1.heap[w.heap.size]? = some (.cells P 33 (0, 0)) := row_below (keepS (at_new rfl)) hb1
    have g2 : w1.heap[w.heap.size + 1]? = some (.cells zeroP 24 (0, 0)) := row_below (at_new (by simp)) hb1
    have HB := hide (bnext (((Below.refl w.heap.size w).alloc (Nat.le_refl _) _).alloc (by simp) _) hb1)
    clear hb1
    go_wp2_with (first
      | (refine wpList_load_row rfl 33 _ rfl w.heap.size rfl 33 P (0, 0) _ g1 Tryd.underlying33 rfl (unhide HI) ?_)
      | fail)
    refine (unhide HT _).mono ?_
    rintro e w2 ⟨rfl, hb2⟩
    have g3 := row_below g2 hb2
    have HB2 := hide (bnext (unhide HB) hb2)
    clear hb2 g1 g2
    go_wp2_with (first
      | (refine wpList_store_row rfl 24 _ _ rfl (w.heap.size + 1) (leafO 3 0 t) rfl rfl 24 zeroP g3 (leafO_info _ _ _) rfl (leafO_one _ _ _) ?_)
      | fail)
    (try simp only [Exit.inBlock, Exit.then])
    exact bodyPost_ret (results_cell_row rfl _ _ (w.heap.size + 1) 24 (leafO 3 0 t) (0, 0) _ rfl (setRow_heap _ _ _ _ _ _ g3) Tryd.underlying24 rfl (leafO_info _ _ _)) rfl ⟨rfl, below_setRow (unhide HB2) _ (by omega) _⟩
set_option maxRecDepth 100000 in
set_option maxHeartbeats 1000000 in
theorem counted_any (k n : Int) (w : World) : Calls Tryd.prog 45 #[.int .i64 k, .int .i64 n] w fun e w' => e = .returned (pv (cntP k n)) ∧ Below w.heap.size w w' := by
  have HL := hide (fun W => literalS ⟨#[]⟩ W)
  unfold cntP
  by_cases h1 : k = 2 ∧ n = 0
  · rw [if_pos h1, show pv (litP ⟨#[]⟩) = .agg (leafO 1 0 ⟨#[]⟩) from rfl]
    obtain ⟨rfl, rfl⟩ := h1
    go_enter Tryd.func45, Tryd.ntmps45
    go_wp2_with fail
    refine (unhide HL _).mono ?_
    rintro e w1 ⟨rfl, hb1⟩
    have g2 : w1.heap[w.heap.size]? = some (.cells zeroP 24 (0, 0)) := row_below (at_new rfl) hb1
    have HB := hide (bnext ((Below.refl w.heap.size w).alloc (Nat.le_refl _) _) hb1)
    clear hb1
    go_wp2_with (first
      | (refine wpList_store_row rfl 24 _ _ rfl w.heap.size (leafO 1 0 ⟨#[]⟩) rfl rfl 24 zeroP g2 (leafO_info _ _ _) rfl (leafO_one _ _ _) ?_)
      | fail)
    (try simp only [Exit.inBlock, Exit.then])
    exact bodyPost_ret (results_cell_row rfl _ _ w.heap.size 24 (leafO 1 0 ⟨#[]⟩) (0, 0) _ rfl (setRow_heap _ _ _ _ _ _ g2) Tryd.underlying24 rfl (leafO_info _ _ _)) rfl ⟨rfl, below_setRow (unhide HB) _ (Nat.le_refl _) _⟩
  · rw [if_neg h1]
    have hb0 : Below w.heap.size w (w.alloc (.cells zeroP 24)) := (Below.refl _ _).alloc (Nat.le_refl _) _
    by_cases h2 : k = 9 ∧ n = 0
    · rw [if_pos h2, pv_leaf]
      obtain ⟨rfl, rfl⟩ := h2
      go_enter Tryd.func45, Tryd.ntmps45
      go_wp2_with (first
        | (refine wpList_store_row rfl 24 _ _ rfl w.heap.size (leafO 12 0 ⟨#[]⟩) rfl rfl 24 zeroP (at_new rfl) (leafO_info _ _ _) rfl (leafO_one _ _ _) ?_)
        | fail)
      (try simp only [Exit.inBlock, Exit.then])
      exact bodyPost_ret (results_cell_row rfl _ _ w.heap.size 24 (leafO 12 0 ⟨#[]⟩) (0, 0) _ rfl (setRow_heap _ _ _ _ _ _ (at_new rfl)) Tryd.underlying24 rfl (leafO_info _ _ _)) rfl ⟨rfl, below_setRow hb0 _ (Nat.le_refl _) _⟩
    · rw [if_neg h2, pv_leaf]
      by_cases k2 : k = 2
      · subst k2
        have hn : (n == 0) = false := by rw [beq_eq_false_iff_ne]; exact fun e => h1 ⟨rfl, e⟩
        clear h1 h2
        go_enter Tryd.func45, Tryd.ntmps45
        go_wp2_with (first
          | (refine wpList_store_row rfl 24 _ _ rfl w.heap.size (leafO 2 n ⟨#[]⟩) rfl rfl 24 zeroP (at_new rfl) (leafO_info _ _ _) rfl (leafO_one _ _ _) ?_)
          | fail)
        (try simp only [Exit.inBlock, Exit.then])
        exact bodyPost_ret (results_cell_row rfl _ _ w.heap.size 24 (leafO 2 n ⟨#[]⟩) (0, 0) _ rfl (setRow_heap _ _ _ _ _ _ (at_new rfl)) Tryd.underlying24 rfl (leafO_info _ _ _)) rfl ⟨rfl, below_setRow hb0 _ (Nat.le_refl _) _⟩
      · by_cases k9 : k = 9
        · subst k9
          have hn : (n == 0) = false := by rw [beq_eq_false_iff_ne]; exact fun e => h2 ⟨rfl, e⟩
          clear h1 h2 k2
          go_enter Tryd.func45, Tryd.ntmps45
          go_wp2_with (first
            | (refine wpList_store_row rfl 24 _ _ rfl w.heap.size (leafO 9 n ⟨#[]⟩) rfl rfl 24 zeroP (at_new rfl) (leafO_info _ _ _) rfl (leafO_one _ _ _) ?_)
            | fail)
          (try simp only [Exit.inBlock, Exit.then])
          exact bodyPost_ret (results_cell_row rfl _ _ w.heap.size 24 (leafO 9 n ⟨#[]⟩) (0, 0) _ rfl (setRow_heap _ _ _ _ _ _ (at_new rfl)) Tryd.underlying24 rfl (leafO_info _ _ _)) rfl ⟨rfl, below_setRow hb0 _ (Nat.le_refl _) _⟩
        · have q2 : (k == 2) = false := by rw [beq_eq_false_iff_ne]; exact k2
          have q9 : (k == 9) = false := by rw [beq_eq_false_iff_ne]; exact k9
          clear h1 h2
          go_enter Tryd.func45, Tryd.ntmps45
          go_wp2_with (first
            | (refine wpList_store_row rfl 24 _ _ rfl w.heap.size (leafO k n ⟨#[]⟩) rfl rfl 24 zeroP (at_new rfl) (leafO_info _ _ _) rfl (leafO_one _ _ _) ?_)
            | fail)
          (try simp only [Exit.inBlock, Exit.then])
          exact bodyPost_ret (results_cell_row rfl _ _ w.heap.size 24 (leafO k n ⟨#[]⟩) (0, 0) _ rfl (setRow_heap _ _ _ _ _ _ (at_new rfl)) Tryd.underlying24 rfl (leafO_info _ _ _)) rfl ⟨rfl, below_setRow hb0 _ (Nat.le_refl _) _⟩
theorem results_patS {fn : Func} {p u : Tmp} (h : fn.results = #[.cell p 24, .tmp u]) (tmps : Array Value) (w : World) (g : Nat) (cs : Array Value)
    (hp : tmps.getD p undef = .pointer (some ⟨g, 0, none⟩)) (hg : w.heap[g]? = some (.cells cs 24 (0, 0))) (hi : (Tryd.prog.info? 24).map (·.size) = some cs.size) :
    (results fn tmps).run Tryd.prog w = .ok (.tuple #[.agg cs, tmps.getD u undef]) w := by
  have hp' : tmps[p]?.getD undef = .pointer (some ⟨g, 0, none⟩) := by simpa using hp
  have hl := run_loadVar_row w g 24 24 cs (0, 0) _ hg Tryd.underlying24 rfl hi
  rw [results_cell_tmp h]
  simp [hp', asAddr, hl]
def joinV (o : Option PT) : Value := match o with
  | some y => .tuple #[pv y, .bool true]
  | none => .tuple #[.agg zeroP, .bool false]
theorem below3 (w : World) (x y z : Obj) : Below w.heap.size w (((w.alloc x).alloc y).alloc z) := (((Below.refl w.heap.size w).alloc (Nat.le_refl _) _).alloc (by simp) _).alloc (by simp; omega) _
def patO (T : PT) : Array Value := #[.int .i64 T.k, .string T.t, .int .i64 T.n, .string T.nm, .slice T.xa T.len T.cap]
end Go.Proofs.YtbmngbpillihaaaDoor
