/- What lex.Line answers, for every text. -/
import Derived.Test.YtljkendefdhklaaDoorLexNext
import Derived.Test.YtljkendefdhklaaDoorLexMeant
namespace Go.Proofs.YtljkendefdhklaaDoor
open Go.RowKit

def tkV (x : Tk) : List Value := [.int .i64 (x.k : Int), .string x.t, .int .i64 (x.a : Int)]
theorem tkV_len (x : Tk) : (tkV x).length = 3 := rfl
theorem tkV_one (x : Tk) : ∀ u ∈ tkV x, u.oneCell' = true := by
  intro u hu
  simp only [tkV, List.mem_cons, List.not_mem_nil, or_false] at hu
  rcases hu with rfl | rfl | rfl <;> rfl
def zeroT : Array Value := #[.int .i64 0, .string ByteArray.empty, .int .i64 0]
theorem info_tok : (Tryd.prog.info? 32).map (fun i => (i.zero, i.size, i.bytes)) = some (some (.agg zeroT), 3, 32) := by kernel_rfl
theorem size_tok : (Tryd.prog.info? 32).map (·.size) = some 3 := by kernel_rfl
theorem size_fault : (Tryd.prog.info? 25).map (·.size) = some 2 := by kernel_rfl
theorem Row.lower {α : Type} {w : World} {B B' : Nat} {e : TypeId} {sz : Nat} {f : α → List Value} {v : Value} {l : List α} (h : Row w B e sz f v l) (hB : B' ≤ B) : Row w B' e sz f v l := by
  refine ⟨h.1, ?_⟩
  rcases h.2 with q | ⟨g, cap, cur, q1, q2, q3⟩
  · exact .inl q
  · exact .inr ⟨g, cap, cur, q1, Nat.le_trans hB q2, q3⟩
/-- A value and a fault, the latter in memory. -/
theorem results_fault {fn : Func} {p q : Tmp} (h : fn.results = #[.tmp p, .cell q 25]) (tmps : Array Value) (w : World) (k : Nat) (F : Array Value) (v : Value)
    (hp : tmps.getD p undef = v) (hq : tmps.getD q undef = .pointer (some ⟨k, 0, none⟩)) (hk : w.heap[k]? = some (.cells F 25 (0, 0))) (hF : F.size = 2) :
    (results fn tmps).run Tryd.prog w = .ok (.tuple #[v, .agg F]) w := by
  have hp' : tmps[p]?.getD undef = v := by simpa using hp
  have hq' : tmps[q]?.getD undef = .pointer (some ⟨k, 0, none⟩) := by simpa using hq
  have e2 := run_loadVar_row (P := Tryd.prog) w k 25 25 F (0, 0) _ hk Tryd.underlying25 rfl (by rw [hF]; exact size_fault)
  simp [results, h, hp', hq', asAddr, e2]
def fau (e a : Nat) : Array Value := #[.int .i64 (e : Int), .int .i64 (a : Int)]
/-- What Line says. -/
def LinePost (s : ByteArray) (w : World) (e : Ending) (w' : World) : Prop := ∃ v, e = .returned (.tuple #[v, .agg (fau (lineP s).2.1 (lineP s).2.2)]) ∧ Row w' w.heap.size 32 3 tkV v (lineP s).1 ∧ Below w.heap.size w w'
theorem set_two {W : World} {N : Nat} {F : Array Value} (e a : Value) (hg : W.heap[N]? = some (.cells F 25 (0, 0))) (fs : F.size = 2) :
    ((W.setCell ⟨N, 0, none⟩ e).setCell ⟨N, 1, none⟩ a).heap[N]? = some (.cells #[e, a] 25 (0, 0)) := by
  have h1 := heap_setCell_same W N 0 _ _ e hg
  have h2 := heap_setCell_same _ N 1 _ _ a h1
  have : (F.setIfInBounds 0 e).setIfInBounds 1 a = #[e, a] := by
    obtain ⟨l⟩ := F
    match l, fs with
    | [x, y], _ => rfl
  rw [← this]; exact h2

set_option maxHeartbeats 400000 in
theorem line_much (s : ByteArray) (w : World) (hm : s.size ≤ maxLen) (hs : 2000 < s.size) :
    Calls Tryd.prog 6 #[.string s] w fun e w' => LinePost s w e w' := by
  unfold maxLen at hm
  have HP := hide (show lineP s = ([], 4, 0) by unfold lineP; rw [if_pos hs])
  have h1 : (2000 : Int) < (s.size : Int) := by omega
  unfold LinePost
  go_enter Tryd.func6, Tryd.ntmps6
  go_wp2
  exact bodyPost_ret (results_fault rfl _ _ w.heap.size _ _ rfl rfl (at_new rfl) rfl) rfl ⟨.slice none 0 0, by rw [unhide HP]; rfl, by rw [unhide HP]; exact World.ownsRow_nil _ _ _ 3, (Below.refl _ _).alloc (Nat.le_refl _) _⟩

theorem tok_cell {w : World} {x : Tk} : ∀ k u, (tkV x)[k]? = some u → (w.alloc (.cells (tkV x).toArray 32)).cell? ⟨w.heap.size, k, none⟩ = some u := by
  intro k u h
  rw [cell_of_row _ _ _ _ _ _ (at_new rfl), List.getElem?_toArray]
  exact h
theorem row_nil {w : World} {B : Nat} : Row w B 32 3 tkV (.slice none 0 0) ([] : List Tk) := World.ownsRow_nil _ _ _ 3
theorem bel_two {w a b : World} (h : Below w.heap.size w a) (k : Below (w.heap.size + 1) a b) (_hs : w.heap.size + 1 ≤ a.heap.size) : Below w.heap.size w b :=
  ⟨k.os.trans h.os, k.tape.trans h.tape, k.output.trans h.output, Nat.le_trans h.size k.size, fun i hi => (k.block i (by omega)).trans (h.block i hi)⟩
theorem below_one {w a b : World} (h : Below w.heap.size w a) (k : Below (w.heap.size + 1) a b) (hs : w.heap.size + 1 ≤ a.heap.size) : Below w.heap.size w b := bel_two h k hs
theorem bel_trans {B : Nat} {a b c : World} (h : Below B a b) (k : Below B b c) : Below B a c :=
  ⟨k.os.trans h.os, k.tape.trans h.tape, k.output.trans h.output, Nat.le_trans h.size k.size, fun i hi => (k.block i hi).trans (h.block i hi)⟩
theorem bel_alloc {B : Nat} {a b : World} {o : Obj} (h : Below B a b) (hB : B ≤ b.heap.size) : Below B a (b.alloc o) := h.alloc hB _
theorem row_alloc {w : World} {B : Nat} {v : Value} {l : List Tk} (h : Row w B 32 3 tkV v l) (o : Obj) : Row (w.alloc o) B 32 3 tkV v l := h.later ((Below.refl _ _).alloc (Nat.le_refl _) _)
theorem fault_end {w W : World} {e a : Nat} {F : Array Value} {v : Value} {l : List Tk} (hb : Below w.heap.size w W) (hz : W.heap[w.heap.size]? = some (.cells F 25 (0, 0))) (fs : F.size = 2) (hr : Row W (w.heap.size + 1) 32 3 tkV v l) :
    Row ((W.setCell ⟨w.heap.size, 0, none⟩ (.int .i64 (e : Int))).setCell ⟨w.heap.size, 1, none⟩ (.int .i64 (a : Int))) w.heap.size 32 3 tkV v l ∧ Below w.heap.size w ((W.setCell ⟨w.heap.size, 0, none⟩ (.int .i64 (e : Int))).setCell ⟨w.heap.size, 1, none⟩ (.int .i64 (a : Int))) ∧ ((W.setCell ⟨w.heap.size, 0, none⟩ (.int .i64 (e : Int))).setCell ⟨w.heap.size, 1, none⟩ (.int .i64 (a : Int))).heap[w.heap.size]? = some (.cells (fau e a) 25 (0, 0)) := by
  refine ⟨?_, (hb.setCell (Nat.le_refl _) _).setCell (Nat.le_refl _) _, set_two _ _ hz fs⟩
  refine (hr.same fun k hk => ?_).lower (by omega)
  have := (hr.low hk).1
  rw [heap_setCell_other _ _ _ _ (by simp only; omega), heap_setCell_other _ _ _ _ (by simp only; omega)]

set_option maxRecDepth 10000 in
set_option maxHeartbeats 800000 in
theorem line_ok (s : ByteArray) (w : World) (hs : s.size ≤ 2000) (m : Int) (hm : w.cell? ⟨0, 0, none⟩ = some (.int .i64 m)) :
    Calls Tryd.prog 6 #[.string s] w fun e w' => LinePost s w e w' := by
  have HP := hide (show lineP s = ln s 0 [] by unfold lineP; rw [if_neg (by omega)])
  have h1 : ¬ (2000 : Int) < (s.size : Int) := by omega
  have HM := hide hm
  have HI := hide info_tok
  have HZ := hide (show (Tryd.prog.info? 25).map (·.size) = some (fau 0 0).size from size_fault)
  unfold LinePost
  clear hm
  go_enter Tryd.func6, Tryd.ntmps6
  go_wp2_with fail
  refine (passBlank_any s 0 hs (Nat.zero_le _) _).mono ?_
  rintro e W0 ⟨rfl, hW0⟩
  have hz0 : W0.heap[w.heap.size]? = some (.cells #[.int .i64 0, .int .i64 0] 25 (0, 0)) := by rw [hW0]; exact at_new rfl
  have hb0 : Below w.heap.size w W0 := by rw [hW0]; exact (Below.refl _ _).alloc (Nat.le_refl _) _
  have hs0 : W0.heap.size = w.heap.size + 1 := by rw [hW0]; simp
  have H0 := hide (And.intro hz0 (And.intro hb0 hs0))
  clear hW0 hz0 hb0 hs0
  go_wp2_with fail
  go_loopw [4, 5] (fun v x wr => ∃ (k : Nat) (l : List Tk), k ≤ s.size ∧ (k < s.size → bat s k ≠ 32) ∧ l.length ≤ k ∧ x = .int .i64 (k : Int) ∧ Hid (Row wr (w.heap.size + 1) 32 3 tkV v l) ∧ Hid (Below (w.heap.size + 1) W0 wr) ∧ Hid (ln s 0 [] = ln s k l)) (fun _ x _ => s.size - (intOf x).toNat)
  case atStart => exact ⟨pas s blankN 0, [], (pas_le s blankN 0 (Nat.zero_le _)).2, fun h => of_decide_eq_false (pas_next h), Nat.zero_le _, rfl, World.ownsRow_nil _ _ _ 3, Below.refl _ _, ln_skip (Nat.zero_le _)⟩
  case round =>
    obtain ⟨k, l, hk, hnb, hl, rfl, HR, HB, HL⟩ := hrel
    rcases Nat.lt_or_ge k s.size with hlt | hge
    · have g1 : (k : Int) < (s.size : Int) := by omega
      have HN := hide (next_any s k hs hlt wr)
      have HX := hide hnb
      clear hnb
      have htl := tk_le s k hlt
      have HA := hide (fun h => meant_any s k hs hlt h)
      have HBad := hide (@ln_bad s k l hlt (unhide HX hlt))
      have HTok := hide (@ln_tok s k l hlt (unhide HX hlt))
      have HPs := hide (passBlank_any s (tk s k).2.1 hs htl.2.1)
      generalize hT : tk s k = T at *
      obtain ⟨tk1, te, tt⟩ := T
      dsimp only at HN HA HBad HTok HPs htl
      clear hT
      by_cases h0 : tk1 = 0
      · subst h0
        have HBad2 := hide (unhide HBad rfl)
        have hz := (unhide HB).block w.heap.size (by omega) |>.trans (unhide H0).1
        have c0 := (cell_of_row _ _ 0 _ _ _ hz).trans rfl
        have c1 := (cell_of_row _ _ 1 _ _ _ hz).trans rfl
        have z0 := frozen_of_row _ _ 0 _ _ hz
        have z1 := frozen_of_row _ _ 1 _ _ hz
        have HF := hide (fault_end (e := 2) (a := te) (bel_two (unhide H0).2.1 (unhide HB) (Nat.le_of_eq (unhide H0).2.2.symm)) hz rfl row_nil)
        clear HBad HTok HA HPs hz
        go_wp2_with (refine (unhide HN).mono ?_; rintro e wr ⟨rfl, rfl⟩)
        exact bodyPost_ret (results_fault rfl _ _ w.heap.size _ _ rfl rfl (unhide HF).2.2 rfl) rfl ⟨.slice none 0 0, by rw [unhide HP, unhide HL, unhide HBad2]; rfl, by rw [unhide HP, unhide HL, unhide HBad2]; exact (unhide HF).1, (unhide HF).2.1⟩
      · have e0 : ((tk1 : Int) == 0) = false := by rw [beq_eq_false_iff_ne]; omega
        have HTok2 := hide (unhide HTok h0)
        have htl2 := htl.2.2.1 h0
        have HA2 := hide (unhide HA h0)
        clear HBad HTok HA h0
        have HC := hide (cell_later (below_one (unhide H0).2.1 (unhide HB) (Nat.le_of_eq (unhide H0).2.2.symm)) (unhide HM))
        go_wp2_with (first | (go_at_call 13; refine (unhide HN).mono ?_; rintro e wr ⟨rfl, rfl⟩) | fail)
        refine (unhide HA2 _ m (unhide HC)).mono ?_
        rintro e w1 ⟨rfl, hb1⟩
        have HR1 := hide ((unhide HR).later hb1)
        have HB1 := hide (bel_trans (unhide HB) (hb1.mono (Nat.le_trans (by have := (unhide H0).2.2; omega) (unhide HB).size)))
        have HS1 := hide (show w.heap.size + 1 ≤ w1.heap.size from Nat.le_trans (Nat.le_of_eq (unhide H0).2.2.symm) (unhide HB1).size)
        clear hb1
        go_wp2_with (first | (at_builtin; refine wpList_row Tryd.underlying22 (unhide HI) rfl (by decide) (by decide) tkV_len tkV_one rfl _ _ rfl (row_alloc (unhide HR1) _) (by rw [World.size_alloc]; exact Nat.le_succ_of_le (unhide HS1)) ⟨tk1, tt, k⟩ w1.heap.size 1 rfl rfl (by exact tok_cell) (by omega) ?_; intro v' w2 hrow hgrow _) | (go_at_call 11; refine (unhide HPs _).mono ?_; rintro e w2 ⟨rfl, rfl⟩))
        refine ⟨⟨pas s blankN te, l ++ [⟨tk1, tt, k⟩], (pas_le s blankN te htl.2.1).2, fun h => of_decide_eq_false (pas_next h), ?_, rfl, hide hrow, ?_, ?_⟩, ?_⟩
        · have := (pas_le s blankN te htl.2.1).1; simp; omega
        · exact below_grown (bel_alloc (unhide HB1) (unhide HS1)) (row_alloc (unhide HR1) _) (Nat.le_of_eq (unhide H0).2.2.symm) hgrow
        · rw [unhide HL, unhide HTok2]; exact ln_skip htl.2.1
        · have := (pas_le s blankN te htl.2.1).1; simp [intOf]; omega
    · obtain rfl : k = s.size := by omega
      have HE := hide (@ln_end s l)
      have hz := (unhide HB).block w.heap.size (by omega) |>.trans (unhide H0).1
      have c0 := (cell_of_row _ _ 0 _ _ _ hz).trans rfl
      have c1 := (cell_of_row _ _ 1 _ _ _ hz).trans rfl
      have z0 := frozen_of_row _ _ 0 _ _ hz
      have z1 := frozen_of_row _ _ 1 _ _ hz
      have HF := hide (fault_end (e := 0) (a := 0) (bel_two (unhide H0).2.1 (unhide HB) (Nat.le_of_eq (unhide H0).2.2.symm)) hz rfl (unhide HR))
      clear hz
      go_wp2_with fail
      exact bodyPost_ret (results_fault rfl _ _ w.heap.size _ _ rfl rfl (unhide HF).2.2 rfl) rfl ⟨_, by rw [unhide HP, unhide HL, unhide HE], by rw [unhide HP, unhide HL, unhide HE]; exact (unhide HF).1, (unhide HF).2.1⟩

theorem line_any (s : ByteArray) (w : World) (hs : s.size ≤ maxLen) (m : Int) (hm : w.cell? ⟨0, 0, none⟩ = some (.int .i64 m)) :
    Calls Tryd.prog 6 #[.string s] w fun e w' => LinePost s w e w' := by
  rcases Nat.lt_or_ge 2000 s.size with h | h
  · exact line_much s w hs h
  · exact line_ok s w h m hm
end Go.Proofs.YtljkendefdhklaaDoor
