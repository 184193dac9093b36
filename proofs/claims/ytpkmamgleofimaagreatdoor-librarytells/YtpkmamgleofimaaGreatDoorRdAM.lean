/- What lex.Line answers, for every text. What strings.Clone does: the same bytes. The reader of patterns: its small functions. -/
import Derived.Test.YtpkmamgleofimaaGreatDoorLxMeantPM
import Derived.Test.YtpkmamgleofimaaGreatDoorLxMeantM
import Derived.Test.YtpkmamgleofimaaGreatDoorPatBaseM
import Derived.Test.YtpkmamgleofimaaGreatDoorLexLibM
import Derived.Test.YtpkmamgleofimaaGreatDoorRdPlainM
import Derived.Test.YtpkmamgleofimaaGreatDoorRowBaseM
import Derived.Test.YtpkmamgleofimaaGreatDoorSyPlainM
import Derived.Recover
namespace Go.Proofs.YtpkmamgleofimaaGreatDoor
open Go.RowKit

def tkV (x : Tk) : List Value := [.int .i64 (x.k : Int), .string x.t, .int .i64 (x.a : Int)]
theorem tkV_len (x : Tk) : (tkV x).length = 3 := rfl
theorem tkV_one (x : Tk) : ∀ u ∈ tkV x, u.oneCell' = true := by
  intro u hu
  simp only [tkV, List.mem_cons, List.not_mem_nil, or_false] at hu
  rcases hu with rfl | rfl | rfl <;> rfl
def zeroT : Array Value := #[.int .i64 0, .string ByteArray.empty, .int .i64 0]
theorem info_tok : (Tryz.prog.info? 78).map (fun i => (i.zero, i.size, i.bytes)) = some (some (.agg zeroT), 3, 32) := by kernel_rfl
theorem size_tok : (Tryz.prog.info? 78).map (·.size) = some 3 := by kernel_rfl
theorem lxSize_fault : (Tryz.prog.info? 30).map (·.size) = some 2 := by kernel_rfl
theorem Row.lower {α : Type} {w : World} {B B' : Nat} {e : TypeId} {sz : Nat} {f : α → List Value} {v : Value} {l : List α} (h : Row w B e sz f v l) (hB : B' ≤ B) : Row w B' e sz f v l := by
  refine ⟨h.1, ?_⟩
  rcases h.2 with q | ⟨g, cap, cur, q1, q2, q3⟩
  · exact .inl q
  · exact .inr ⟨g, cap, cur, q1, Nat.le_trans hB q2, q3⟩
theorem results_fault {fn : Func} {p q : Tmp} (h : fn.results = #[.tmp p, .cell q 30]) (tmps : Array Value) (w : World) (k : Nat) (F : Array Value) (v : Value)
    (hp : tmps.getD p undef = v) (hq : tmps.getD q undef = .pointer (some ⟨k, 0, none⟩)) (hk : w.heap[k]? = some (.cells F 30 (0, 0))) (hF : F.size = 2) :
    (results fn tmps).run Tryz.prog w = .ok (.tuple #[v, .agg F]) w := by
  have hp' : tmps[p]?.getD undef = v := by simpa using hp
  have hq' : tmps[q]?.getD undef = .pointer (some ⟨k, 0, none⟩) := by simpa using hq
  have e2 := run_loadVar_row (P := Tryz.prog) w k 30 30 F (0, 0) _ hk Tryz.underlying30 rfl (by rw [hF]; exact lxSize_fault)
  simp [results, h, hp', hq', asAddr, e2]
def fau (e a : Nat) : Array Value := #[.int .i64 (e : Int), .int .i64 (a : Int)]
def LinePost (s : ByteArray) (w : World) (e : Ending) (w' : World) : Prop := ∃ v, e = .returned (.tuple #[v, .agg (fau (lineP s).2.1 (lineP s).2.2)]) ∧ Row w' w.heap.size 78 3 tkV v (lineP s).1 ∧ Below w.heap.size w w'
theorem lxSet_two {W : World} {N : Nat} {F : Array Value} (e a : Value) (hg : W.heap[N]? = some (.cells F 30 (0, 0))) (fs : F.size = 2) :
    ((W.setCell ⟨N, 0, none⟩ e).setCell ⟨N, 1, none⟩ a).heap[N]? = some (.cells #[e, a] 30 (0, 0)) := by
  have h1 := heap_setCell_same W N 0 _ _ e hg
  have h2 := heap_setCell_same _ N 1 _ _ a h1
  have : (F.setIfInBounds 0 e).setIfInBounds 1 a = #[e, a] := by
    obtain ⟨l⟩ := F
    match l, fs with
    | [x, y], _ => rfl
  rw [← this]; exact h2
set_option maxHeartbeats 400000 in
theorem line_much (s : ByteArray) (w : World) (hm : s.size ≤ maxLen) (hs : 2000 < s.size) :
    Calls Tryz.prog 18 #[.string s] w fun e w' => LinePost s w e w' := by
  unfold maxLen at hm
  have HP : Hid (lineP s = ([], 4, 0)) := hide (by unfold lineP; rw [if_pos hs])
  have h1 : (2000 : Int) < (s.size : Int) := by omega
  unfold LinePost
  go_enter Tryz.func18, Tryz.ntmps18
  go_wp2
  exact bodyPost_ret (results_fault rfl _ _ w.heap.size _ _ rfl rfl (at_new rfl) rfl) rfl ⟨.slice none 0 0, by rw [unhide HP]; rfl, by rw [unhide HP]; exact World.ownsRow_nil _ _ _ 3, ba _⟩
theorem tok_cell {w : World} {x : Tk} : ∀ k u, (tkV x)[k]? = some u → (w.alloc (.cells (tkV x).toArray 78)).cell? ⟨w.heap.size, k, none⟩ = some u := by
  intro k u h
  rw [cell_of_row _ _ _ _ _ _ (at_new rfl), List.getElem?_toArray]
  exact h
theorem row_nil {w : World} {B : Nat} : Row w B 78 3 tkV (.slice none 0 0) ([] : List Tk) := World.ownsRow_nil _ _ _ 3
theorem bel_two {w a b : World} (h : Below w.heap.size w a) (k : Below (w.heap.size + 1) a b) (_hs : w.heap.size + 1 ≤ a.heap.size) : Below w.heap.size w b :=
  ⟨k.os.trans h.os, k.tape.trans h.tape, k.output.trans h.output, Nat.le_trans h.size k.size, fun i hi => (k.block i (by omega)).trans (h.block i hi)⟩
theorem below_one {w a b : World} (h : Below w.heap.size w a) (k : Below (w.heap.size + 1) a b) (hs : w.heap.size + 1 ≤ a.heap.size) : Below w.heap.size w b := bel_two h k hs
theorem bel_trans {B : Nat} {a b c : World} (h : Below B a b) (k : Below B b c) : Below B a c :=
  ⟨k.os.trans h.os, k.tape.trans h.tape, k.output.trans h.output, Nat.le_trans h.size k.size, fun i hi => (k.block i hi).trans (h.block i hi)⟩
theorem bel_alloc {B : Nat} {a b : World} {o : Obj} (h : Below B a b) (hB : B ≤ b.heap.size) : Below B a (b.alloc o) := h.alloc hB _
theorem row_alloc {w : World} {B : Nat} {v : Value} {l : List Tk} (h : Row w B 78 3 tkV v l) (o : Obj) : Row (w.alloc o) B 78 3 tkV v l := h.later (ba _)
theorem fault_end {w W : World} {e a : Nat} {F : Array Value} {v : Value} {l : List Tk} (hb : Below w.heap.size w W) (hz : W.heap[w.heap.size]? = some (.cells F 30 (0, 0))) (fs : F.size = 2) (hr : Row W (w.heap.size + 1) 78 3 tkV v l) :
    Row ((W.setCell ⟨w.heap.size, 0, none⟩ (.int .i64 (e : Int))).setCell ⟨w.heap.size, 1, none⟩ (.int .i64 (a : Int))) w.heap.size 78 3 tkV v l ∧ Below w.heap.size w ((W.setCell ⟨w.heap.size, 0, none⟩ (.int .i64 (e : Int))).setCell ⟨w.heap.size, 1, none⟩ (.int .i64 (a : Int))) ∧ ((W.setCell ⟨w.heap.size, 0, none⟩ (.int .i64 (e : Int))).setCell ⟨w.heap.size, 1, none⟩ (.int .i64 (a : Int))).heap[w.heap.size]? = some (.cells (fau e a) 30 (0, 0)) := by
  refine ⟨?_, (hb.setCell (Nat.le_refl _) _).setCell (Nat.le_refl _) _, lxSet_two _ _ hz fs⟩
  refine (hr.same fun k hk => ?_).lower (by omega)
  have := (hr.low hk).1
  rw [heap_setCell_other _ _ _ _ (by simp only; omega), heap_setCell_other _ _ _ _ (by simp only; omega)]
set_option maxRecDepth 10000 in
set_option maxHeartbeats 800000 in
theorem line_ok (s : ByteArray) (w : World) (hs : s.size ≤ 2000) (m : Int) (hm : w.cell? ⟨1, 0, none⟩ = some (.int .i64 m)) :
    Calls Tryz.prog 18 #[.string s] w fun e w' => LinePost s w e w' := by
  have HP : Hid (lineP s = ln s 0 []) := hide (by unfold lineP; rw [if_neg (by omega)])
  have h1 : ¬ (2000 : Int) < (s.size : Int) := by omega
  have HM := hide hm
  have HI := hide info_tok
  have HZ : Hid ((Tryz.prog.info? 30).map (·.size) = some (fau 0 0).size) := hide (lxSize_fault)
  unfold LinePost
  clear hm
  go_enter Tryz.func18, Tryz.ntmps18
  go_wp2_with fail
  refine (passBlank_any s 0 hs (Nat.zero_le _) _).mono ?_
  rintro e W0 ⟨rfl, hW0⟩
  have hz0 : W0.heap[w.heap.size]? = some (.cells #[.int .i64 0, .int .i64 0] 30 (0, 0)) := by rw [hW0]; exact at_new rfl
  have hb0 : Below w.heap.size w W0 := by rw [hW0]; exact ba _
  have hs0 : W0.heap.size = w.heap.size + 1 := by rw [hW0]; simp
  have H0 := hide (And.intro hz0 (And.intro hb0 hs0))
  clear hW0 hz0 hb0 hs0
  go_wp2_with fail
  go_loopw [4, 5] (fun v x wr => ∃ (k : Nat) (l : List Tk), k ≤ s.size ∧ (k < s.size → bat s k ≠ 32) ∧ l.length ≤ k ∧ x = .int .i64 (k : Int) ∧ Hid (Row wr (w.heap.size + 1) 78 3 tkV v l) ∧ Hid (Below (w.heap.size + 1) W0 wr) ∧ Hid (ln s 0 [] = ln s k l)) (fun _ x _ => s.size - (intOf x).toNat)
  case atStart => exact ⟨pas s blankN 0, [], (pas_le s blankN 0 (Nat.zero_le _)).2, fun h => of_decide_eq_false (pas_next h), Nat.zero_le _, rfl, World.ownsRow_nil _ _ _ 3, Below.refl _ _, ln_skip (Nat.zero_le _)⟩
  case round =>
    obtain ⟨k, l, hk, hnb, hl, rfl, HR, HB, HL⟩ := hrel
    rcases Nat.lt_or_ge k s.size with hlt | hge
    · have g1 : (k : Int) < (s.size : Int) := by omega
      have HN := hide (lxNext_any s k hs hlt wr)
      have HX := hide hnb
      clear hnb
      have htl := tk_le s k hlt
      have HA := hide (fun h => meant_any s k hs hlt h)
      have HBad := hide (@ln_bad s k l hlt (unhide HX hlt))
      have HTok := hide (@ln_tok s k l hlt (unhide HX hlt))
      have HPs := hide (passBlank_any s (tk s k).2.1 hs htl.2.1)
      generalize hT : tk s k = T at *
      obtain ⟨tk1, te, tt⟩ := T
      dsimp only at HN HA HBad HTok HPs htl
      clear hT
      by_cases h0 : tk1 = 0
      · subst h0
        have HBad2 := hide (unhide HBad rfl)
        have hz := (unhide HB).block w.heap.size (by omega) |>.trans (unhide H0).1
        have c0 := (cell_of_row _ _ 0 _ _ _ hz).trans rfl
        have c1 := (cell_of_row _ _ 1 _ _ _ hz).trans rfl
        have z0 := frozen_of_row _ _ 0 _ _ hz
        have z1 := frozen_of_row _ _ 1 _ _ hz
        have HF := hide (fault_end (e := 2) (a := te) (bel_two (unhide H0).2.1 (unhide HB) (Nat.le_of_eq (unhide H0).2.2.symm)) hz rfl row_nil)
        clear HBad HTok HA HPs hz
        go_wp2_with (refine (unhide HN).mono ?_; rintro e wr ⟨rfl, rfl⟩)
        exact bodyPost_ret (results_fault rfl _ _ w.heap.size _ _ rfl rfl (unhide HF).2.2 rfl) rfl ⟨.slice none 0 0, by rw [unhide HP, unhide HL, unhide HBad2]; rfl, by rw [unhide HP, unhide HL, unhide HBad2]; exact (unhide HF).1, (unhide HF).2.1⟩
      · have e0 : ((tk1 : Int) == 0) = false := bn
        have HTok2 := hide (unhide HTok h0)
        have htl2 := htl.2.2.1 h0
        have HA2 := hide (unhide HA h0)
        clear HBad HTok HA h0
        have HC := hide (cell_later (below_one (unhide H0).2.1 (unhide HB) (Nat.le_of_eq (unhide H0).2.2.symm)) (unhide HM))
        go_wp2_with (first | (go_at_call 31; refine (unhide HN).mono ?_; rintro e wr ⟨rfl, rfl⟩) | fail)
        refine (unhide HA2 _ m (unhide HC)).mono ?_
        rintro e w1 ⟨rfl, hb1⟩
        have HR1 := hide ((unhide HR).later hb1)
        have HB1 := hide (bel_trans (unhide HB) (hb1.mono (Nat.le_trans (by have := (unhide H0).2.2; omega) (unhide HB).size)))
        have HS1 : Hid (w.heap.size + 1 ≤ w1.heap.size) := hide (Nat.le_trans (Nat.le_of_eq (unhide H0).2.2.symm) (unhide HB1).size)
        clear hb1
        go_wp2_with (first | (at_builtin; refine wpList_row Tryz.underlying62 (unhide HI) rfl (by decide) (by decide) tkV_len tkV_one rfl _ _ rfl (row_alloc (unhide HR1) _) (by rw [World.size_alloc]; exact Nat.le_succ_of_le (unhide HS1)) ⟨tk1, tt, k⟩ w1.heap.size 1 rfl rfl (by exact tok_cell) (by omega) ?_; intro v' w2 hrow hgrow _) | (go_at_call 29; refine (unhide HPs _).mono ?_; rintro e w2 ⟨rfl, rfl⟩))
        refine ⟨⟨pas s blankN te, l ++ [⟨tk1, tt, k⟩], (pas_le s blankN te htl.2.1).2, fun h => of_decide_eq_false (pas_next h), ?_, rfl, hide hrow, ?_, ?_⟩, ?_⟩
        · have := (pas_le s blankN te htl.2.1).1; simp; omega
        · exact below_grownR (bel_alloc (unhide HB1) (unhide HS1)) (row_alloc (unhide HR1) _) (Nat.le_of_eq (unhide H0).2.2.symm) hgrow
        · rw [unhide HL, unhide HTok2]; exact ln_skip htl.2.1
        · have := (pas_le s blankN te htl.2.1).1; simp [intOf]; omega
    · obtain rfl : k = s.size := by omega
      have HE := hide (@ln_end s l)
      have hz := (unhide HB).block w.heap.size (by omega) |>.trans (unhide H0).1
      have c0 := (cell_of_row _ _ 0 _ _ _ hz).trans rfl
      have c1 := (cell_of_row _ _ 1 _ _ _ hz).trans rfl
      have z0 := frozen_of_row _ _ 0 _ _ hz
      have z1 := frozen_of_row _ _ 1 _ _ hz
      have HF := hide (fault_end (e := 0) (a := 0) (bel_two (unhide H0).2.1 (unhide HB) (Nat.le_of_eq (unhide H0).2.2.symm)) hz rfl (unhide HR))
      clear hz
      go_wp2_with fail
      exact bodyPost_ret (results_fault rfl _ _ w.heap.size _ _ rfl rfl (unhide HF).2.2 rfl) rfl ⟨_, by rw [unhide HP, unhide HL, unhide HE], by rw [unhide HP, unhide HL, unhide HE]; exact (unhide HF).1, (unhide HF).2.1⟩
theorem line_any (s : ByteArray) (w : World) (hs : s.size ≤ maxLen) (m : Int) (hm : w.cell? ⟨1, 0, none⟩ = some (.int .i64 m)) :
    Calls Tryz.prog 18 #[.string s] w fun e w' => LinePost s w e w' := by
  rcases Nat.lt_or_ge 2000 s.size with h | h
  · exact line_much s w hs h
  · exact line_ok s w h m hm
end Go.Proofs.YtpkmamgleofimaaGreatDoor

namespace Go.Proofs.YtpkmamgleofimaaGreatDoor
open Go.RowKit

set_option maxHeartbeats 400000 in
theorem clone_any (s : ByteArray) (w : World) (hs : s.size ≤ 1000000) : Calls Tryz.prog 62 #[.string s] w fun e w' => e = .returned (.string s) ∧ Below w.heap.size w w' := by
  go_enter Tryz.func62, Tryz.ntmps62
  go_wp2_with (go_at_call 90; refine (Tryz.stringslite_Clone s _ (by omega)).mono ?_; rintro e w' ⟨rfl, hb⟩)
  go_ret
  exact ⟨rfl, hb⟩
end Go.Proofs.YtpkmamgleofimaaGreatDoor

namespace Go.Proofs.YtpkmamgleofimaaGreatDoor
open Go.RowKit

def fauV (er : Int) (i : Nat) : Value := .agg #[.int .i64 er, .int .i64 (i : Int)]
def thr (er : Int) (i : Nat) : Ending := .panicked [{ v := .iface 30 (fauV er i), recovered := false }]
def Rdr (w : World) (z : Nat) (s : ByteArray) (i : Nat) (o : Int) : Prop := w.heap[z]? = some (.cells #[.string s, .int .i64 (i : Int), .int .i64 o] 156 (0, 0))
theorem Rdr.c0 {w : World} {z : Nat} {s : ByteArray} {i : Nat} {o : Int} (h : Rdr w z s i o) : w.cell? ⟨z, 0, none⟩ = some (.string s) := cr h
theorem Rdr.c1 {w : World} {z : Nat} {s : ByteArray} {i : Nat} {o : Int} (h : Rdr w z s i o) : w.cell? ⟨z, 1, none⟩ = some (.int .i64 (i : Int)) := cr h
theorem Rdr.c2 {w : World} {z : Nat} {s : ByteArray} {i : Nat} {o : Int} (h : Rdr w z s i o) : w.cell? ⟨z, 2, none⟩ = some (.int .i64 o) := cr h
theorem Rdr.fz {w : World} {z : Nat} {s : ByteArray} {i : Nat} {o : Int} (h : Rdr w z s i o) (k : Nat) : w.frozen? ⟨z, k, none⟩ = false := frozen_of_row w z k _ _ h
theorem Rdr.set1 {w : World} {z : Nat} {s : ByteArray} {i : Nat} {o : Int} (h : Rdr w z s i o) (j : Nat) : Rdr (w.setCell ⟨z, 1, none⟩ (.int .i64 (j : Int))) z s j o := heap_setCell_same w z 1 _ _ _ h
theorem Rdr.set2 {w : World} {z : Nat} {s : ByteArray} {i : Nat} {o : Int} (h : Rdr w z s i o) (p : Int) : Rdr (w.setCell ⟨z, 2, none⟩ (.int .i64 p)) z s i p := heap_setCell_same w z 2 _ _ _ h
theorem Rdr.below {w w' : World} {z : Nat} {s : ByteArray} {i : Nat} {o : Int} (h : Rdr w z s i o) (hb : Below w.heap.size w w') : Rdr w' z s i o := row_below h hb
theorem Rdr.lt {w : World} {z : Nat} {s : ByteArray} {i : Nat} {o : Int} (h : Rdr w z s i o) : z < w.heap.size := (Array.getElem?_eq_some_iff.1 h).1
set_option maxHeartbeats 400000 in
theorem throw_any (er : Int) (i : Nat) (w : World) : Calls Tryz.prog 130 #[.int .i64 er, .int .i64 (i : Int)] w fun e w' => e = thr er i ∧ w' = w := by
  go_enter Tryz.func130, Tryz.ntmps130
  go_wp2
  exact ⟨rfl, rfl, rfl⟩
set_option maxHeartbeats 400000 in
theorem stop_any {s : ByteArray} {i z : Nat} {o : Int} (w : World) (hR : Rdr w z s i o) : Calls Tryz.prog 122 #[.pointer (some ⟨z, 0, none⟩)] w fun e w' => e = thr 2 i ∧ w' = w := by
  have c1 := hR.c1
  have HC := hide (fun w => throw_any 2 i w)
  clear hR
  go_enter Tryz.func122, Tryz.ntmps122
  go_wp2_with (refine (unhide HC _).mono ?_; rintro e w ⟨rfl, rfl⟩; unfold thr)
  exact ⟨rfl, rfl, rfl⟩
set_option maxHeartbeats 800000 in
theorem here_any {s : ByteArray} {i z : Nat} {o : Int} (w : World) (_hs : s.size ≤ 65536) (hi : i ≤ s.size) (hR : Rdr w z s i o) : Calls Tryz.prog 134 #[.pointer (some ⟨z, 0, none⟩)] w fun e w' => e = .returned (.int .u8 (bat s i : Int)) ∧ Below w.heap.size w w' := by
  have c0 := hR.c0
  have c1 := hR.c1
  clear hR
  have hd : w.drew.cell? ⟨z, 0, none⟩ = w.cell? ⟨z, 0, none⟩ := rfl
  rcases Nat.lt_or_ge i s.size with h | h
  · have h1 : ((i : Int) == (s.size : Int)) = false := bn
    have hb := bat_at s i h
    go_enter Tryz.func134, Tryz.ntmps134
    go_wp2_with fail
    go_region
    go_wp2_with fail
    go_region
    go_wp2_with fail
    go_ret
    exact ⟨rfl, ((Below.refl _ _).drew).drew⟩
  · obtain rfl : i = s.size := by omega
    have h1 : ((s.size : Int) == (s.size : Int)) = true := by rw [beq_iff_eq]
    have hb : bat s s.size = 0 := bat_end s _ h
    rw [hb]
    go_enter Tryz.func134, Tryz.ntmps134
    go_wp2_with fail
    go_region
    go_wp2_with fail
    go_ret
    exact ⟨rfl, (Below.refl _ _).drew⟩
def atIn (w : World) (z : Nat) : Nat := match w.cell? ⟨z, 1, none⟩ with | some (.int _ n) => n.toNat | _ => 0
theorem Rdr.at {w : World} {z : Nat} {s : ByteArray} {i : Nat} {o : Int} (h : Rdr w z s i o) : atIn w z = i := by unfold atIn; rw [h.c1]; simp
set_option maxHeartbeats 800000 in
theorem next_any {s : ByteArray} {i z : Nat} {o : Int} (w : World) (hs : s.size ≤ 65536) (hi : i ≤ s.size) (hR : Rdr w z s i o) : Calls Tryz.prog 128 #[.pointer (some ⟨z, 0, none⟩)] w fun e w' => e = .returned (.int .u8 (nx s i : Int)) ∧ But z w w' ∧ Rdr w' z s (sk s i) o := by
  have HR0 := hide hR
  clear hR
  go_enter Tryz.func128, Tryz.ntmps128
  go_wp2_with fail
  go_loopw [] (fun wr => ∃ k : Nat, k ≤ s.size ∧ Hid (Rdr wr z s k o) ∧ Hid (But z w wr) ∧ Hid (sk s i = sk s k)) (fun wr => s.size - atIn wr z)
  case atStart => exact ⟨i, hi, unhide HR0, But.refl _ _, rfl⟩
  case round =>
    obtain ⟨k, hk, HR, HB, HS⟩ := hrel
    have HH := hide (fun w h => here_any (z := z) (o := o) w hs hk h)
    have HM := hide (unhide HR).at
    by_cases h32 : bat s k = 32
    · have hlt : k < s.size := bat_in (by omega)
      have HS2 : Hid (sk s k = sk s (k + 1)) := hide (pas_step hlt (decide_eq_true h32))
      rw [h32] at HH
      clear h32
      go_wp2_with fail
      refine (unhide HH _ (unhide HR)).mono ?_
      rintro e w2 ⟨rfl, hb⟩
      have hR2 := (unhide HR).below hb
      have c1 := hR2.c1
      have fz := hR2.fz 1
      have H2 := hide hR2
      have HB2 := hide ((unhide HB).trans (But.of_below hb))
      clear hR2 hb
      go_wp2_with fail
      have HR3 := hide ((unhide H2).set1 (k + 1))
      exact ⟨⟨k + 1, by omega, unhide HR3, (unhide HB2).setCell 1 _, by rw [unhide HS, unhide HS2]; rfl⟩, by have h1 := unhide HM; have h2 := (unhide HR3).at; simp only [Int.natCast_add, Int.cast_ofNat_Int] at h2; rw [h1]; omega⟩
    · have HS2 := hide (sk_same h32)
      have hne : ((bat s k : Int) == 32) = false := bn
      clear h32
      go_wp2_with fail
      refine (unhide HH _ (unhide HR)).mono ?_
      rintro e w2 ⟨rfl, hb⟩
      have H2 := hide ((unhide HR).below hb)
      have HB2 := hide ((unhide HB).trans (But.of_below hb))
      clear hb
      go_wp2_with fail
      refine (unhide HH _ (unhide H2)).mono ?_
      rintro e w3 ⟨rfl, hb⟩
      have H3 := hide ((unhide H2).below hb)
      have HB3 := hide ((unhide HB2).trans (But.of_below hb))
      clear hb
      go_wp2_with fail
      go_ret
      refine ⟨?_, unhide HB3, ?_⟩
      · unfold nx; rw [unhide HS, unhide HS2]; rfl
      · rw [unhide HS, unhide HS2]; exact unhide H3
set_option maxHeartbeats 800000 in
theorem take_ok {s : ByteArray} {i z : Nat} {o : Int} (c : Nat) (w : World) (hs : s.size ≤ 65536) (hi : i ≤ s.size) (hR : Rdr w z s i o) (hc : nx s i = c) (h0 : c ≠ 0) : Calls Tryz.prog 149 #[.pointer (some ⟨z, 0, none⟩), .int .u8 (c : Int)] w fun e w' => e = .returned (.tuple #[]) ∧ But z w w' ∧ Rdr w' z s (sk s i + 1) o := by
  have HN := hide (next_any w hs hi hR)
  have hlt := nx_in (s := s) (i := i) (by omega)
  subst hc
  generalize hk : sk s i = k at *
  generalize nx s i = c at *
  clear hR hk h0
  go_enter Tryz.func149, Tryz.ntmps149
  go_wp2_with fail
  refine (unhide HN).mono ?_
  rintro e w2 ⟨rfl, hb, hR2⟩
  have c1 := hR2.c1
  have fz := hR2.fz 1
  have H2 := hide hR2
  have HB := hide hb
  clear hb hR2
  go_wp2_with fail
  go_end0
  exact ⟨rfl, (unhide HB).setCell 1 _, (unhide H2).set1 (k + 1)⟩
set_option maxHeartbeats 800000 in
theorem take_bad {s : ByteArray} {i z : Nat} {o : Int} (c : Nat) (w : World) (hs : s.size ≤ 65536) (hi : i ≤ s.size) (hR : Rdr w z s i o) (hc : nx s i ≠ c) : Calls Tryz.prog 149 #[.pointer (some ⟨z, 0, none⟩), .int .u8 (c : Int)] w fun e w' => e = thr 2 (sk s i) ∧ But z w w' := by
  have HN := hide (next_any w hs hi hR)
  have hne : ((nx s i : Int) == (c : Int)) = false := bn
  clear hR hc
  generalize sk s i = k at *
  generalize nx s i = b at *
  go_enter Tryz.func149, Tryz.ntmps149
  go_wp2_with fail
  refine (unhide HN).mono ?_
  rintro e w2 ⟨rfl, hb, hR2⟩
  have HB := hide hb
  have HS := hide (stop_any w2 hR2)
  clear hb hR2
  go_wp2_with (refine (unhide HS).mono ?_; rintro e w ⟨rfl, rfl⟩; unfold thr)
  exact ⟨rfl, rfl, unhide HB⟩
def RdPost {α : Type} (V : α → Ending → World → Prop) (z : Nat) (s : ByteArray) (o : Int) (w : World) (R : Rd α) (e : Ending) (w' : World) : Prop :=
  But z w w' ∧ (match R with | .ok x => V x.1 e w' ∧ Rdr w' z s x.2 o | .error x => e = thr x.1 x.2)
section
variable {α : Type} {V : α → Ending → World → Prop} {z : Nat} {s : ByteArray} {o : Int} {w w' : World} {R : Rd α} {e : Ending}
theorem post_ok {a : α} {j : Nat} (h : R = .ok (a, j)) (hb : But z w w') (hv : V a e w') (hr : Rdr w' z s j o) : RdPost V z s o w R e w' := by subst h; exact ⟨hb, hv, hr⟩
theorem post_err {er : Int} {i : Nat} (h : R = .error (er, i)) (hb : But z w w') (he : e = thr er i) : RdPost V z s o w R e w' := by subst h; exact ⟨hb, he⟩
theorem of_ok {a : α} {j : Nat} (h : RdPost V z s o w R e w') (hr : R = .ok (a, j)) : But z w w' ∧ V a e w' ∧ Rdr w' z s j o := by subst hr; exact ⟨h.1, h.2.1, h.2.2⟩
theorem of_err {er : Int} {i : Nat} (h : RdPost V z s o w R e w') (hr : R = .error (er, i)) : But z w w' ∧ e = thr er i := by subst hr; exact h
end
def strV (t : ByteArray) (e : Ending) (_ : World) : Prop := e = .returned (.string t)
def numV (n : Nat) (e : Ending) (_ : World) : Prop := e = .returned (.int .i64 (n : Int))
end Go.Proofs.YtpkmamgleofimaaGreatDoor
