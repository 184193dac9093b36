/- The checker: small facts on rows; Check, whole. -/
import Derived.Test.YtpclpjcemeckgaaDoorCkT
import Derived.Deep.OwnRows

namespace Go.Proofs.YtpclpjcemeckgaaDoor
open Go.RowKit

/-- Blocks of one type are as they were. -/
def KT (t : TypeId) (w w' : World) : Prop := ∀ (k : Nat) (r : Array Value), w.heap[k]? = some (Obj.cells r t (0, 0)) → w'.heap[k]? = some (Obj.cells r t (0, 0))
theorem KT.refl (t : TypeId) (w : World) : KT t w w := fun _ _ h => h
theorem KT.trans {t : TypeId} {a b c : World} (h : KT t a b) (k : KT t b c) : KT t a c := fun i r q => k i r (h i r q)
theorem KT.below {t : TypeId} {w w' : World} (h : Below w.heap.size w w') : KT t w w' := fun k _ q => (h.block k (Array.getElem?_eq_some_iff.1 q).1).trans q
def nI (x : Nat) : List Value := [.int .i64 (x : Int)]
def bV (l : List Bool) : Array Value := (l.map Value.bool).toArray
theorem row_ne {w : World} {a b : Nat} {x y : Array Value} {s t : TypeId} (ha : w.heap[a]? = some (.cells x s (0, 0))) (hb : w.heap[b]? = some (.cells y t (0, 0))) (h : s ≠ t) : a ≠ b := fun e => by
  rw [e, hb] at ha
  injection ha with ha
  injection ha with _ ha
  exact h ha.symm
theorem map_ne {w : World} {b k n : Nat} {f : ByteArray → Option Int} {x : Array Value} {s : TypeId} (hm : MI w b n f) (h : w.heap[k]? = some (.cells x s (0, 0))) : b ≠ k := fun e => by
  obtain ⟨D, ⟨es, cl, h1, -⟩, -⟩ := hm
  rw [e, h] at h1
  cases h1
theorem size_boolS : (Tryd.prog.info? 4).map (·.size) = some 1 := by kernel_rfl
theorem intRow : (Tryd.prog.info? 3).map (fun i => (i.zero, i.size, i.bytes)) = some (some (.int .i64 0), 1, 8) := by kernel_rfl
theorem nI_one : ∀ (y : Nat), ∀ u ∈ nI y, u.oneCell' = true := fun y u hu => by
  have : u = .int .i64 (y : Int) := by simpa [nI] using hu
  subst this; rfl
theorem nI_cell {w : World} {g x : Nat} (h : w.heap[g]? = some (.cells #[.int .i64 (x : Int)] 3 (0, 0))) : ∀ k u, (nI x)[k]? = some u → w.cell? ⟨g, k, none⟩ = some u := fun k u hu => by
  rw [cell_of_row _ _ _ _ _ _ h, ← hu]
  unfold nI
  rw [show (#[Value.int .i64 (x : Int)] : Array Value) = [Value.int .i64 (x : Int)].toArray from rfl, List.getElem?_toArray]
theorem size_intS : (Tryd.prog.info? 3).map (·.size) = some 1 := by kernel_rfl
theorem boolRow : (Tryd.prog.info? 4).map (fun i => (i.zero, i.size, i.bytes)) = some (some (.bool false), 1, 1) := by kernel_rfl
theorem made_bools (n : Nat) : madeCells #[Value.bool false] n = bV (List.replicate n false) := by
  apply Array.ext'
  unfold bV
  simp only [madeCells]
  induction n with
  | zero => simp
  | succ n ih => rw [Array.range_succ, Array.map_append, Array.toList_append, ih, List.replicate_succ']; simp [Nat.mod_one]
theorem make_bools (n : Nat) (hn : n ≤ 1000000) (W : World) : (Instr.makeSlice 34 (.int .i64 (n : Int)) (.int .i64 (n : Int))).run Tryd.prog W = .ok (.slice (some ⟨W.heap.size, 0, none⟩) n n) (W.alloc (.cells (bV (List.replicate n false)) 4)) := by
  have := run_make_row' (P := Tryd.prog) 34 4 (.bool false) 1 Tryd.underlying34 boolRow rfl .i64 .i64 n (by omega) (by omega) W
  rw [made_bools] at this
  exact this
theorem size_fau : (Tryd.prog.info? 28).map (·.size) = some 2 := by kernel_rfl
theorem look_len {P : List SV} (h : (lookS P).er = 0) : P.length ≤ 1000 := by
  have keep : ∀ {step : CS → Int → SV → CS} {c : CS}, (rnd step P 0 c).er = 0 → c.er = 0 := fun {step c} q => by
    by_cases h0 : c.er = 0
    · exact h0
    · rw [rnd_stop _ _ _ h0] at q; exact q
  have h0 : (CS.start P).er = 0 := keep (keep (keep h))
  have := (tellIf_ok (show ((⟨0, 0, fun _ => none, fun _ => none⟩ : CS).tellIf (decide (1000 < P.length)) 5 0).er = 0 from h0) (by decide)).2.2
  simpa using this
/-- Check: what is wrong first. -/
def ChkPost (w : World) (P : List SV) (e : Ending) (w' : World) : Prop := e = .returned (.agg #[.int .i64 (lookS P).er, .int .i64 (lookS P).at_]) ∧ Below w.heap.size w w'
set_option maxRecDepth 100000 in
set_option maxHeartbeats 4000000 in
theorem check_any (w : World) (V : PV) (P : List SV) (hE : Env w.heap.size w V P) : Calls Tryd.prog 7 #[V.v P.length] w (ChkPost w P) := by
  have hk0 := (Below.refl w.heap.size w).alloc (Nat.le_refl _) (.cells #[.int .i64 0, .int .i64 0] 28)
  have HK := hide hk0
  have HLK := hide (look_any (w.alloc (.cells #[.int .i64 0, .int .i64 0] 28)) V P ⟨fun W q => hE.prog W (bnext hk0 q), fun W q => hE.shx W (bnext hk0 q), fun W q => hE.shp W (bnext hk0 q)⟩)
  clear hE hk0
  go_enter Tryd.func7, Tryd.ntmps7
  go_wp2_with fail
  refine (unhide HLK).mono ?_
  rintro e w2 ⟨z, bl, bf, n, rfl, hM, hb⟩
  have c0 := hM.c0
  have c1 := hM.c1
  have hf0 : w2.heap[w.heap.size]? = some (.cells #[.int .i64 0, .int .i64 0] 28 (0, 0)) := row_below (at_new rfl) hb
  have HB := hide (bnext (unhide HK) hb)
  have hzB := hM.oz
  rw [World.size_alloc] at hzB
  have g0 : w2.cell? ⟨w.heap.size, 0, none⟩ = some (.int .i64 0) := by rw [cell_of_row _ _ _ _ _ _ hf0]; rfl
  have g1 : w2.cell? ⟨w.heap.size, 1, none⟩ = some (.int .i64 0) := by rw [cell_of_row _ _ _ _ _ _ hf0]; rfl
  have r0 := frozen_of_row w2 w.heap.size 0 _ _ hf0
  have r1 := frozen_of_row w2 w.heap.size 1 _ _ hf0
  generalize her : (lookS P).er = er at *
  generalize hat2 : (lookS P).at_ = at2 at *
  have HQ := hide (And.intro her hat2)
  have HF3 := hide (show ((w2.setCell ⟨w.heap.size, 0, none⟩ (.int .i64 er)).setCell ⟨w.heap.size, 1, none⟩ (.int .i64 at2)).heap[w.heap.size]? = some (.cells #[.int .i64 er, .int .i64 at2] 28 (0, 0)) from heap_setCell_same _ _ 1 _ _ _ (heap_setCell_same _ _ 0 _ _ _ hf0))
  have HBZ := hide (below_cell (below_cell (unhide HB) (Nat.le_refl _) 0 (.int .i64 er)) (Nat.le_refl _) 1 (.int .i64 at2))
  have hzn : ¬ z = w.heap.size := by omega
  have hzn2 : ¬ w.heap.size = z := by omega
  clear hM hb hf0 HLK her hat2
  go_wp2_with fail
  refine bodyPost_ret (results_cell_row (p := 2) (ty := 28) rfl _ _ w.heap.size 28 #[.int .i64 er, .int .i64 at2] (0, 0) _ rfl (unhide HF3) Tryd.underlying28 rfl size_fau) rfl ?_
  exact ⟨by rw [(unhide HQ).1, (unhide HQ).2], unhide HBZ⟩
end Go.Proofs.YtpclpjcemeckgaaDoor
