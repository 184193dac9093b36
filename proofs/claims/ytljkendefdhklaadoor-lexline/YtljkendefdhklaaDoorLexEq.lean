/- Tokens and faults that are the same are told so. -/
import Derived.Test.YtljkendefdhklaaDoorLexLine
import Derived.DeepKeys
namespace Go.Proofs.YtljkendefdhklaaDoor
open Go.RowKit

theorem wf_i64 (n : Int) (h0 : 0 ≤ n) (h : n ≤ 4294967296) : (Lit.int .i64 n).wf = true := by
  simp [Lit.wf, IntKind.min, IntKind.max, IntKind.signed, IntKind.bits]
  omega
theorem cells_tok : Tryd.prog.cellsOf 32 = 3 := by kernel_rfl
theorem cells_fau : Tryd.prog.cellsOf 25 = 2 := by kernel_rfl
theorem cells_int : Tryd.prog.cellsOf 3 = 1 := by kernel_rfl
theorem cells_str : Tryd.prog.cellsOf 9 = 1 := by kernel_rfl
theorem cells_err : Tryd.prog.cellsOf 23 = 1 := by kernel_rfl
theorem key_tok : Tryd.prog.keyTypeAt 3 32 = true := by kernel_rfl
theorem key_fau : Tryd.prog.keyTypeAt 3 25 = true := by kernel_rfl
theorem lits_int (n : Int) (h0 : 0 ≤ n) (h : n ≤ 4294967296) : Tryd.prog.keyLits 1 3 [.int .i64 n] = some [.int .i64 n] := by
  unfold Program.keyLits
  rw [Tryd.underlying3]
  simp [wf_i64 n h0 h]
theorem lits_err (n : Int) (h0 : 0 ≤ n) (h : n ≤ 4294967296) : Tryd.prog.keyLits 1 23 [.int .i64 n] = some [.int .i64 n] := by
  unfold Program.keyLits
  rw [Tryd.underlying23]
  simp [wf_i64 n h0 h]
theorem lits_str (t : ByteArray) (h : t.size ≤ maxLen) : Tryd.prog.keyLits 1 9 [.string t] = some [.string t.data.toList] := by
  unfold Program.keyLits
  rw [Tryd.underlying9]
  simp [h]
theorem lits_tok (x y : Int) (t : ByteArray) (h0 : 0 ≤ x) (h : x ≤ 4294967296) (h1 : 0 ≤ y) (h2 : y ≤ 4294967296) (ht : t.size ≤ maxLen) : ∃ la, Tryd.prog.keyLits 2 32 (Value.agg #[.int .i64 x, .string t, .int .i64 y]).cells.toList = some la := by
  have e0 := lits_int x h0 h
  have e1 := lits_int y h1 h2
  have e2 := lits_str t ht
  unfold Program.keyLits
  rw [Tryd.underlying32]
  simp only [Value.cells, cells_tok, List.length_cons, List.length_nil]
  simp [cells_int, cells_str, e0, e1, e2]
theorem lits_fau (x y : Int) (h0 : 0 ≤ x) (h : x ≤ 4294967296) (h1 : 0 ≤ y) (h2 : y ≤ 4294967296) : ∃ la, Tryd.prog.keyLits 2 25 (Value.agg #[.int .i64 x, .int .i64 y]).cells.toList = some la := by
  have e0 := lits_err x h0 h
  have e1 := lits_int y h1 h2
  unfold Program.keyLits
  rw [Tryd.underlying25]
  simp only [Value.cells, cells_fau, List.length_cons, List.length_nil]
  simp [cells_int, cells_err, e0, e1]
theorem eq_tok (x y : Int) (t : ByteArray) (h0 : 0 ≤ x) (h : x ≤ 4294967296) (h1 : 0 ≤ y) (h2 : y ≤ 4294967296) (ht : t.size ≤ maxLen) (w : World) : (Op.equalIn 10000 32 (.agg #[.int .i64 x, .string t, .int .i64 y]) (.agg #[.int .i64 x, .string t, .int .i64 y])).run Tryd.prog w = .ok true w := by
  obtain ⟨la, hk⟩ := lits_tok x y t h0 h h1 h2 ht
  have hf : (Value.agg #[.int .i64 x, .string t, .int .i64 y]).formed Tryd.prog 32 = true := by simp [Value.formed, Tryd.underlying32, cells_tok]
  obtain ⟨r, q1, q2⟩ := run_equalIn_deep (P := Tryd.prog) 9997 3 32 key_tok w 2 2 _ _ la la hf hf hk hk
  rw [q1, q2.2 rfl]
theorem eq_fau (x y : Int) (h0 : 0 ≤ x) (h : x ≤ 4294967296) (h1 : 0 ≤ y) (h2 : y ≤ 4294967296) (w : World) : (Op.equalIn 10000 25 (.agg #[.int .i64 x, .int .i64 y]) (.agg #[.int .i64 x, .int .i64 y])).run Tryd.prog w = .ok true w := by
  obtain ⟨la, hk⟩ := lits_fau x y h0 h h1 h2
  have hf : (Value.agg #[.int .i64 x, .int .i64 y]).formed Tryd.prog 25 = true := by simp [Value.formed, Tryd.underlying25, cells_fau]
  obtain ⟨r, q1, q2⟩ := run_equalIn_deep (P := Tryd.prog) 9997 3 25 key_fau w 2 2 _ _ la la hf hf hk hk
  rw [q1, q2.2 rfl]

/-- Tokens are small. -/
def Small (x : Tk) : Prop := x.k ≤ 5 ∧ x.a ≤ 2000 ∧ x.t.size ≤ 2000
theorem ct_len (s : ByteArray) (i : Nat) : (ct s i).length ≤ s.size - i :=
  cq_ind (P := fun i => (ct s i).length ≤ s.size - i) (fun i hi => by rw [ct_end hi]; exact Nat.zero_le _) (fun i hi hb ih => by rw [ct_plain hi hb, List.length_cons]; omega)
    (fun i hb hc ih => by rw [ct_two hb hc, List.length_cons]; have := bat_in (s := s) (i := i + 1) (by omega); omega) (fun i hb hc => by rw [ct_here hb hc]; exact Nat.zero_le _) s.size i (by omega)
theorem tk_small (s : ByteArray) (i : Nat) : (tk s i).2.2.size ≤ s.size := by
  unfold tk
  split
  · exact ext_le s _ _
  · split
    · exact ext_le s _ _
    · split
      · split
        · exact Nat.zero_le _
        · show (ct s (i + 1)).toArray.size ≤ s.size
          have := ct_len s (i + 1)
          simp only [List.size_toArray]; omega
      · split
        · split
          · exact Nat.zero_le _
          · exact ext_le s _ _
        · split
          · exact ext_le s _ _
          · split
            · exact ext_le s _ _
            · exact Nat.zero_le _
theorem ln_small {s : ByteArray} (hs : s.size ≤ 2000) {i : Nat} {l : List Tk} (hi : i ≤ s.size) (hl : ∀ x ∈ l, Small x) : ∀ x ∈ (ln s i l).1, Small x :=
  ln_ind (P := fun i l => (∀ x ∈ l, Small x) → ∀ x ∈ (ln s i l).1, Small x) (fun l h => by rw [ln_end]; exact h) (fun i l hi hb ih h => by rw [ln_blank hi hb]; exact ih h) (fun i l hi hb hk h => by rw [ln_bad hi hb hk]; intro x hx; cases hx)
    (fun i l hi hb hk ih h => by
      rw [ln_tok hi hb hk]
      refine ih fun x hx => ?_
      rcases List.mem_append.1 hx with q | q
      · exact h x q
      · rw [List.mem_singleton] at q
        subst q
        exact ⟨(tk_le s i hi).2.2.2, by show i ≤ 2000; omega, Nat.le_trans (tk_small s i) hs⟩) s.size i l hi (by omega) hl
theorem line_small (s : ByteArray) : ∀ x ∈ (lineP s).1, Small x := by
  unfold lineP
  split
  · intro x hx; cases hx
  · exact ln_small (by omega) (Nat.zero_le _) (fun x hx => by cases hx)
theorem ln_fault {s : ByteArray} {i : Nat} {l : List Tk} (hi : i ≤ s.size) : (ln s i l).2.1 ≤ 4 ∧ (ln s i l).2.2 ≤ s.size ∧ ((ln s i l).2.1 ≠ 0 → (ln s i l).1 = []) :=
  ln_ind (P := fun i l => (ln s i l).2.1 ≤ 4 ∧ (ln s i l).2.2 ≤ s.size ∧ ((ln s i l).2.1 ≠ 0 → (ln s i l).1 = [])) (fun l => by rw [ln_end]; exact ⟨Nat.zero_le _, Nat.zero_le _, fun h => absurd rfl h⟩) (fun i l hi hb ih => by rw [ln_blank hi hb]; exact ih) (fun i l hi hb hk => by rw [ln_bad hi hb hk]; exact ⟨by show 2 ≤ 4; decide, (tk_le s i hi).2.1, fun _ => rfl⟩)
    (fun i l hi hb hk ih => by rw [ln_tok hi hb hk]; exact ih) s.size i l hi (by omega)
theorem line_fault (s : ByteArray) : (lineP s).2.1 ≤ 4 ∧ (lineP s).2.2 ≤ 2000 ∧ (lineP s).2.2 ≤ s.size ∧ ((lineP s).2.1 ≠ 0 → (lineP s).1 = []) := by
  unfold lineP
  split
  · exact ⟨Nat.le_refl _, Nat.zero_le _, Nat.zero_le _, fun _ => rfl⟩
  · obtain ⟨h1, h2, h3⟩ := ln_fault (s := s) (i := 0) (l := []) (Nat.zero_le _)
    exact ⟨h1, by omega, h2, h3⟩
/-- An entry's three cells. -/
theorem tok3 {w : World} {B g cap i : Nat} {v : Value} {L : List Tk} {x : Tk} (h : Row w B 32 3 tkV v L) (hv : v = .slice (some ⟨g, 0, none⟩) L.length cap) (hx : L[i]? = some x) :
    w.cell? ⟨g, i * 3, none⟩ = some (.int .i64 (x.k : Int)) ∧ w.cell? ⟨g, i * 3 + 1, none⟩ = some (.string x.t) ∧ w.cell? ⟨g, i * 3 + 2, none⟩ = some (.int .i64 (x.a : Int)) :=
  ⟨h.cell tkV_len hv hx (k := 0) rfl, h.cell tkV_len hv hx (k := 1) rfl, h.cell tkV_len hv hx (k := 2) rfl⟩
theorem drewN_below {w : World} : ∀ n, Below w.heap.size w (w.drewN n)
  | 0 => Below.refl _ _
  | n + 1 => (drewN_below n).drew

set_option maxRecDepth 10000 in
set_option maxHeartbeats 800000 in
theorem same_any (v1 v2 : Value) (L : List Tk) (B1 B2 : Nat) (w : World) (h1 : Row w B1 32 3 tkV v1 L) (h2 : Row w B2 32 3 tkV v2 L) (hS : ∀ x ∈ L, Small x) (hL : L.length ≤ 2000) :
    Calls Tryd.prog 8 #[v1, v2] w fun e w' => e = .returned (.bool true) ∧ Below w.heap.size w w' := by
  cases hc : L with
  | nil =>
    subst hc
    obtain ⟨a1, c1, rfl, -, -⟩ := h1.len
    obtain ⟨a2, c2, rfl, -, -⟩ := h2.len
    clear h1 h2
    go_enter Tryd.func8, Tryd.ntmps8
    go_wp2_with fail
    go_loop [13] (fun x => x = .int .i64 0) (fun _ => 0)
    case atStart => rfl
    case round =>
      subst hrel
      go_wp2_with fail
      go_ret
      exact ⟨rfl, Below.refl _ _⟩
  | cons x0 l0 =>
    have hne : L ≠ [] := by rw [hc]; simp
    obtain ⟨g1, c1, rfl, hc1, -⟩ := h1.form hne
    obtain ⟨g2, c2, rfl, hc2, -⟩ := h2.form hne
    have H1 := hide (And.intro h1 (And.intro h2 hS))
    clear h1 h2 hS hc hne
    go_enter Tryd.func8, Tryd.ntmps8
    go_wp2_with fail
    go_loopw [13] (fun x wr => ∃ k : Nat, k ≤ L.length ∧ x = .int .i64 (k : Int) ∧ Hid (Below w.heap.size w wr)) (fun x _ => L.length - (intOf x).toNat)
    case atStart => exact ⟨0, Nat.zero_le _, rfl, Below.refl _ _⟩
    case round =>
      obtain ⟨k, hk, rfl, HB⟩ := hrel
      rcases Nat.lt_or_ge k L.length with hlt | hge
      · have q1 : (k : Int) < (L.length : Int) := by omega
        have hx : L[k]? = some L[k] := List.getElem?_eq_getElem hlt
        have hsm := (unhide H1).2.2 L[k] (List.getElem_mem hlt)
        have HC1 := hide (fun n => tok3 ((unhide H1).1.later (bnext (unhide HB) (drewN_below n))) rfl hx)
        have HC2 := hide (fun n => tok3 ((unhide H1).2.1.later (bnext (unhide HB) (drewN_below n))) rfl hx)
        have i1 := idx_run Tryd.underlying22 size_tok hlt (g := g1) (cap := c1)
        have i2 := idx_run Tryd.underlying22 size_tok hlt (g := g2) (cap := c2)
        generalize L[k] = x at *
        have heq := eq_tok (x.k : Int) (x.a : Int) x.t (by omega) (by have := hsm.1; omega) (by omega) (by have := hsm.2.1; omega) (by have := hsm.2.2; unfold maxLen; omega)
        have a0 := fun n => (unhide HC1 n).1
        have a1 := fun n => (unhide HC1 n).2.1
        have a2 := fun n => (unhide HC1 n).2.2
        have b0 := fun n => (unhide HC2 n).1
        have b1 := fun n => (unhide HC2 n).2.1
        have b2 := fun n => (unhide HC2 n).2.2
        clear HC1 HC2 hx hsm
        go_wp2_with fail
        go_quiet (fail)
        go_wp2_with fail
        exact ⟨⟨k + 1, by omega, rfl, bnext (unhide HB) (drewN_below _)⟩, by simp [intOf]; omega⟩
      · obtain rfl : k = L.length := by omega
        go_wp2_with fail
        go_ret
        exact ⟨rfl, unhide HB⟩
end Go.Proofs.YtljkendefdhklaaDoor
