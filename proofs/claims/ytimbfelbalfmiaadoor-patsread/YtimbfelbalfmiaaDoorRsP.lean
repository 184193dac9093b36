/- PatsRead: what is read is what the document reads. -/
import Derived.Test.YtimbfelbalfmiaaDoorRsM
import Derived.Test.YtimbfelbalfmiaaDoorRsO
import Derived.Test.YtimbfelbalfmiaaDoorRtSame
import Derived.DeepKeys
namespace Go.Proofs.YtimbfelbalfmiaaDoor
open Go.RowKit

theorem wf_i64 (n : Int) (h0 : 0 ≤ n) (h : n ≤ 4294967296) : (Lit.int .i64 n).wf = true := by
  simp [Lit.wf, IntKind.min, IntKind.max, IntKind.signed, IntKind.bits]
  omega
theorem cells_fau : Tryd.prog.cellsOf 27 = 2 := by kernel_rfl
theorem cells_int : Tryd.prog.cellsOf 3 = 1 := by kernel_rfl
theorem cells_err : Tryd.prog.cellsOf 25 = 1 := by kernel_rfl
theorem key_fau : Tryd.prog.keyTypeAt 3 27 = true := by kernel_rfl
theorem lits_int (n : Int) (h0 : 0 ≤ n) (h : n ≤ 4294967296) : Tryd.prog.keyLits 1 3 [.int .i64 n] = some [.int .i64 n] := by
  unfold Program.keyLits
  rw [Tryd.underlying3]
  simp [wf_i64 n h0 h]
theorem lits_err (n : Int) (h0 : 0 ≤ n) (h : n ≤ 4294967296) : Tryd.prog.keyLits 1 25 [.int .i64 n] = some [.int .i64 n] := by
  unfold Program.keyLits
  rw [Tryd.underlying25]
  simp [wf_i64 n h0 h]
theorem lits_fau (x y : Int) (h0 : 0 ≤ x) (h : x ≤ 4294967296) (h1 : 0 ≤ y) (h2 : y ≤ 4294967296) : ∃ la, Tryd.prog.keyLits 2 27 (Value.agg #[.int .i64 x, .int .i64 y]).cells.toList = some la := by
  have e0 := lits_err x h0 h
  have e1 := lits_int y h1 h2
  unfold Program.keyLits
  rw [Tryd.underlying27]
  simp only [Value.cells, cells_fau, List.length_cons, List.length_nil]
  simp [cells_int, cells_err, e0, e1]
theorem eq_fau (x y : Int) (h0 : 0 ≤ x) (h : x ≤ 4294967296) (h1 : 0 ≤ y) (h2 : y ≤ 4294967296) (w : World) : (Op.equalIn 10000 27 (.agg #[.int .i64 x, .int .i64 y]) (.agg #[.int .i64 x, .int .i64 y])).run Tryd.prog w = .ok true w := by
  obtain ⟨la, hk⟩ := lits_fau x y h0 h h1 h2
  have hf : (Value.agg #[.int .i64 x, .int .i64 y]).formed Tryd.prog 27 = true := by simp [Value.formed, Tryd.underlying27, cells_fau]
  obtain ⟨r, q1, q2⟩ := run_equalIn_deep (P := Tryd.prog) 9997 3 27 key_fau w 2 2 _ _ la la hf hf hk hk
  rw [q1, q2.2 rfl]
theorem rdP_eb {s : ByteArray} {er : Int} {a : Nat} (h : rdP s = .error (er, a)) : 0 ≤ er ∧ er ≤ 8 ∧ a ≤ 65537 := by
  by_cases hs : 65536 < s.size
  · rw [big_err hs] at h
    injection h with h; injection h with h1 h2
    omega
  · rw [rdP_small hs] at h
    rcases bnd_bad h with h | ⟨p, j, h1, h⟩
    · have := rdA_eb h
      omega
    · split at h
      · cases h
      · injection h with h; injection h with h1 h2
        omega
theorem zero_in (w : World) : (mkP 0 ⟨#[]⟩ 0 ⟨#[]⟩ []).In w := (leaf_lies (B := 0) (w := w) (by omega) (by omega) (by decide) (by decide)).here
/-- What any reading of a text answers. -/
theorem read_one (s : ByteArray) : ∃ (q : PT) (er : Int) (a : Nat), (0 ≤ er ∧ er ≤ 8 ∧ a ≤ 65537) ∧ ∀ w e w', ReadPost s w e w' → Below w.heap.size w w' ∧ ∃ A : PT, e = .returned (.tuple #[pv A, fauV er a]) ∧ A.can = q ∧ A.In w' := by
  cases hr : rdP s with
  | ok v =>
    obtain ⟨p, j⟩ := v
    refine ⟨p, 0, 0, by omega, fun w e w' h => ⟨h.1, ?_⟩⟩
    obtain ⟨A, k1, k2, k3⟩ := h.2.1 p j hr
    exact ⟨A, k1, k2, k3.here⟩
  | error v =>
    obtain ⟨er, a⟩ := v
    exact ⟨(mkP 0 ⟨#[]⟩ 0 ⟨#[]⟩ []).can, er, a, rdP_eb hr, fun w e w' h => ⟨h.1, mkP 0 ⟨#[]⟩ 0 ⟨#[]⟩ [], h.2.2 er a hr, rfl, zero_in _⟩⟩
set_option maxRecDepth 100000 in
set_option maxHeartbeats 8000000 in
theorem patsRead_walk (tx : ByteArray) (w : World) (hS : Shapes w) :
    Calls Tryd.prog 3 #[.string tx] w fun e w' => e = .returned (.bool true) ∧ Below w.heap.size w w' := by
  obtain ⟨q, er, a, hsm, hone⟩ := read_one tx
  have HR1 := hide ((read_any tx w hS).mono fun e w' h => hone w e w' h)
  have HR2 := hide (fun w => (refRead_any tx w).mono fun e w' h => hone w e w' h)
  have heq := eq_fau er (a : Int) (by omega) (by omega) (by omega) (by omega)
  clear hS hone hsm
  go_enter Tryd.func3, Tryd.ntmps3
  go_wp2_with fail
  refine (unhide HR1).mono ?_
  rintro e1 w1 ⟨hb1, A, rfl, hAc, hAi⟩
  have hb2 : Below w1.heap.size w1 ((w1.alloc (.cells (patO A) 24)).alloc (.cells #[.int .i64 er, .int .i64 (a : Int)] 27)) := ((Below.refl _ _).alloc (Nat.le_refl _) _).alloc (by simp) _
  obtain ⟨w2, hw2⟩ : ∃ w2, w2 = (w1.alloc (.cells (patO A) 24)).alloc (.cells #[.int .i64 er, .int .i64 (a : Int)] 27) := ⟨_, rfl⟩
  rw [← hw2] at hb2
  have HPA := hide (show w2.heap[w1.heap.size]? = some (.cells (patO A) 24 (0, 0)) by rw [hw2]; exact two_first rfl)
  have HFA := hide (show w2.heap[w1.heap.size + 1]? = some (.cells #[.int .i64 er, .int .i64 (a : Int)] 27 (0, 0)) by rw [hw2]; exact at_new (by simp))
  have HB2 := hide (bnext hb1 hb2)
  have HA2 := hide (PT.In.later hb2 hAi)
  have HAC := hide hAc
  have hsz2 : w2.heap.size = w1.heap.size + 2 := by rw [hw2]; simp
  have HW2 := hide hw2
  clear hb1 hb2 hw2 hAi hAc
  unfold pv fauV
  go_wp2_with fail
  rw [show (w1.alloc (.cells #[.int .i64 A.k, .string A.t, .int .i64 A.n, .string A.nm, .slice A.xa A.len A.cap] 24)).alloc (.cells #[.int .i64 er, .int .i64 (a : Int)] 27) = w2 from (unhide HW2).symm]
  refine (unhide HR2 w2).mono ?_
  rintro e1 w3 ⟨hb3, B, rfl, hBc, hBi⟩
  obtain ⟨w4, hw4⟩ : ∃ w4, w4 = (w3.alloc (.cells (patO B) 24)).alloc (.cells #[.int .i64 er, .int .i64 (a : Int)] 27) := ⟨_, rfl⟩
  have hb4 : Below w3.heap.size w3 w4 := by rw [hw4]; exact ((Below.refl _ _).alloc (Nat.le_refl _) _).alloc (by simp) _
  have hpa := row_below (unhide HPA) hb3
  have hfa := row_below (unhide HFA) hb3
  have hs3 := hb3.size
  have hl1 : w1.heap.size < w3.heap.size := by omega
  have hl2 : w1.heap.size + 1 < w3.heap.size := by omega
  obtain ⟨a0, a1, a2, a3, a4⟩ := pats5s hpa
  obtain ⟨f0, f1⟩ := fault2 hfa
  have HSM := hide (same_can A B w4 (PT.In.later hb4 (PT.In.later hb3 (unhide HA2))) (PT.In.later hb4 hBi) ((unhide HAC).trans hBc.symm))
  have HB4 := hide (bnext (bnext (unhide HB2) hb3) hb4)
  have HF4 := hide (row_below hfa hb4)
  have HG4 := hide (show w4.heap[w3.heap.size + 1]? = some (.cells #[.int .i64 er, .int .i64 (a : Int)] 27 (0, 0)) by rw [hw4]; exact at_new (by simp))
  have HW4 := hide hw4
  clear hb3 hb4 hw4 hBi hBc hpa hfa
  unfold pv at HSM ⊢
  unfold fauV
  go_wp2_with fail
  rw [show (w3.alloc (.cells #[.int .i64 B.k, .string B.t, .int .i64 B.n, .string B.nm, .slice B.xa B.len B.cap] 24)).alloc (.cells #[.int .i64 er, .int .i64 (a : Int)] 27) = w4 from (unhide HW4).symm]
  refine (unhide HSM).mono ?_
  rintro e w5 ⟨rfl, hb5⟩
  obtain ⟨h0, h1⟩ := fault2 (row_below (unhide HF4) hb5)
  obtain ⟨h2, h3⟩ := fault2 (row_below (unhide HG4) hb5)
  have HB5 := hide (bnext (unhide HB4) hb5)
  clear hb5 a0 a1 a2 a3 a4 f0 f1
  go_wp2_with fail
  go_ret
  exact ⟨rfl, unhide HB5⟩
end Go.Proofs.YtimbfelbalfmiaaDoor
