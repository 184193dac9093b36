/- What lay does with any pattern; which rule has a name, where there are none. -/
import Derived.Test.YtkggmodabpjobaaDoorScanFillG
namespace Go.Proofs.YtkggmodabpjobaaDoor
open Go.RowKit

def LayPost (rn : ByteArray → Int) (T : PT) (w : World) (B g : Nat) (m : MS) (N : List Nd) (O : List Int) (W : List Wr) (C : List Cr) (G S : List Gft) (e : Ending) (w' : World) : Prop :=
  e = .returned (.int .i64 (N.length : Int)) ∧ ∃ v N', Rep w' B g { m with nv := v } N' O W C G S ∧ Fr g m { m with nv := v } w w' ∧ Lies rn N' T N.length ∧ (∀ i, i < N.length → N'[i]? = N[i]?) ∧ (N'.length = N.length + T.cnt ∧ (∀ {A : Nat}, Fresh A N → Fresh A N'))

set_option maxRecDepth 100000 in
set_option maxHeartbeats 1000000 in
theorem index_none {xa : Option Addr} {cap : Nat} (v : Value) (w : World) : Calls Tryd.prog 40 #[.slice xa 0 cap, v] w fun e w' => e = .returned (.int .i64 (-1)) ∧ w' = w := by
  go_enter Tryd.func40, Tryd.ntmps40
  go_wp2_with fail
  go_loop [8] (fun i => i = .int .i64 0) (fun _ => 0)
  case atStart => rfl
  case round =>
    subst hrel
    go_wp2_with fail
    go_ret
    exact ⟨rfl, rfl⟩
set_option maxRecDepth 100000 in
set_option maxHeartbeats 1000000 in
theorem rule_none {xa : Option Addr} {cap : Nat} (nm : ByteArray) (w : World) : Calls Tryd.prog 26 #[.slice xa 0 cap, .string nm] w fun e w' => e = .returned (.int .i64 (-1)) ∧ Below w.heap.size w w' := by
  go_enter Tryd.func26, Tryd.ntmps26
  go_wp2_with (go_at_call 40; refine (index_none _ _).mono ?_; rintro e w1 ⟨rfl, rfl⟩)
  go_ret
  exact ⟨rfl, (Below.refl _ _).alloc (Nat.le_refl _) _⟩
theorem rn_none {xa : Option Addr} {cap : Nat} (Wd : World) : RN (fun _ => -1) (.slice xa 0 cap) Wd := fun W _ nm _ => rule_none nm W

set_option maxRecDepth 100000 in
set_option maxHeartbeats 4000000 in
theorem lay_anyG (rn : ByteArray → Int) (T : PT) {Wd w : World} {B g : Nat} {m : MS} {N : List Nd} {O : List Int} {W : List Wr} {C : List Cr} {G S : List Gft} (hT : T.In Wd) (hbel : Below Wd.heap.size Wd w) (hWB : Wd.heap.size ≤ B) (h : Rep w B g m N O W C G S) (hcn : N.length + T.cnt ≤ 800000) (hBare : NZ T) (hRN : RN rn m.rv Wd) :
    Calls Tryd.prog 19 #[.pointer (some ⟨g, 0, none⟩), pv T] w fun e w' => LayPost rn T w B g m N O W C G S e w' := by
  unfold pv
  have hgl := h.lt
  have hgz : ¬ g = w.heap.size := by omega
  have hzg : ¬ w.heap.size = g := by omega
  have hcp := T.cnt_pos
  obtain ⟨na, nc, hnv, -, -⟩ := h.nodes.len
  have c2 := h.c2
  rw [hnv] at c2
  have hb1 : Below w.heap.size w ((w.alloc (.cells #[.int .i64 T.k, .string T.t, .int .i64 T.n, .string T.nm, .slice T.xa T.len T.cap] 24)).alloc (.cells #[.int .i64 0, .string ⟨#[]⟩, .int .i64 0, .string ⟨#[]⟩, .int .i64 0, .int .i64 0, .int .i64 0, .pointer none, .int .i64 0, .int .i64 0] 71)) := ((Below.refl _ _).alloc (Nat.le_refl _) _).alloc (by simp) _
  have HRow := hide (show Row ((w.alloc (.cells #[.int .i64 T.k, .string T.t, .int .i64 T.n, .string T.nm, .slice T.xa T.len T.cap] 24)).alloc (.cells #[.int .i64 0, .string ⟨#[]⟩, .int .i64 0, .string ⟨#[]⟩, .int .i64 0, .int .i64 0, .int .i64 0, .pointer none, .int .i64 0, .int .i64 0] 71)) B 71 10 ndV (.slice na N.length nc) N from (show Row w B 71 10 ndV (.slice na N.length nc) N from by rw [← hnv]; exact h.nodes).later hb1)
  have hne : some g ≠ (Value.slice na N.length nc).ownBlock := by rw [← hnv]; exact h.nodes.neBlk h.blk (by decide)
  have hbx : ((w.alloc (.cells #[.int .i64 T.k, .string T.t, .int .i64 T.n, .string T.nm, .slice T.xa T.len T.cap] 24)).alloc (.cells #[.int .i64 0, .string ⟨#[]⟩, .int .i64 0, .string ⟨#[]⟩, .int .i64 0, .int .i64 0, .int .i64 0, .pointer none, .int .i64 0, .int .i64 0] 71)).heap[w.heap.size]? = some (.cells #[.int .i64 T.k, .string T.t, .int .i64 T.n, .string T.nm, .slice T.xa T.len T.cap] 24 (0, 0)) := at_old (by simp) (at_new rfl)
  have HR := hide h
  have HI := hide (And.intro hT (And.intro hbel (And.intro (And.intro hBare hRN) (And.intro hb1 (And.intro hbx hnv)))))
  have hB1 : B ≤ ((w.alloc (.cells #[.int .i64 T.k, .string T.t, .int .i64 T.n, .string T.nm, .slice T.xa T.len T.cap] 24)).alloc (.cells #[.int .i64 0, .string ⟨#[]⟩, .int .i64 0, .string ⟨#[]⟩, .int .i64 0, .int .i64 0, .int .i64 0, .pointer none, .int .i64 0, .int .i64 0] 71)).heap.size := Nat.le_trans h.base hb1.size
  have hc2' := cell_later hb1 c2
  have hblk1 := hide (row_below h.blk hb1)
  clear h hT hbel hBare hRN hb1 hbx hnv
  go_enter Tryd.func19, Tryd.ntmps19
  go_wp2_with (refine wpList_row Tryd.underlying49 info_node rfl (by decide) (by decide) ndV_len ndV_one rfl (.tmp 15) (.tmp 17) rfl (B := B) (v := .slice na N.length nc) (l := N) (unhide HRow) hB1 nd0 (w.heap.size + 1) 1 (by simp [Act.eval]) (by simp [Act.eval]) (made_cells (at_new (w := w.alloc (.cells #[.int .i64 T.k, .string T.t, .int .i64 T.n, .string T.nm, .slice T.xa T.len T.cap] 24)) (by simp)) rfl) (by omega) ?_; intro v' w9 hr9 hg9 hv9; obtain ⟨gn, gcap, hv', hcl, -⟩ := hr9.form (by simp); rw [List.length_append, List.length_singleton] at hv'; subst hv'; have d2 := hg9.cell hc2' hne; have e2 : w9.frozen? ⟨g, 2, none⟩ = false := frozen_of_row w9 g 2 _ _ (grown_blk (unhide hblk1) (fun j hj => (unhide HRow).type hj) (by decide) hg9); have hbx9 := grown_blk (unhide HI).2.2.2.2.1 (fun j hj => (unhide HRow).type hj) (by decide) hg9; have z0 : w9.cell? ⟨w.heap.size, 0, none⟩ = some (.int .i64 T.k) := (by rw [cell_of_row _ _ _ _ _ _ hbx9]; rfl); have z1 : w9.cell? ⟨w.heap.size, 1, none⟩ = some (.string T.t) := (by rw [cell_of_row _ _ _ _ _ _ hbx9]; rfl); have z2 : w9.cell? ⟨w.heap.size, 2, none⟩ = some (.int .i64 T.n) := (by rw [cell_of_row _ _ _ _ _ _ hbx9]; rfl); have z3 : w9.cell? ⟨w.heap.size, 3, none⟩ = some (.string T.nm) := (by rw [cell_of_row _ _ _ _ _ _ hbx9]; rfl); have z4 : w9.cell? ⟨w.heap.size, 4, none⟩ = some (.slice T.xa T.len T.cap) := (by rw [cell_of_row _ _ _ _ _ _ hbx9]; rfl); have H9 := hide (And.intro hr9 (And.intro hg9 hv9)); clear hr9 hg9 hv9 hbx9)
  obtain ⟨hT, hbel, hBare, hb1, -, hnv⟩ := unhide HI
  obtain ⟨hr9, hg9, hv9⟩ := unhide H9
  rw [← hnv] at hg9 hv9
  have r2 := ((unhide HR).later hb1).grownN hg9 hr9
  have f2 := (Fr.later (g := g) (m := m) hb1).trans (Fr.growN hg9 hv9)
  have HC := hide (fill_anyG rn T Wd _ B g _ _ O W C G S N.length hT (hbel.trans ((Fr.below (unhide HR) f2).mono hWB)) hWB r2 (by simp) (by simp; omega) hBare.1 hBare.2)
  unfold pv at HC
  have HF2 := hide f2
  clear r2 f2 hr9 hg9 hv9 hT hbel hBare hb1 hnv
  refine (unhide HC).mono ?_
  rintro e w6 ⟨rfl, v6, N6, r6, f6, l6, o6, n6⟩
  have H6 := hide (And.intro r6 (And.intro f6 (And.intro l6 (And.intro o6 n6))))
  clear r6 f6 l6 o6 n6 HC
  go_wp2_with fail
  go_ret
  obtain ⟨r6, f6, l6, o6, n6⟩ := unhide H6
  refine ⟨rfl, v6, N6, r6, (unhide HF2).trans f6, l6, fun i hi => ?_, ?_, fun hfr => o6.2 (hfr.zeros 1)⟩
  · rw [o6.1 i (by simp; omega) (by omega), List.getElem?_append_left hi]
  · simp at n6; omega
end Go.Proofs.YtkggmodabpjobaaDoor
