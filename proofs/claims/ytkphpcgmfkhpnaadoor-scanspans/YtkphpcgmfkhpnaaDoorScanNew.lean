/- What newMachine makes, where there are no rules and the pattern bears no name. -/
import Derived.Test.YtkphpcgmfkhpnaaDoorScanLay
import Derived.Test.YtkphpcgmfkhpnaaDoorClone4
import Derived.Deep.RegionWith
import Derived.Deep.OwnRows
namespace Go.Proofs.YtkphpcgmfkhpnaaDoor
open Go.RowKit

theorem info_int : (Tryd.prog.info? 3).map (fun i => (i.zero, i.size, i.bytes)) = some (some (.int .i64 0), 1, 8) := by kernel_rfl
theorem make_none (W : World) : (Instr.makeSlice 53 (.int .i64 0) (.int .i64 0)).run Tryd.prog W = .ok (.slice (some ⟨W.heap.size, 0, none⟩) 0 0) (W.alloc (.cells #[] 3)) := by
  have := run_make_row' (P := Tryd.prog) 53 3 (.int .i64 0) 8 Tryd.underlying53 info_int rfl .i64 .i64 0 (by decide) (by decide) W
  rw [show madeCells #[Value.int .i64 0] 0 = #[] by simp [madeCells]] at this
  exact this

/-- The machine as it is made. -/
def msNew (s : ByteArray) (rg fuel room : Nat) : MS := ⟨s, .slice none 0 0, .slice none 0 0, 0, .slice (some ⟨rg, 0, none⟩) 0 0, false, 0, 0, 0, .slice none 0 0, .slice none 0 0, .slice none 0 0, .slice none 0 0, 0, room, fuel, 0, false, 0⟩
theorem rep_new {w : World} {B g rg : Nat} {s : ByteArray} {fuel room : Nat} (hg : w.heap[g]? = some (.cells (msNew s rg fuel room).row 57 (0, 0))) (hr : w.heap[rg]? = some (.cells #[] 3 (0, 0))) (h1 : B ≤ g) (h2 : B ≤ rg) : Rep w B g (msNew s rg fuel room) [] [] [] [] [] [] :=
  ⟨h1, hg, World.ownsRow_nil w B _ 10, ⟨rfl, .inr ⟨rg, 0, #[], rfl, h2, hr, Nat.le_refl _, Nat.zero_le _, rfl, rfl⟩⟩, World.ownsRow_nil w B _ 4, World.ownsRow_nil w B _ 6, World.ownsRow_nil w B _ 2, World.ownsRow_nil w B _ 2, (fun k hk => by cases hk), by have := (Array.getElem?_eq_some_iff.1 hg).1; omega⟩

set_option maxRecDepth 100000 in
set_option maxHeartbeats 4000000 in
theorem new_none (rn : ByteArray → Int) (T : PT) (s : ByteArray) (fuel room : Nat) (w : World) (hT : T.In w) (hs : s.size ≤ 65536) (hcn : T.cnt ≤ 100000) (hBare : Bare T) :
    Calls Tryd.prog 16 #[.slice none 0 0, pv T, .string s, .int .i64 (fuel : Int), .int .i64 (room : Int)] w fun e w' => ∃ g m N, e = .returned (.pointer (some ⟨g, 0, none⟩)) ∧ Rep w' w.heap.size g m N [] [] [] [] [] ∧ m.s = s ∧ m.fuel = fuel ∧ m.room = room ∧ m.ticks = 0 ∧ m.told = 0 ∧ m.shut = false ∧ m.err = 0 ∧ m.begun = false ∧ m.root = 0 ∧ Lies rn N T 0 ∧ Fresh N ∧ Below w.heap.size w w' := by
  unfold pv
  have HI := hide (And.intro hT hBare)
  have hmk := make_none
  have HCl := hide (fun W => clone_any s W (by omega))
  clear hT hBare
  go_enter Tryd.func16, Tryd.ntmps16
  go_wp2_with fail
  go_region_with (first | (go_at_call 24; refine (unhide HCl _).mono ?_; rintro e w1 ⟨rfl, hb1⟩))
  · have hba : Below w.heap.size w (w.alloc (.cells #[.int .i64 T.k, .string T.t, .int .i64 T.n, .string T.nm, .slice T.xa T.len T.cap] 26)).drew := ((Below.refl _ _).alloc (Nat.le_refl _) _).drew
    have hsz := hb1.size
    simp only [World.size_drew, World.size_alloc] at hsz
    obtain ⟨w2, hw2⟩ : ∃ w2, w2 = (w1.alloc (.cells #[] 3)).alloc (.cells #[.string s, .slice none 0 0, .slice none 0 0, .int .i64 0, .slice (some ⟨w1.heap.size, 0, none⟩) 0 0, .bool false, .int .i64 0, .int .i64 0, .int .i64 0, .slice none 0 0, .slice none 0 0, .slice none 0 0, .slice none 0 0, .int .i64 0, .int .i64 (room : Int), .int .i64 (fuel : Int), .int .i64 0, .bool false, .int .i64 0] 57) := ⟨_, rfl⟩
    have hb2 : Below w1.heap.size w1 w2 := by rw [hw2]; exact ((Below.refl _ _).alloc (Nat.le_refl _) _).alloc (by simp) _
    have hbel : Below w.heap.size w w2 := bnext (bnext hba hb1) hb2
    have hgr : w2.heap[w1.heap.size + 1]? = some (.cells (msNew s w1.heap.size fuel room).row 57 (0, 0)) := by rw [hw2]; exact at_new (by simp)
    have hrr : w2.heap[w1.heap.size]? = some (.cells #[] 3 (0, 0)) := by rw [hw2]; exact at_old (by simp) (at_new rfl)
    have hbx : w2.heap[w.heap.size]? = some (.cells #[.int .i64 T.k, .string T.t, .int .i64 T.n, .string T.nm, .slice T.xa T.len T.cap] 26 (0, 0)) := row_below (row_below (W := (w.alloc (.cells #[.int .i64 T.k, .string T.t, .int .i64 T.n, .string T.nm, .slice T.xa T.len T.cap] 26)).drew) (at_new (w := w) rfl) hb1) hb2
    clear hba hb2
    rw [← hw2]
    obtain ⟨g, hg⟩ : ∃ g, g = w1.heap.size + 1 := ⟨_, rfl⟩
    rw [← hg] at hgr
    have r2 := rep_new (B := w.heap.size) hgr hrr (by omega) (by omega)
    have c4 : w2.cell? ⟨g, 4, none⟩ = some (.slice (some ⟨w1.heap.size, 0, none⟩) 0 0) := r2.c4
    have c3 : w2.cell? ⟨g, 3, none⟩ = some (.int .i64 0) := r2.c3
    have z0 : w2.cell? ⟨w.heap.size, 0, none⟩ = some (.int .i64 T.k) := by rw [cell_of_row _ _ _ _ _ _ hbx]; rfl
    have z1 : w2.cell? ⟨w.heap.size, 1, none⟩ = some (.string T.t) := by rw [cell_of_row _ _ _ _ _ _ hbx]; rfl
    have z2 : w2.cell? ⟨w.heap.size, 2, none⟩ = some (.int .i64 T.n) := by rw [cell_of_row _ _ _ _ _ _ hbx]; rfl
    have z3 : w2.cell? ⟨w.heap.size, 3, none⟩ = some (.string T.nm) := by rw [cell_of_row _ _ _ _ _ _ hbx]; rfl
    have z4 : w2.cell? ⟨w.heap.size, 4, none⟩ = some (.slice T.xa T.len T.cap) := by rw [cell_of_row _ _ _ _ _ _ hbx]; rfl
    have HC := hide (lay_any rn T (unhide HI).1 hbel (Nat.le_refl _) r2 (by simp; omega) (unhide HI).2)
    unfold pv at HC
    have HB := hide hbel
    have HR2 := hide r2
    rw [← hg]
    clear hgr hrr hbx hbel r2 hw2 hb1 HI HCl hmk hg
    go_wp2_with fail
    go_loop [28] (fun i => i = .int .i64 0) (fun _ => 0)
    case atStart => rfl
    case round =>
      subst hrel
      go_wp2_with fail
      refine (unhide HC).mono ?_
      rintro e w6 ⟨rfl, v, N6, r6, f6, l6, o6, n6⟩
      have d3 := r6.c3
      have e3 := r6.frozen 3
      have H6 := hide (And.intro r6 (And.intro f6 (And.intro l6 (n6.2 (fun i x hx => by simp at hx)))))
      clear r6 f6 l6 o6 n6 HC
      go_wp2_with fail
      go_ret
      obtain ⟨r6, f6, l6, fr6⟩ := unhide H6
      refine ⟨g, _, N6, rfl, r6.put 3 _ { msNew s _ fuel room with nv := v, root := 0 } rfl rfl rfl rfl rfl rfl rfl, rfl, rfl, rfl, rfl, rfl, rfl, rfl, rfl, rfl, l6, fr6, ?_⟩
      exact below_cell (((unhide HB).trans (Fr.below (unhide HR2) f6))) (unhide HR2).low _ _
  · have hba : Below w.heap.size w ((w.alloc (.cells #[.int .i64 T.k, .string T.t, .int .i64 T.n, .string T.nm, .slice T.xa T.len T.cap] 26)).alloc (.cells #[] 3)).drew := (((Below.refl _ _).alloc (Nat.le_refl _) _).alloc (by simp) _).drew
    have hsz := hb1.size
    simp only [World.size_drew, World.size_alloc] at hsz
    obtain ⟨w2, hw2⟩ : ∃ w2, w2 = w1.alloc (.cells #[.string s, .slice none 0 0, .slice none 0 0, .int .i64 0, .slice (some ⟨w.heap.size + 1, 0, none⟩) 0 0, .bool false, .int .i64 0, .int .i64 0, .int .i64 0, .slice none 0 0, .slice none 0 0, .slice none 0 0, .slice none 0 0, .int .i64 0, .int .i64 (room : Int), .int .i64 (fuel : Int), .int .i64 0, .bool false, .int .i64 0] 57) := ⟨_, rfl⟩
    have hb2 : Below w1.heap.size w1 w2 := by rw [hw2]; exact (Below.refl _ _).alloc (Nat.le_refl _) _
    have hbel : Below w.heap.size w w2 := bnext (bnext hba hb1) hb2
    have hgr : w2.heap[w1.heap.size]? = some (.cells (msNew s (w.heap.size + 1) fuel room).row 57 (0, 0)) := by rw [hw2]; exact at_new rfl
    have hrr : w2.heap[w.heap.size + 1]? = some (.cells #[] 3 (0, 0)) := row_below (row_below (W := ((w.alloc (.cells #[.int .i64 T.k, .string T.t, .int .i64 T.n, .string T.nm, .slice T.xa T.len T.cap] 26)).alloc (.cells #[] 3)).drew) (at_new (w := w.alloc (.cells #[.int .i64 T.k, .string T.t, .int .i64 T.n, .string T.nm, .slice T.xa T.len T.cap] 26)) (by simp)) hb1) hb2
    have hbx : w2.heap[w.heap.size]? = some (.cells #[.int .i64 T.k, .string T.t, .int .i64 T.n, .string T.nm, .slice T.xa T.len T.cap] 26 (0, 0)) := row_below (row_below (W := ((w.alloc (.cells #[.int .i64 T.k, .string T.t, .int .i64 T.n, .string T.nm, .slice T.xa T.len T.cap] 26)).alloc (.cells #[] 3)).drew) (at_old (by simp) (at_new (w := w) rfl)) hb1) hb2
    clear hba hb2
    rw [← hw2]
    obtain ⟨g, hg⟩ : ∃ g, g = w1.heap.size := ⟨_, rfl⟩
    rw [← hg] at hgr
    have r2 := rep_new (B := w.heap.size) hgr hrr (by omega) (by omega)
    have c4 : w2.cell? ⟨g, 4, none⟩ = some (.slice (some ⟨w.heap.size + 1, 0, none⟩) 0 0) := r2.c4
    have c3 : w2.cell? ⟨g, 3, none⟩ = some (.int .i64 0) := r2.c3
    have z0 : w2.cell? ⟨w.heap.size, 0, none⟩ = some (.int .i64 T.k) := by rw [cell_of_row _ _ _ _ _ _ hbx]; rfl
    have z1 : w2.cell? ⟨w.heap.size, 1, none⟩ = some (.string T.t) := by rw [cell_of_row _ _ _ _ _ _ hbx]; rfl
    have z2 : w2.cell? ⟨w.heap.size, 2, none⟩ = some (.int .i64 T.n) := by rw [cell_of_row _ _ _ _ _ _ hbx]; rfl
    have z3 : w2.cell? ⟨w.heap.size, 3, none⟩ = some (.string T.nm) := by rw [cell_of_row _ _ _ _ _ _ hbx]; rfl
    have z4 : w2.cell? ⟨w.heap.size, 4, none⟩ = some (.slice T.xa T.len T.cap) := by rw [cell_of_row _ _ _ _ _ _ hbx]; rfl
    have HC := hide (lay_any rn T (unhide HI).1 hbel (Nat.le_refl _) r2 (by simp; omega) (unhide HI).2)
    unfold pv at HC
    have HB := hide hbel
    have HR2 := hide r2
    rw [← hg]
    clear hgr hrr hbx hbel r2 hw2 hb1 HI HCl hmk hg
    go_wp2_with fail
    go_loop [28] (fun i => i = .int .i64 0) (fun _ => 0)
    case atStart => rfl
    case round =>
      subst hrel
      go_wp2_with fail
      refine (unhide HC).mono ?_
      rintro e w6 ⟨rfl, v, N6, r6, f6, l6, o6, n6⟩
      have d3 := r6.c3
      have e3 := r6.frozen 3
      have H6 := hide (And.intro r6 (And.intro f6 (And.intro l6 (n6.2 (fun i x hx => by simp at hx)))))
      clear r6 f6 l6 o6 n6 HC
      go_wp2_with fail
      go_ret
      obtain ⟨r6, f6, l6, fr6⟩ := unhide H6
      refine ⟨g, _, N6, rfl, r6.put 3 _ { msNew s _ fuel room with nv := v, root := 0 } rfl rfl rfl rfl rfl rfl rfl, rfl, rfl, rfl, rfl, rfl, rfl, rfl, rfl, rfl, l6, fr6, ?_⟩
      exact below_cell (((unhide HB).trans (Fr.below (unhide HR2) f6))) (unhide HR2).low _ _
end Go.Proofs.YtkphpcgmfkhpnaaDoor
