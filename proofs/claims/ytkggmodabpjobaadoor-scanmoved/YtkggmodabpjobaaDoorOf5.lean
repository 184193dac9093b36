/- What sets.Of does: the set of the bytes that stand in a text. -/
import Derived.Test.YtkggmodabpjobaaDoorHas5
import Derived.Deep.RegionHeld3
import Derived.Deep.RegionWith
import Derived.Outline
namespace Go.Proofs.YtkggmodabpjobaaDoor
open Go.RowKit

/-- The bytes that stand among the first k of a text. -/
def inT (t : ByteArray) : Nat → Nat → Bool
  | 0, _ => false
  | k + 1, c => inT t k c || c == (t.data.toList.getD k 0).toNat
theorem getD_at (f : ByteArray) (k : Nat) (h : k < f.size) : f[k] = f.data.toList.getD k 0 := by
  rw [List.getD_eq_getElem?_getD, List.getElem?_eq_getElem (by simpa using h)]
  rfl

theorem run_storeCells_row (w : World) (g : Nat) (t ty : TypeId) (c c' : Array Value) (hg : w.heap[g]? = some (.cells c t (0, 0))) (hi : (Tryd.prog.info? ty).map (·.size) = some c'.size) (ho : c.size = c'.size) (h1 : c'.all (·.oneCell') = true) :
    (storeCells ⟨g, 0, none⟩ c'.toList 0).run Tryd.prog w = .ok () (w.setRow g c') := by
  have := run_storeVar_row (P := Tryd.prog) w g t ty c c' hg hi ho h1
  cases hq : Tryd.prog.info? ty with
  | none => simp [hq] at hi
  | some i =>
    have hs : c'.size = i.size := by simp [hq] at hi; omega
    simpa [storeVar, sizeOf, typeInfo, hq, Value.cells, hs] using this

set_option maxRecDepth 100000 in
set_option maxHeartbeats 1000000 in
theorem of_any (t : ByteArray) (w : World) (ht : t.size ≤ maxLen) :
    Calls Tryd.prog 49 #[.string t] w fun e w' => e = .returned (sv (inT t t.size)) ∧ Below w.heap.size w w' := by
  unfold maxLen at ht
  unfold sv
  have hz : (#[.int .u64 0, .int .u64 0, .int .u64 0, .int .u64 0] : Array Value) = sc (inT t 0) := zerosS_eq
  go_enter Tryd.func49, Tryd.ntmps49
  go_wp2
  go_loopw [7] (fun i wr => ∃ k : Nat, k ≤ t.size ∧ i = .int .i64 k ∧ wr.heap[w.heap.size]? = some (.cells (sc (inT t 0)) 106 (0, 0)) ∧ wr.heap[w.heap.size + 1]? = some (.cells (sc (inT t k)) 106 (0, 0)) ∧ Below w.heap.size w wr) (fun i _ => t.size - (intOf i).toNat)
  case atStart => exact ⟨0, by omega, rfl, at_old (by simp only [World.size_alloc]; omega) (at_new rfl), at_new (by simp only [World.size_alloc]), ((Below.refl _ _).alloc (Nat.le_refl _) _).alloc (by simp only [World.size_alloc]; omega) _⟩
  case round =>
    obtain ⟨k, hk, rfl, hg0, hg1, hb⟩ := hrel
    by_cases hlt : k < t.size
    · have h1 : (k : Int) < (t.size : Int) := by omega
      have hst : (sc fun c => inT t k c || c == (t[k]).toNat) = sc (inT t (k + 1)) := by rw [getD_at t k hlt]; rfl
      have C1 := hide (fun W => with_any (inT t k) (t[k]).toNat (UInt8.toNat_lt _) W)
      unfold sv at C1
      rw [hst] at C1
      have hcs := sc_size (inT t k)
      have hds := sc_size (inT t (k + 1))
      have hd1 := sc_one (inT t (k + 1))
      have hi4 := size_set
      have hi5 := size_set
      rw [← hcs] at hi4
      rw [← hds] at hi5
      have G0 := hide hg0
      have hx256 := UInt8.toNat_lt t[k]
      have c0 : wr.cell? ⟨w.heap.size + 1, 0, none⟩ = some (.int .u64 (wd (inT t k) 0 : Int)) := by rw [cell_of_row wr _ _ _ _ _ hg1]; rfl
      have c1 : wr.cell? ⟨w.heap.size + 1, 1, none⟩ = some (.int .u64 (wd (inT t k) 1 : Int)) := by rw [cell_of_row wr _ _ _ _ _ hg1]; rfl
      have c2 : wr.cell? ⟨w.heap.size + 1, 2, none⟩ = some (.int .u64 (wd (inT t k) 2 : Int)) := by rw [cell_of_row wr _ _ _ _ _ hg1]; rfl
      have c3 : wr.cell? ⟨w.heap.size + 1, 3, none⟩ = some (.int .u64 (wd (inT t k) 3 : Int)) := by rw [cell_of_row wr _ _ _ _ _ hg1]; rfl
      have G1 := hide hg1
      have HST := hide hst
      have HI5 := hide hi5
      have HD1 := hide hd1
      have HSZ := hide (hcs.trans hds.symm)
      clear hst hg0 hg1 hcs hds hd1 hi4 hi5
      go_wp2
      go_region_with (first
        | (go_at_call 55; refine (unhide C1 _).mono ?_; rintro e w1 ⟨rfl, hb1⟩; have hq := run_storeCells_row w1 (w.heap.size + 1) 106 106 _ _ (row_below (W := wr.drew) (unhide G1) hb1) (unhide HI5) (unhide HSZ) (unhide HD1)))
      all_goals go_wp2
      all_goals go_roundw
      all_goals first
        | exact ⟨k + 1, by omega, by go_num, (setRow_other w1 (w.heap.size + 1) w.heap.size _ (by omega)).trans (row_below (W := wr.drew) (unhide G0) hb1), setRow_heap w1 (w.heap.size + 1) _ _ _ _ (row_below (W := wr.drew) (unhide G1) hb1), below_setRow (bnext hb.drew hb1) _ (by omega) _⟩
        | (simp [intOf]; omega)
    · obtain rfl : k = t.size := by omega
      have hsz := sc_size (inT t t.size)
      have hone := sc_one (inT t t.size)
      have hzs : (sc (inT t 0)).size = (sc (inT t t.size)).size := (sc_size _).trans (sc_size _).symm
      have hi := size_set
      rw [← hsz] at hi
      generalize sc (inT t 0) = Z at *
      obtain ⟨D, hD⟩ : ∃ D, D = sc (inT t t.size) := ⟨_, rfl⟩
      rw [← hD] at hg1 hsz hone hzs hi
      have HD := hide hD
      have G2 := hide (setRow_heap wr w.heap.size Z D _ _ hg0)
      have B2 := hide (below_setRow hb w.heap.size (Nat.le_refl _) D)
      have HI := hide hi
      clear hi hb hD hz
      go_wp2_with (first
        | (refine wpList_load_row rfl 106 _ rfl (w.heap.size + 1) rfl 106 D (0, 0) _ hg1 Tryd.underlying106 rfl (unhide HI) ?_)
        | (refine wpList_store_row rfl 106 _ _ rfl w.heap.size D rfl rfl 106 Z hg0 (unhide HI) hzs hone ?_))
      (try simp only [Exit.inBlock, Exit.then])
      exact bodyPost_ret (results_cell_row rfl _ _ w.heap.size 106 D (0, 0) _ rfl (unhide G2) Tryd.underlying106 rfl (unhide HI)) rfl ⟨by rw [unhide HD], unhide B2⟩
end Go.Proofs.YtkggmodabpjobaaDoor
