/- What texts.becoming answers: a row of 256 bytes, each byte's own, the last place of a byte in from holding. -/
import Derived.Test.YtcphfhkefgaalaaBytes
import Derived.Deep.WholeRow
namespace Go.Proofs.Ytcphfhkefgaalaa
open Go.RowKit

/-- The byte at place k. -/
def at8 (f : ByteArray) (k : Nat) : UInt8 := f.data.toList.getD k 0
theorem at8_eq (f : ByteArray) (k : Nat) (h : k < f.size) : f[k] = at8 f k := by
  unfold at8
  rw [List.getD_eq_getElem?_getD, List.getElem?_eq_getElem (by simpa using h)]
  rfl
/-- What c becomes by the first k places of from and to. -/
def bec (f t : ByteArray) : Nat → UInt8 → UInt8
  | 0, c => c
  | k + 1, c => if at8 f k = c then at8 t k else bec f t k c
/-- 256 cells. -/
def cellsBy (g : UInt8 → UInt8) : Array Value := Array.ofFn (n := 256) fun i => bc (g (UInt8.ofNat i))
def zeros8 : Array Value := Array.replicate 256 (.int .u8 0)
def idCells (k : Nat) : Array Value := Array.ofFn (n := 256) fun i => if i.val < k then .int .u8 (i.val : Int) else .int .u8 0
theorem idCells_zero : idCells 0 = zeros8 := by
  apply Array.ext
  · simp [idCells, zeros8]
  · intro i h1 h2; simp [idCells, zeros8]
theorem idCells_size (k : Nat) : (idCells k).size = 256 := by simp [idCells]
theorem cellsBy_size (g : UInt8 → UInt8) : (cellsBy g).size = 256 := by simp [cellsBy]
theorem zeros8_size : zeros8.size = 256 := by simp [zeros8]
theorem idCells_step (k : Nat) : (idCells k).setIfInBounds k (.int .u8 (k : Int)) = idCells (k + 1) := by
  apply Array.ext
  · simp [idCells]
  · intro i h1 h2
    rw [Array.getElem_setIfInBounds (by simpa using h1)]
    simp only [idCells, Array.getElem_ofFn]
    by_cases e : k = i
    · subst e; simp
    · rw [if_neg e]
      by_cases h3 : i < k
      · rw [if_pos h3, if_pos (by omega)]
      · rw [if_neg h3, if_neg (by omega)]
theorem idCells_end : idCells 256 = cellsBy fun c => c := by
  apply Array.ext
  · simp [idCells, cellsBy]
  · intro i h1 h2
    have hi : i < 256 := by simpa [idCells] using h1
    simp only [idCells, cellsBy, Array.getElem_ofFn, bc, hi, if_true, UInt8.toNat_ofNat']
    congr 2
    omega
theorem cellsBy_at (g : UInt8 → UInt8) (x : UInt8) : (cellsBy g)[x.toNat]? = some (bc (g x)) := by
  have hx := UInt8.toNat_lt x
  rw [Array.getElem?_eq_getElem (by simpa [cellsBy] using hx)]
  simp [cellsBy]
theorem cellsBy_step (g : UInt8 → UInt8) (x y : UInt8) : (cellsBy g).setIfInBounds x.toNat (.int .u8 (y.toNat : Int)) = cellsBy fun c => if x = c then y else g c := by
  apply Array.ext
  · simp [cellsBy]
  · intro i h1 h2
    have hi : i < 256 := by simpa [cellsBy] using h1
    rw [Array.getElem_setIfInBounds (by simpa using h1)]
    simp only [cellsBy, Array.getElem_ofFn]
    have e : (x.toNat = i) ↔ (x = UInt8.ofNat i) := by
      constructor
      · intro h; rw [← h]; simp
      · intro h; rw [h]; simp [UInt8.toNat_ofNat']; omega
    by_cases h : x.toNat = i
    · rw [if_pos h, if_pos (e.1 h)]; rfl
    · rw [if_neg h, if_neg (fun k => h (e.2 k))]
theorem cellsBy_one (g : UInt8 → UInt8) : (cellsBy g).all (·.oneCell') = true := by
  rw [Array.all_eq_true_iff_forall_mem]
  intro v hv
  obtain ⟨j, _, rfl⟩ := Array.mem_ofFn.1 hv
  rfl
theorem info_row : (Try.prog.info? 40).map (fun i => (i.zero, i.size)) = some (some (.agg (Array.replicate 256 (.int .u8 0))), 256) := by kernel_rfl
theorem below_setRow {B : Nat} {a w : World} (h : Below B a w) (g : Nat) (hg : B ≤ g) (cs : Array Value) : Below B a (w.setRow g cs) :=
  ⟨h.os, h.tape, h.output, by simpa using h.size, fun k hk => (setRow_other w g k cs (by omega)).trans (h.block k hk)⟩

set_option maxHeartbeats 1000000 in
theorem becoming_any (f t : ByteArray) (w : World) (hf : f.size ≤ 65536) (ht : t.size = f.size) :
    Calls Try.prog 22 #[.string f, .string t] w fun e w' => e = .returned (.agg (cellsBy (bec f t f.size))) ∧ Below w.heap.size w w' := by
  have hz : ∀ w, (zeroValue 40).run Try.prog w = .ok (.agg zeros8) w := (zero_of_info info_row).1
  go_enter Try.func22, Try.ntmps22
  go_wp2
  rw [← idCells_zero]
  clear hz
  go_loopw [8] (fun i wr => ∃ k : Nat, k ≤ 256 ∧ i = .int .i64 k ∧ wr = (w.alloc (.cells (idCells 0) 40)).alloc (.cells (idCells k) 40)) (fun i _ => 256 - (intOf i).toNat)
  case atStart => exact ⟨0, by omega, rfl, rfl⟩
  case round =>
    obtain ⟨k, hk, rfl, rfl⟩ := hrel
    by_cases hlt : k < 256
    · have h1 : (k : Int) < 256 := by omega
      have hcell : ((w.alloc (.cells (idCells 0) 40)).alloc (.cells (idCells k) 40)).cell? ⟨w.heap.size + 1, k, none⟩ = some (.int .u8 0) := by
        rw [World.cell?_alloc_at _ _ _ _ (by simp)]
        rw [Array.getElem?_eq_getElem (by rw [idCells_size]; exact hlt)]
        simp [idCells]
      go_wp2
      go_roundw
      case rel => exact ⟨k + 1, by omega, by go_num, by rw [idCells_step]⟩
      case measure => simp [intOf]; omega
    · obtain rfl : k = 256 := by omega
      go_wp2
      rw [idCells_end]
      go_loopw [18] (fun i wr => ∃ k : Nat, k ≤ f.size ∧ i = .int .i64 k ∧ wr.heap[w.heap.size + 1]? = some (.cells (cellsBy (bec f t k)) 40 (0, 0)) ∧ wr.heap[w.heap.size]? = some (.cells (idCells 0) 40 (0, 0)) ∧ Below w.heap.size w wr) (fun i _ => f.size - (intOf i).toNat)
      case atStart => exact ⟨0, by omega, rfl, heap_alloc2_new w _ _, heap_alloc2_old w _ _, ((Below.refl _ _).alloc (Nat.le_refl _) _).alloc (by simp) _⟩
      case round =>
        obtain ⟨k, hk, rfl, hg1, hg2, hb⟩ := hrel
        by_cases hlt : k < f.size
        · have h1 : (k : Int) < (f.size : Int) := by omega
          have h2 : (k : Int) < (t.size : Int) := by omega
          have hx256 := UInt8.toNat_lt f[k]
          have hx2 : ((f[k]).toNat : Int) < 256 := by omega
          have hcell : wr.cell? ⟨w.heap.size + 1, (f[k]).toNat, none⟩ = some (bc (bec f t k f[k])) := by
            rw [cell_of_row wr _ _ _ _ _ hg1, cellsBy_at]
          have hfr := frozen_of_row wr (w.heap.size + 1) (f[k]).toNat _ _ hg1
          go_wp2
          go_region
          go_wp2
          have e1 : bec f t (k + 1) = fun c => if f[k] = c then t[k]'(by omega) else bec f t k c := by
            funext c
            rw [at8_eq f k hlt, at8_eq t k (by omega)]
            rfl
          have n1 := heap_setCell_same wr (w.heap.size + 1) (f[k]).toNat _ _ (.int .u8 ((t[k]'(by omega)).toNat : Int)) hg1
          rw [cellsBy_step, ← e1] at n1
          have n2 := heap_setCell_other wr ⟨w.heap.size + 1, (f[k]).toNat, none⟩ w.heap.size (.int .u8 ((t[k]'(by omega)).toNat : Int)) (by simp)
          go_roundw
          case rel => exact ⟨k + 1, by omega, by go_num, n1, n2.trans hg2, (hb.setCell (by simp) _).drew⟩
          case measure => simp [intOf]; omega
        · obtain rfl : k = f.size := by omega
          generalize hC : cellsBy (bec f t f.size) = C at *
          have hs : C.size = 256 := by rw [← hC]; exact cellsBy_size _
          have hone : C.all (·.oneCell') = true := by rw [← hC]; exact cellsBy_one _
          have hi := (zero_of_info info_row).2
          rw [← hs] at hi
          generalize hZ : idCells 0 = Z at *
          have hsz : Z.size = C.size := by rw [← hZ, hs]; exact idCells_size _
          have hg3 := setRow_heap wr w.heap.size Z C _ _ hg2
          have hb2 := below_setRow hb w.heap.size (Nat.le_refl _) C
          go_wp2_with (first
            | (refine wpList_load_row rfl 40 _ rfl (w.heap.size + 1) rfl 40 C (0, 0) _ hg1 Try.underlying40 rfl hi ?_)
            | (refine wpList_store_row rfl 40 _ _ rfl w.heap.size C rfl rfl 40 Z hg2 hi hsz hone ?_))
          (try simp only [Exit.inBlock, Exit.then])
          exact bodyPost_ret (results_cell_row rfl _ _ w.heap.size 40 C (0, 0) _ rfl hg3 Try.underlying40 rfl hi) rfl ⟨by rw [hC], hb2⟩
end Go.Proofs.Ytcphfhkefgaalaa
