/- What texts.Replace answers, for every three texts. -/
import Derived.Test.YtcphfhkefgaalaaBecoming
namespace Go.Proofs.Ytcphfhkefgaalaa
open Go.RowKit

/-- Each byte of a text by g. -/
def mapT (g : UInt8 → UInt8) (t : ByteArray) : ByteArray := ⟨(t.data.toList.map g).toArray⟩
theorem mapT_size (g : UInt8 → UInt8) (t : ByteArray) : (mapT g t).size = t.size := by
  show (t.data.toList.map g).toArray.size = t.data.size
  simp
theorem mapT_append (g : UInt8 → UInt8) (a b : ByteArray) : mapT g (a ++ b) = mapT g a ++ mapT g b := by
  apply ByteArray.ext
  rw [ByteArray.data_append]
  simp [mapT]
/-- What is wrong with a replacing, and what it answers. -/
def replE (t f o : ByteArray) : Int := if anyLong [t, f, o] = true then 4 else if f.size = 0 ∨ o.size ≠ f.size then 8 else 0
def replV (t f o : ByteArray) : ByteArray := if replE t f o = 0 then mapT (bec f o f.size) t else ⟨#[]⟩
theorem replE_zero (t f o : ByteArray) (h : replE t f o = 0) : t.size ≤ 65536 ∧ f.size ≤ 65536 ∧ o.size = f.size ∧ f.size ≠ 0 := by
  unfold replE at h
  rw [anyLong_three] at h
  split at h
  · simp at h
  · rename_i h1
    split at h
    · simp at h
    · rename_i h2
      simp at h1
      omega
theorem replE_of (t f o : ByteArray) (h1 : t.size ≤ 65536) (h2 : f.size ≤ 65536) (h3 : o.size = f.size) (h4 : f.size ≠ 0) : replE t f o = 0 := by
  unfold replE
  rw [anyLong_three, if_neg (by simp; omega), if_neg (by omega)]
/-- The cells behind k rounds. -/
def outCells (g : UInt8 → UInt8) (t : ByteArray) (k : Nat) : List Value := ((t.data.toList.take k).map fun b => bc (g b)) ++ List.replicate (t.size - k) (.int .u8 0)
theorem outCells_zero (g : UInt8 → UInt8) (t : ByteArray) : outCells g t 0 = List.replicate t.size (.int .u8 0) := by simp [outCells]
theorem outCells_at (g : UInt8 → UInt8) (t : ByteArray) (k : Nat) (h : k < t.size) : (outCells g t k)[k]? = some (.int .u8 0) := by
  unfold outCells
  have hl : ((t.data.toList.take k).map fun b => bc (g b)).length = k := by
    have : t.data.toList.length = t.size := by simp
    simp; omega
  rw [List.getElem?_append_right (by omega), hl, Nat.sub_self, List.getElem?_replicate, if_pos (by omega)]
theorem outCells_step (g : UInt8 → UInt8) (t : ByteArray) (k : Nat) (h : k < t.size) : (outCells g t k).set k (.int .u8 ((g t[k]).toNat : Int)) = outCells g t (k + 1) := by
  unfold outCells
  have hl : ((t.data.toList.take k).map fun b => bc (g b)).length = k := by
    have : t.data.toList.length = t.size := by simp
    simp; omega
  rw [List.set_append_right _ _ (by omega), hl, Nat.sub_self, take_snoc t k h, List.map_append, List.append_assoc]
  congr 1
  rw [show t.size - k = (t.size - (k + 1)) + 1 from by omega, List.replicate_succ, List.set_cons_zero]
  rfl
theorem outCells_end (g : UInt8 → UInt8) (t : ByteArray) : outCells g t t.size = (mapT g t).data.toList.map bc := by
  unfold outCells mapT
  rw [Nat.sub_self, List.replicate_zero, List.append_nil, List.take_of_length_le (by simp)]
  simp

set_option maxHeartbeats 400000 in
theorem replace_wrong (t f o : ByteArray) (w : World) (ht : t.size ≤ maxLen) (hf : f.size ≤ maxLen) (ho : o.size ≤ maxLen) (h : replE t f o ≠ 0) :
    Calls Try.prog 9 #[.string t, .string f, .string o] w fun e w' => e = .returned (.tuple #[.string ⟨#[]⟩, .int .i64 (replE t f o)]) ∧ Below w.heap.size w w' := by
  by_cases h1 : anyLong [t, f, o] = true
  · have e : replE t f o = 4 := by unfold replE; rw [if_pos h1]
    rw [e]
    have HE := hide h1
    clear h1 e h
    go_enter Try.func9, Try.ntmps9
    go_wp2_with (go_at_call 18; refine (tooLong_three t f o _ _ ht hf ho (by simp) (by simp) (by simp)).mono ?_; rintro e w' ⟨rfl, rfl⟩; rw [unhide HE])
    go_ret2
    exact ⟨rfl, (Below.refl _ _).alloc (Nat.le_refl _) _⟩
  · have h2 : f.size = 0 ∨ o.size ≠ f.size := by
      by_cases h3 : f.size = 0 ∨ o.size ≠ f.size
      · exact h3
      · exfalso; apply h; unfold replE; rw [if_neg h1, if_neg h3]
    have e : replE t f o = 8 := by unfold replE; rw [if_neg h1, if_pos h2]
    rw [e]
    have HE := hide (Bool.eq_false_iff.2 h1)
    clear h1 e h
    by_cases h3 : f.size = 0
    · have he := isEmpty_true f h3
      clear h2 h3
      go_enter Try.func9, Try.ntmps9
      go_wp2_with (go_at_call 18; refine (tooLong_three t f o _ _ ht hf ho (by simp) (by simp) (by simp)).mono ?_; rintro e w' ⟨rfl, rfl⟩; rw [unhide HE])
      go_ret2
      exact ⟨rfl, (Below.refl _ _).alloc (Nat.le_refl _) _⟩
    · have he := isEmpty_false f h3
      have h4 : ((o.size : Int) != (f.size : Int)) = true := by rw [bne_iff_ne]; omega
      clear h2 h3
      go_enter Try.func9, Try.ntmps9
      go_wp2_with (go_at_call 18; refine (tooLong_three t f o _ _ ht hf ho (by simp) (by simp) (by simp)).mono ?_; rintro e w' ⟨rfl, rfl⟩; rw [unhide HE])
      go_ret2
      exact ⟨rfl, (Below.refl _ _).alloc (Nat.le_refl _) _⟩

set_option maxHeartbeats 1000000 in
theorem replace_ok (t f o : ByteArray) (w : World) (ht : t.size ≤ 65536) (hf : f.size ≤ 65536) (ho : o.size = f.size) (h0 : f.size ≠ 0) :
    Calls Try.prog 9 #[.string t, .string f, .string o] w fun e w' => e = .returned (.tuple #[.string (mapT (bec f o f.size) t), .int .i64 0]) ∧ Below w.heap.size w w' := by
  have HE := hide (show anyLong [t, f, o] = false by rw [anyLong_three]; simp; omega)
  obtain ⟨i0, hi, hz0, hz1, hz2⟩ := info_parts info_byte
  have he := isEmpty_false f h0
  have h4 : ((o.size : Int) != (f.size : Int)) = false := by rw [bne_eq_false_iff_eq]; omega
  have hz : ∀ w, (zeroValue 40).run Try.prog w = .ok (.agg zeros8) w := (zero_of_info info_row).1
  have hi40 := (zero_of_info info_row).2
  have c := fun W => becoming_any f o W hf ho
  generalize hgg : bec f o f.size = g at *
  have hone := cellsBy_one g
  have hsz := cellsBy_size g
  have hcat := cellsBy_at g
  generalize hC : cellsBy g = C at *
  rw [← hsz] at hi40
  have hzs : zeros8.size = C.size := by rw [hsz]; exact zeros8_size
  have H1 := hide hi40
  have H2 := hide hone
  have H3 := hide hzs
  have H4 := hide hcat
  have HC := hide c
  clear hi40 hone hzs hcat c hsz hC hgg
  go_enter Try.func9, Try.ntmps9
  go_wp2_with (first
    | (go_at_call 18; refine (tooLong_three t f o _ _ (by unfold maxLen; omega) (by unfold maxLen; omega) (by unfold maxLen; omega) (by simp) (by simp) (by simp)).mono ?_; rintro e w' ⟨rfl, rfl⟩; rw [unhide HE])
    | (go_at_call 22; refine (unhide HC _).mono ?_; rintro e w2 ⟨rfl, hb2⟩)
    | (refine wpList_store_row rfl 40 _ _ rfl w2.heap.size C rfl rfl 40 zeros8 (heap_alloc_last w2 _) (unhide H1) (unhide H3) (unhide H2) ?_; rw [World.setRow_alloc_new])
    | (at_make; refine wpList_make_full _ rfl _ _ 34 rfl (w2.heap.size + 1) 5 i0 (.int .u8 0) 1 Try.underlying34 hi hz0 hz1 .i64 .i64 _ _ t.size rfl rfl (by omega) (by omega) (by rw [hz2]; omega) (by unfold maxLen; omega) (by simp) ?_; intro w3 hown hgrow))
  have hg : w3.heap[w2.heap.size]? = some (.cells C 40 (0, 0)) := (hgrow.block w2.heap.size (by simp) (by simp)).trans (heap_alloc_last w2 _)
  have hb0 : Below w.heap.size w w3 := ((bnext ((Below.refl _ _).alloc (Nat.le_refl _) _) hb2).alloc (by have := hb2.size; simp at this; omega) _).grown hgrow (by have := hb2.size; simp at this ⊢; omega) (fun k hk => by cases hk)
  have hlow : w.heap.size < w2.heap.size := by have := hb2.size; simp at this; omega
  simp only [Nat.mul_one, Value.cells, World.size_alloc] at hown
  rw [toList_madeCells_one, ← outCells_zero g] at hown
  clear HC hb2 hgrow hz he h4
  go_loopw [33] (fun i wr => ∃ k : Nat, k ≤ t.size ∧ i = .int .i64 k ∧ wr.ownsRow (w2.heap.size + 1) 5 1 (.slice (some ⟨w2.heap.size + 1, 0, none⟩) t.size t.size) t.size (outCells g t k) ∧ wr.heap[w2.heap.size]? = some (.cells C 40 (0, 0)) ∧ Below w.heap.size w wr) (fun i _ => t.size - (intOf i).toNat)
  case atStart => exact ⟨0, Nat.zero_le _, rfl, hown, hg, hb0⟩
  case round =>
    obtain ⟨k, hk, rfl, ho', hg', hbl⟩ := hrel
    clear hown hg hb0
    by_cases hlt : k < t.size
    · have h1 : (k : Int) < (t.size : Int) := by omega
      have hx256 := UInt8.toNat_lt t[k]
      have hx2 : ((t[k]).toNat : Int) < 256 := by omega
      have hread : wr.cell? ⟨w2.heap.size, (t[k]).toNat, none⟩ = some (.int .u8 ((g t[k]).toNat : Int)) := by
        rw [cell_of_row wr _ _ _ _ _ hg', unhide H4]
        rfl
      have hcell : wr.cell? ⟨w2.heap.size + 1, k, none⟩ = some (.int .u8 0) := (ho'.cellAt _ (by omega)).trans (outCells_at g t k hlt)
      have hfr := ho'.frozenAt k
      have hst := ho'.stored k (.int .u8 ((g t[k]).toNat : Int))
      rw [outCells_step g t k hlt] at hst
      have HS := hide hst.1
      have HB := hide (hbl.setCell (p := ⟨w2.heap.size + 1, k, none⟩) (show w.heap.size ≤ w2.heap.size + 1 by omega) (.int .u8 ((g t[k]).toNat : Int)))
      have HG := hide ((heap_setCell_other wr ⟨w2.heap.size + 1, k, none⟩ w2.heap.size (.int .u8 ((g t[k]).toNat : Int)) (by simp)).trans hg')
      clear hst ho' hg' hbl
      go_wp2
      go_roundw
      case rel => exact ⟨k + 1, by omega, by go_num, unhide HS, unhide HG, unhide HB⟩
      case measure => simp [intOf]; omega
    · obtain rfl : k = t.size := by omega
      rw [outCells_end] at ho'
      have hcv : (convert 34 9 (.slice (some ⟨w2.heap.size + 1, 0, none⟩) t.size t.size)).run Try.prog wr = .ok (.string (mapT g t)) wr := by
        have h := run_convert_bytes_back (P := Try.prog) wr 34 9 5 ⟨w2.heap.size + 1, 0, none⟩ t.size (mapT g t).data.toList Try.underlying34 Try.underlying5 Try.underlying9 (fun j hj => ho'.cells rfl j _ (by simp only [List.getElem?_map, List.getElem?_eq_getElem hj, Option.map_some, bc]))
        have e : (mapT g t).data.toList.length = t.size := by rw [← mapT_size g t]; simp
        rw [e] at h
        simpa using h
      have HB := hide hbl
      clear ho' hg' hbl
      go_wp2
      go_ret2
      exact ⟨rfl, unhide HB⟩

theorem replace_any (t f o : ByteArray) (w : World) (ht : t.size ≤ maxLen) (hf : f.size ≤ maxLen) (ho : o.size ≤ maxLen) :
    Calls Try.prog 9 #[.string t, .string f, .string o] w fun e w' => e = .returned (.tuple #[.string (replV t f o), .int .i64 (replE t f o)]) ∧ Below w.heap.size w w' := by
  by_cases h : replE t f o = 0
  · obtain ⟨h1, h2, h3, h4⟩ := replE_zero t f o h
    have e : replV t f o = mapT (bec f o f.size) t := by unfold replV; rw [if_pos h]
    rw [e, h]
    exact replace_ok t f o w h1 h2 h3 h4
  · have e : replV t f o = ⟨#[]⟩ := by unfold replV; rw [if_neg h]
    rw [e]
    exact replace_wrong t f o w ht hf ho h
end Go.Proofs.Ytcphfhkefgaalaa
