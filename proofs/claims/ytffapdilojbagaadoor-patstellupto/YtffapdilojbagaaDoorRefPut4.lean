/- What the document's put does: a text into a rising list of the call's own. -/
import Derived.Test.YtffapdilojbagaaDoorRising4
import Derived.Sort.Walk0
import Derived.Deep.RegionHeld3
import Derived.Deep.Onto
namespace Go.Proofs.YtffapdilojbagaaDoor
open Go.RowKit

def putS (s : ByteArray) (xs : List ByteArray) : List ByteArray := (putB (bytesL s) (xs.map bytesL)).map mkB
theorem putB_before (s : BL) : ∀ (l : List BL) (k : Nat), k ≤ l.length → (∀ j, j < k → l.getD j [] < s) → putB s l = l.take k ++ putB s (l.drop k)
  | l, 0, _, _ => by simp
  | [], k + 1, h, _ => by simp at h
  | x :: l, k + 1, h, hj => by
    have h0 : x < s := hj 0 (by omega)
    rw [putB, if_pos h0, putB_before s l k (by simpa using h) (fun j hk => hj (j + 1) (by omega))]
    rfl
theorem putB_at (s : BL) (l : List BL) (k : Nat) (hk : k ≤ l.length) (hj : ∀ j, j < k → l.getD j [] < s) (he : k < l.length → ¬ l.getD k [] < s ∧ l.getD k [] ≠ s) : putB s l = l.take k ++ s :: l.drop k := by
  rw [putB_before s l k hk hj]
  congr 1
  rcases Nat.lt_or_ge k l.length with h | h
  · obtain ⟨e1, e2⟩ := he h
    rw [List.getD, List.getElem?_eq_getElem h, Option.getD_some] at e1 e2
    rw [List.drop_eq_getElem_cons h, putB, if_neg e1, if_neg e2]
  · rw [List.drop_eq_nil_of_le h]; rfl
theorem putB_there (s : BL) (l : List BL) (k : Nat) (hk : k < l.length) (hj : ∀ j, j < k → l.getD j [] < s) (he : l.getD k [] = s) : putB s l = l := by
  rw [putB_before s l k (by omega) hj]
  rw [List.getD, List.getElem?_eq_getElem hk, Option.getD_some] at he
  have : putB s (l.drop k) = l.drop k := by
    rw [List.drop_eq_getElem_cons hk, putB, he, if_neg (bl_irrefl _), if_pos rfl]
  rw [this, List.take_append_drop]
theorem toList_bytesL (s : ByteArray) : s.toList = bytesL s := ByteArray.toList_eq s

theorem size_str : (Tryd.prog.info? 9).map (·.size) = some 1 := by kernel_rfl
theorem slice_head (g n cap k : Nat) (hk : k ≤ n) (hn : n ≤ cap) (h0 : 0 < cap) (w : World) :
    (Instr.sliceAt 32 (.slice (some ⟨g, 0, none⟩) n cap) none (some (.int .i64 (k : Int))) none).run Tryd.prog w = .ok (.slice (some ⟨g, 0, none⟩) k cap) w := by
  have hs := size_str
  cases hq : Tryd.prog.info? 9 with
  | none => simp [hq] at hs
  | some i =>
    have hz : i.size = 1 := by simpa [hq] using hs
    have he : Tryd.prog.underlying 32 = some (.slice (Tryd.prog.elem 32)) := by kernel_rfl
    have he2 : Tryd.prog.elem 32 = 9 := by kernel_rfl
    rw [run_sliceAt_slice _ _ _ _ _ _ he, run_slice_h _ _ _ _ _ he .i64 (k : Int) (by omega) (by omega), he2]
    have h1 : ¬ cap = 0 := by omega
    simp [sizeOf, typeInfo, sliced, hq, hz, h1, Addr.add_lit]
def cutAt (cap k : Nat) : Nat := if cap = k then 0 else k
theorem slice_rest (g n cap k : Nat) (hk : k ≤ n) (w : World) :
    (Instr.sliceAt 32 (.slice (some ⟨g, 0, none⟩) n cap) (some (.int .i64 (k : Int))) none none).run Tryd.prog w = .ok (.slice (some ⟨g, cutAt cap k, none⟩) (n - k) (cap - k)) w := by
  have hs := size_str
  cases hq : Tryd.prog.info? 9 with
  | none => simp [hq] at hs
  | some i =>
    have hz : i.size = 1 := by simpa [hq] using hs
    have he : Tryd.prog.underlying 32 = some (.slice (Tryd.prog.elem 32)) := by kernel_rfl
    have he2 : Tryd.prog.elem 32 = 9 := by kernel_rfl
    rw [run_sliceAt_slice _ _ _ _ _ _ he, run_slice_l _ _ _ _ _ he .i64 (k : Int) (by omega) (by omega), he2]
    unfold cutAt
    by_cases h1 : cap = k
    · simp [sizeOf, typeInfo, sliced, hq, hz, h1]
    · simp [sizeOf, typeInfo, sliced, hq, hz, h1, Addr.add_lit]
theorem cutAt_ne {cap k : Nat} (h : ¬ cap = k) : cutAt cap k = k := if_neg h
theorem take_getD (xs : List ByteArray) {k j : Nat} (hj : j < k) : xs.getD j ByteArray.empty = (xs.take k).getD j ByteArray.empty := by
  simp [List.getD, hj]
theorem drop_getD (xs : List ByteArray) (k j : Nat) : xs.getD (k + j) ByteArray.empty = (xs.drop k).getD j ByteArray.empty := by
  simp [List.getD]
theorem cell_new0 {w : World} {b : Nat} {v : Value} {t : TypeId} (h : w.heap[b]? = some (.cells #[v] t (0, 0))) : w.cell? ⟨b, 0, none⟩ = some v := by
  rw [cell_of_row _ _ _ _ _ _ h]; rfl
theorem own_empty {w : World} {B b : Nat} (h : w.heap[b]? = some (.cells #[] 9 (0, 0))) (hb : B ≤ b) : Own w B (.slice (some ⟨b, 0, none⟩) 0 0) [] :=
  ⟨rfl, .inr ⟨b, 0, #[], rfl, hb, h, Nat.le_refl _, Nat.zero_le _, rfl, rfl⟩⟩

/-- An append to a row of texts of the call's own, at a step of a region that draws its order. -/
theorem step_append_str {w : World} {ops : Array Oper} {o : Oper} {a : Act} {K : Act → World → Prop} {Q : Exit → Act → World → Prop} {E : Prop} (hgd : o.guard = none) (s x : Operand)
    (ho : o.op = .call { callee := .builtin .append, args := #[s, x], argTypes := #[32, 32] })
    (B : Nat) (v : Value) (xs : List ByteArray) (hs : a.eval s = v) (hown : Own w B v xs) (ad : Addr) (m c : Nat) (ys : List ByteArray) (hx : a.eval x = .slice (some ad) m c) (hm : ys.length = m)
    (hc : ∀ j, j < m → w.cell? (ad.add j) = some (.string (ys.getD j ByteArray.empty))) (hr : xs.length + m ≤ 100000) (hB : B ≤ w.heap.size)
    (h : ∀ v' w', Own w' B v' (xs ++ ys) → w.grownBy w' v.ownBlock → (v'.ownBlock = v.ownBlock ∨ v'.ownBlock = some w.heap.size) → K (a.put o.dst v') w') :
    if Region.wanted o (yielded ops a.tmps) = true then Oper.wp Tryd.prog o a w K Q else E := by
  have hw : Region.wanted o (yielded ops a.tmps) = true := by simp [Region.wanted, hgd]
  rw [if_pos hw]
  obtain ⟨i0, hi, hz0, hz1, hz2⟩ := info_parts info_str
  subst hm
  obtain ⟨v', w', hrun, h2, h3, _, h5⟩ := run_append_own_at (P := Tryd.prog) w B 32 o.type 9 i0 (.string ⟨#[]⟩) 1 16 Tryd.underlying32 hi hz0 hz1 hz2 rfl (by decide) v xs.length (xs.map Value.string) hown ad ys.length c (ys.map Value.string) (by simp) (fun j u hj => by
    have hj' : j < ys.length := by have := (List.getElem?_eq_some_iff.1 hj).1; simpa using this
    rw [hc j hj']
    simp [hj'] at hj
    rw [← hj]
    simp [hj']) (by intro u hu; obtain ⟨y, _, rfl⟩ := List.mem_map.1 hu; rfl) (by unfold maxLen; omega) (by omega) hB
  unfold Oper.wp execOp
  simp only [ho, resolve, invoke, builtin, Sem.run_bind, Sem.run_pure, Result.andThen_ok, List.map_toArray, List.map_cons, List.map_nil, hs, hx, hrun]
  exact h v' w' (by unfold Own; rw [List.length_append, List.map_append]; exact h2) h3 h5

/-- An append of nothing at all. -/
theorem step_append_nil {w : World} {ops : Array Oper} {o : Oper} {a : Act} {K : Act → World → Prop} {Q : Exit → Act → World → Prop} {E : Prop} (hgd : o.guard = none) (s x : Operand)
    (ho : o.op = .call { callee := .builtin .append, args := #[s, x], argTypes := #[32, 32] })
    (B : Nat) (v : Value) (xs : List ByteArray) (hs : a.eval s = v) (hown : Own w B v xs) (hx : a.eval x = .slice none 0 0) (h : K (a.put o.dst v) w) :
    if Region.wanted o (yielded ops a.tmps) = true then Oper.wp Tryd.prog o a w K Q else E := by
  have hw : Region.wanted o (yielded ops a.tmps) = true := by simp [Region.wanted, hgd]
  rw [if_pos hw]
  obtain ⟨i0, hi, -, -, -⟩ := info_parts info_str
  have hrun := run_append_owned_none (P := Tryd.prog) (w := w) B 32 o.type 9 i0 1 Tryd.underlying32 hi v xs.length _ hown
  unfold Oper.wp execOp
  simp only [ho, resolve, invoke, builtin, Sem.run_bind, Sem.run_pure, Result.andThen_ok, List.map_toArray, List.map_cons, List.map_nil, hs, hx, hrun]
  exact h
theorem slice_nil1 (w : World) : (Instr.sliceAt 32 (.slice none 0 0) none (some (.int .i64 0)) none).run Tryd.prog w = .ok (.slice none 0 0) w := by
  have hs := size_str
  cases hq : Tryd.prog.info? 9 with
  | none => simp [hq] at hs
  | some i =>
    have he : Tryd.prog.underlying 32 = some (.slice (Tryd.prog.elem 32)) := by kernel_rfl
    have he2 : Tryd.prog.elem 32 = 9 := by kernel_rfl
    rw [run_sliceAt_slice _ _ _ _ _ _ he, run_slice_h _ _ _ _ _ he .i64 0 (by omega) (by omega), he2]
    simp [sizeOf, typeInfo, sliced, hq]
theorem slice_nil2 (w : World) : (Instr.sliceAt 32 (.slice none 0 0) (some (.int .i64 0)) none none).run Tryd.prog w = .ok (.slice none 0 0) w := by
  have hs := size_str
  cases hq : Tryd.prog.info? 9 with
  | none => simp [hq] at hs
  | some i =>
    have he : Tryd.prog.underlying 32 = some (.slice (Tryd.prog.elem 32)) := by kernel_rfl
    have he2 : Tryd.prog.elem 32 = 9 := by kernel_rfl
    rw [run_sliceAt_slice _ _ _ _ _ _ he, run_slice_l _ _ _ _ _ he .i64 0 (by omega) (by omega), he2]
    simp [sizeOf, typeInfo, sliced, hq]

/-- What stands at the end of a put: the text is put where it belongs. -/
theorem putS_at (s : ByteArray) (xs : List ByteArray) (k : Nat) (hk : k ≤ xs.length) (hj : ∀ j, j < k → bytesL (xs.getD j ByteArray.empty) < bytesL s) (he : k < xs.length → ¬ bytesL (xs.getD k ByteArray.empty) < bytesL s ∧ bytesL (xs.getD k ByteArray.empty) ≠ bytesL s) : putS s xs = xs.take k ++ [s] ++ xs.drop k := by
  have hm : ∀ j, j < xs.length → (xs.map bytesL).getD j [] = bytesL (xs.getD j ByteArray.empty) := fun j h => by simp [List.getD, h]
  unfold putS
  rw [putB_at (bytesL s) (xs.map bytesL) k (by simpa using hk) (fun j h => by rw [hm j (by omega)]; exact hj j h) (fun h => by rw [hm k (by simpa using h)]; exact he (by simpa using h))]
  rw [List.map_append, List.map_cons, ← List.map_take, ← List.map_drop, List.map_map, List.map_map]
  have : mkB ∘ bytesL = id := rfl
  rw [this, List.map_id, List.map_id, List.append_assoc]
  rfl
theorem putS_there (s : ByteArray) (xs : List ByteArray) (k : Nat) (hk : k < xs.length) (hj : ∀ j, j < k → bytesL (xs.getD j ByteArray.empty) < bytesL s) (he : bytesL (xs.getD k ByteArray.empty) = bytesL s) : putS s xs = xs := by
  have hm : ∀ j, j < xs.length → (xs.map bytesL).getD j [] = bytesL (xs.getD j ByteArray.empty) := fun j h => by simp [List.getD, h]
  unfold putS
  rw [putB_there (bytesL s) (xs.map bytesL) k (by simpa using hk) (fun j h => by rw [hm j (by omega)]; exact hj j h) (by rw [hm k hk]; exact he), List.map_map]
  exact List.map_id xs

def PutPost (B : Nat) (s : ByteArray) (xs : List ByteArray) (w : World) (e : Ending) (w' : World) : Prop := ∃ v', e = .returned v' ∧ Own w' B v' (putS s xs) ∧ Below w.heap.size w w'

/-- Where an entry of a list of texts lies. -/
theorem text_at (g n cap k : Nat) (hk : k < n) (w : World) :
    (Instr.indexAt 32 (.slice (some ⟨g, 0, none⟩) n cap) (.int .i64 (k : Int))).run Tryd.prog w = .ok (.pointer (some ⟨g, k, none⟩)) w := by
  have h0 : (0 : Int) ≤ (k : Int) ∧ (k : Int) < (n : Int) := by omega
  have hs := size_str
  cases hq : Tryd.prog.info? 9 with
  | none => simp [hq] at hs
  | some i =>
    have hz : i.size = 1 := by simpa [hq] using hs
    simp [Instr.indexAt, asIntOf, run_underlying Tryd.underlying32, h0, sizeOf, typeInfo, hq, hz, Addr.add_lit]
    intro h
    omega

set_option maxRecDepth 100000 in
set_option maxHeartbeats 2000000 in
theorem put_some (B : Nat) (g cap : Nat) (xs : List ByteArray) (s : ByteArray) (w : World) (hv : Own w B (.slice (some ⟨g, 0, none⟩) xs.length cap) xs) (hx : xs.length ≤ 5000) (hB : B ≤ w.heap.size) (h0 : 0 < xs.length) :
    Calls Tryd.prog 32 #[.slice (some ⟨g, 0, none⟩) xs.length cap, .string s] w fun e w' => PutPost B s xs w e w' := by
  have hcap : xs.length ≤ cap := by
    rcases hv.2 with ⟨h, _⟩ | ⟨g', cap', cur, h, _, _, hc, _⟩
    · cases h
    · cases h; exact hc
  have HCL := hide (show ∀ W, Below w.heap.size w W → ∀ j, j < xs.length → W.cell? ⟨g, j, none⟩ = some (.string (xs.getD j ByteArray.empty)) from fun W hW j hj => cell_later hW (by rw [World.ownsRow.cellAt hv j (by omega)]; simp [hj]))
  have HV := hide hv
  clear hv
  go_enter Tryd.func32, Tryd.ntmps32
  go_wp2_with fail
  go_loop [5] (fun i => ∃ k : Nat, k ≤ xs.length ∧ i = .int .i64 (k : Int) ∧ ∀ j, j < k → bytesL (xs.getD j ByteArray.empty) < bytesL s) (fun i => xs.length - (intOf i).toNat)
  case atStart => exact ⟨0, by omega, rfl, fun j hj => by omega⟩
  case round =>
    obtain ⟨k, hk, rfl, hj⟩ := hrel
    have HJ := hide hj
    clear hj
    by_cases hkn : k < xs.length
    · have h1 : (k : Int) < (xs.length : Int) := by omega
      have c := unhide HCL w (Below.refl _ _) k hkn
      have hia := text_at g xs.length cap k hkn
      have HLT := hide (show Op.bytesLess (xs.getD k ByteArray.empty).toList s.toList = decide (bytesL (xs.getD k ByteArray.empty) < bytesL s) by rw [toList_bytesL, toList_bytesL]; exact Go.Proofs.bytesLess_eq _ _)
      have HEQ := hide (show ((xs.getD k ByteArray.empty).toList == s.toList) = (bytesL (xs.getD k ByteArray.empty) == bytesL s) by rw [toList_bytesL, toList_bytesL])
      obtain ⟨x, hxk⟩ : ∃ x, x = xs.getD k ByteArray.empty := ⟨_, rfl⟩
      rw [← hxk] at c HLT HEQ
      have HXK := hide hxk
      clear hxk
      by_cases hlt : bytesL x < bytesL s
      · have hl : Op.bytesLess x.toList s.toList = true := by rw [unhide HLT]; exact decide_eq_true hlt
        have HN := hide (show ∀ j, j < k + 1 → bytesL (xs.getD j ByteArray.empty) < bytesL s from fun j hj => by
          rcases Nat.lt_or_ge j k with h | h
          · exact unhide HJ j h
          · rw [show j = k by omega, ← unhide HXK]; exact hlt)
        clear hlt
        go_wp2_with fail
        exact ⟨⟨k + 1, by omega, by go_num, unhide HN⟩, by simp [intOf]; omega⟩
      · have hl : Op.bytesLess x.toList s.toList = false := by rw [unhide HLT]; exact decide_eq_false hlt
        by_cases heq : bytesL x = bytesL s
        · have he : (x.toList == s.toList) = true := by rw [unhide HEQ]; exact beq_iff_eq.2 heq
          have HT := hide (putS_there s xs k hkn (unhide HJ) (by rw [← unhide HXK]; exact heq))
          clear hlt heq
          go_wp2_with fail
          go_ret
          exact ⟨_, rfl, by rw [unhide HT]; exact unhide HV, Below.refl _ _⟩
        · have he : (x.toList == s.toList) = false := by rw [unhide HEQ]; exact beq_eq_false_iff_ne.2 heq
          have HP := hide (putS_at s xs k hk (unhide HJ) (fun _ => by rw [← unhide HXK]; exact ⟨hlt, heq⟩))
          have hcap2 : (xs.length : Int) ≤ (cap : Int) := by omega
          have hk1 : (0 : Int) ≤ (k : Int) := by omega
          have hk2 : (k : Int) ≤ (xs.length : Int) := by omega
          have hk3 : (k : Int) ≤ (cap : Int) := by omega
          have hs1 := slice_head g xs.length cap k (by omega) (by omega) (by omega)
          have hs2 := slice_rest g xs.length cap k (by omega)
          clear hlt heq
          go_wp2_with fail
          go_region_held3 (fun _ => True) (trivial) (first | (refine step_append_str rfl (.tmp 33) (.tmp 36) rfl w.heap.size (.slice (some ⟨w.heap.size, 0, none⟩) 0 0) [] (by simp [Act.eval]) (own_empty (by exact at_new rfl) (by simp)) ⟨g, 0, none⟩ k cap (xs.take k) (by simp [Act.eval]) (by simp; omega) (fun j hj => by rw [Addr.add_lit, Nat.zero_add, unhide HCL _ ((Below.refl w.heap.size w).alloc (Nat.le_refl _) _).drew j (by omega), take_getD xs hj]) (by simp; omega) (by first | (simp; done) | (simp; omega)) ?_; intro v1 w1 ho1 hg1 _; rw [List.nil_append] at ho1; have hb1 := Below.grown (((Below.refl w.heap.size w).alloc (Nat.le_refl _) _).drew) hg1 (by first | (simp; done) | (simp; omega)) (fun i hi => by simp [Value.ownBlock] at hi; omega); clear hg1) | (refine step_append_str rfl (.tmp 33) (.tmp 36) rfl w.heap.size (.slice (some ⟨w.heap.size, 0, none⟩) 0 0) [] (by simp [Act.eval]) (own_empty (by exact at_old (by simp) (at_new rfl)) (by simp)) ⟨g, 0, none⟩ k cap (xs.take k) (by simp [Act.eval]) (by simp; omega) (fun j hj => by rw [Addr.add_lit, Nat.zero_add, unhide HCL _ (((Below.refl w.heap.size w).alloc (Nat.le_refl _) _).alloc (by simp) _).drew j (by omega), take_getD xs hj]) (by simp; omega) (by first | (simp; done) | (simp; omega)) ?_; intro v1 w1 ho1 hg1 _; rw [List.nil_append] at ho1; have hb1 := Below.grown ((((Below.refl w.heap.size w).alloc (Nat.le_refl _) _).alloc (by simp) _).drew) hg1 (by first | (simp; done) | (simp; omega)) (fun i hi => by simp [Value.ownBlock] at hi; omega); have hc1 := World.grownBy.cell hg1 (a := ⟨w.heap.size + 1, 0, none⟩) (v := .string s) (by exact cell_new0 (at_new (by simp))) (by simp [Value.ownBlock]); clear hg1) | (refine step_append_str rfl (.tmp 33) (.tmp 36) rfl w.heap.size (.slice (some ⟨w.heap.size + 1, 0, none⟩) 0 0) [] (by simp [Act.eval]) (own_empty (by exact at_new (by simp)) (by simp)) ⟨g, 0, none⟩ k cap (xs.take k) (by simp [Act.eval]) (by simp; omega) (fun j hj => by rw [Addr.add_lit, Nat.zero_add, unhide HCL _ (((Below.refl w.heap.size w).alloc (Nat.le_refl _) _).alloc (by simp) _).drew j (by omega), take_getD xs hj]) (by simp; omega) (by first | (simp; done) | (simp; omega)) ?_; intro v1 w1 ho1 hg1 _; rw [List.nil_append] at ho1; have hb1 := Below.grown ((((Below.refl w.heap.size w).alloc (Nat.le_refl _) _).alloc (by simp) _).drew) hg1 (by first | (simp; done) | (simp; omega)) (fun i hi => by simp [Value.ownBlock] at hi; omega); have hc1 := World.grownBy.cell hg1 (a := ⟨w.heap.size, 0, none⟩) (v := .string s) (by exact cell_new0 (at_old (by simp) (at_new rfl))) (by simp [Value.ownBlock]); clear hg1) | (refine step_append_str rfl (.tmp 37) (.tmp 39) rfl w.heap.size v1 (xs.take k) (by simp [Act.eval]) (by exact Own.later ho1 ((Below.refl _ _).alloc (Nat.le_refl _) _)) ⟨w1.heap.size, 0, none⟩ 1 1 [s] (by simp [Act.eval]) rfl (fun j hj => by rw [show j = 0 by omega]; exact cell_new0 (at_new rfl)) (by simp; omega) (by have := hb1.size; simp; omega) ?_; intro v2 w2 ho2 hg2 _; have hb2 := Below.grown (hb1.alloc hb1.size _) hg2 (by have := hb1.size; simp; omega) (fun i hi => (World.ownsRow.lt ho1 i hi).1); clear hg2) | (refine step_append_str rfl (.tmp 37) (.tmp 39) rfl w.heap.size v1 (xs.take k) (by simp [Act.eval]) ho1 ⟨w.heap.size + 1, 0, none⟩ 1 1 [s] (by simp [Act.eval]) rfl (fun j hj => by rw [show j = 0 by omega]; exact hc1) (by simp; omega) (by have := hb1.size; simp; omega) ?_; intro v2 w2 ho2 hg2 _; have hb2 := Below.grown (hb1) hg2 (by have := hb1.size; simp; omega) (fun i hi => (World.ownsRow.lt ho1 i hi).1); clear hg2) | (refine step_append_str rfl (.tmp 37) (.tmp 39) rfl w.heap.size v1 (xs.take k) (by simp [Act.eval]) ho1 ⟨w.heap.size, 0, none⟩ 1 1 [s] (by simp [Act.eval]) rfl (fun j hj => by rw [show j = 0 by omega]; exact hc1) (by simp; omega) (by have := hb1.size; simp; omega) ?_; intro v2 w2 ho2 hg2 _; have hb2 := Below.grown (hb1) hg2 (by have := hb1.size; simp; omega) (fun i hi => (World.ownsRow.lt ho1 i hi).1); clear hg2) | (refine step_append_str rfl (.tmp 40) (.tmp 43) rfl w.heap.size v2 (xs.take k ++ [s]) (by simp [Act.eval]) ho2 ⟨g, cutAt cap k, none⟩ (xs.length - k) (cap - k) (xs.drop k) (by simp [Act.eval]) (by simp) (fun j hj => by rw [Addr.add_lit, cutAt_ne (show ¬ cap = k by omega), unhide HCL _ hb2 (k + j) (by omega), drop_getD]) (by simp; omega) hb2.size ?_; intro v3 w3 ho3 hg3 _; have hb3 := Below.grown hb2 hg3 hb2.size (fun i hi => (World.ownsRow.lt ho2 i hi).1); clear hg3))
          all_goals
            have HO3 := hide ho3
            have HB3 := hide hb3
            clear ho3 hb3 ho1 ho2 hb1 hb2
            go_wp2_with fail
            go_ret
            exact ⟨_, rfl, by rw [unhide HP]; exact World.ownsRow.mono (unhide HO3) hB, unhide HB3⟩
    · have h1 : decide ((k : Int) < (xs.length : Int)) = false := by simp; omega
      have h2 : ¬ ((k : Int) < (xs.length : Int)) := by omega
      have HP := hide (putS_at s xs k hk (unhide HJ) (fun h => absurd h hkn))
      have hcap2 : (xs.length : Int) ≤ (cap : Int) := by omega
      have hk1 : (0 : Int) ≤ (k : Int) := by omega
      have hk2 : (k : Int) ≤ (xs.length : Int) := by omega
      have hk3 : (k : Int) ≤ (cap : Int) := by omega
      have hs1 := slice_head g xs.length cap k (by omega) (by omega) (by omega)
      have hs2 := slice_rest g xs.length cap k (by omega)
      go_wp2_with fail
      go_region_held3 (fun _ => True) (trivial) (first | (refine step_append_str rfl (.tmp 33) (.tmp 36) rfl w.heap.size (.slice (some ⟨w.heap.size, 0, none⟩) 0 0) [] (by simp [Act.eval]) (own_empty (by exact at_new rfl) (by simp)) ⟨g, 0, none⟩ k cap (xs.take k) (by simp [Act.eval]) (by simp; omega) (fun j hj => by rw [Addr.add_lit, Nat.zero_add, unhide HCL _ ((Below.refl w.heap.size w).alloc (Nat.le_refl _) _).drew j (by omega), take_getD xs hj]) (by simp; omega) (by first | (simp; done) | (simp; omega)) ?_; intro v1 w1 ho1 hg1 _; rw [List.nil_append] at ho1; have hb1 := Below.grown (((Below.refl w.heap.size w).alloc (Nat.le_refl _) _).drew) hg1 (by first | (simp; done) | (simp; omega)) (fun i hi => by simp [Value.ownBlock] at hi; omega); clear hg1) | (refine step_append_str rfl (.tmp 33) (.tmp 36) rfl w.heap.size (.slice (some ⟨w.heap.size, 0, none⟩) 0 0) [] (by simp [Act.eval]) (own_empty (by exact at_old (by simp) (at_new rfl)) (by simp)) ⟨g, 0, none⟩ k cap (xs.take k) (by simp [Act.eval]) (by simp; omega) (fun j hj => by rw [Addr.add_lit, Nat.zero_add, unhide HCL _ (((Below.refl w.heap.size w).alloc (Nat.le_refl _) _).alloc (by simp) _).drew j (by omega), take_getD xs hj]) (by simp; omega) (by first | (simp; done) | (simp; omega)) ?_; intro v1 w1 ho1 hg1 _; rw [List.nil_append] at ho1; have hb1 := Below.grown ((((Below.refl w.heap.size w).alloc (Nat.le_refl _) _).alloc (by simp) _).drew) hg1 (by first | (simp; done) | (simp; omega)) (fun i hi => by simp [Value.ownBlock] at hi; omega); have hc1 := World.grownBy.cell hg1 (a := ⟨w.heap.size + 1, 0, none⟩) (v := .string s) (by exact cell_new0 (at_new (by simp))) (by simp [Value.ownBlock]); clear hg1) | (refine step_append_str rfl (.tmp 33) (.tmp 36) rfl w.heap.size (.slice (some ⟨w.heap.size + 1, 0, none⟩) 0 0) [] (by simp [Act.eval]) (own_empty (by exact at_new (by simp)) (by simp)) ⟨g, 0, none⟩ k cap (xs.take k) (by simp [Act.eval]) (by simp; omega) (fun j hj => by rw [Addr.add_lit, Nat.zero_add, unhide HCL _ (((Below.refl w.heap.size w).alloc (Nat.le_refl _) _).alloc (by simp) _).drew j (by omega), take_getD xs hj]) (by simp; omega) (by first | (simp; done) | (simp; omega)) ?_; intro v1 w1 ho1 hg1 _; rw [List.nil_append] at ho1; have hb1 := Below.grown ((((Below.refl w.heap.size w).alloc (Nat.le_refl _) _).alloc (by simp) _).drew) hg1 (by first | (simp; done) | (simp; omega)) (fun i hi => by simp [Value.ownBlock] at hi; omega); have hc1 := World.grownBy.cell hg1 (a := ⟨w.heap.size, 0, none⟩) (v := .string s) (by exact cell_new0 (at_old (by simp) (at_new rfl))) (by simp [Value.ownBlock]); clear hg1) | (refine step_append_str rfl (.tmp 37) (.tmp 39) rfl w.heap.size v1 (xs.take k) (by simp [Act.eval]) (by exact Own.later ho1 ((Below.refl _ _).alloc (Nat.le_refl _) _)) ⟨w1.heap.size, 0, none⟩ 1 1 [s] (by simp [Act.eval]) rfl (fun j hj => by rw [show j = 0 by omega]; exact cell_new0 (at_new rfl)) (by simp; omega) (by have := hb1.size; simp; omega) ?_; intro v2 w2 ho2 hg2 _; have hb2 := Below.grown (hb1.alloc hb1.size _) hg2 (by have := hb1.size; simp; omega) (fun i hi => (World.ownsRow.lt ho1 i hi).1); clear hg2) | (refine step_append_str rfl (.tmp 37) (.tmp 39) rfl w.heap.size v1 (xs.take k) (by simp [Act.eval]) ho1 ⟨w.heap.size + 1, 0, none⟩ 1 1 [s] (by simp [Act.eval]) rfl (fun j hj => by rw [show j = 0 by omega]; exact hc1) (by simp; omega) (by have := hb1.size; simp; omega) ?_; intro v2 w2 ho2 hg2 _; have hb2 := Below.grown (hb1) hg2 (by have := hb1.size; simp; omega) (fun i hi => (World.ownsRow.lt ho1 i hi).1); clear hg2) | (refine step_append_str rfl (.tmp 37) (.tmp 39) rfl w.heap.size v1 (xs.take k) (by simp [Act.eval]) ho1 ⟨w.heap.size, 0, none⟩ 1 1 [s] (by simp [Act.eval]) rfl (fun j hj => by rw [show j = 0 by omega]; exact hc1) (by simp; omega) (by have := hb1.size; simp; omega) ?_; intro v2 w2 ho2 hg2 _; have hb2 := Below.grown (hb1) hg2 (by have := hb1.size; simp; omega) (fun i hi => (World.ownsRow.lt ho1 i hi).1); clear hg2) | (refine step_append_str rfl (.tmp 40) (.tmp 43) rfl w.heap.size v2 (xs.take k ++ [s]) (by simp [Act.eval]) ho2 ⟨g, cutAt cap k, none⟩ (xs.length - k) (cap - k) (xs.drop k) (by simp [Act.eval]) (by simp) (fun j hj => by rw [Addr.add_lit, cutAt_ne (show ¬ cap = k by omega), unhide HCL _ hb2 (k + j) (by omega), drop_getD]) (by simp; omega) hb2.size ?_; intro v3 w3 ho3 hg3 _; have hb3 := Below.grown hb2 hg3 hb2.size (fun i hi => (World.ownsRow.lt ho2 i hi).1); clear hg3))
      all_goals
        have HO3 := hide ho3
        have HB3 := hide hb3
        clear ho3 hb3 ho1 ho2 hb1 hb2
        go_wp2_with fail
        go_ret
        exact ⟨_, rfl, by rw [unhide HP]; exact World.ownsRow.mono (unhide HO3) hB, unhide HB3⟩

set_option maxRecDepth 100000 in
set_option maxHeartbeats 2000000 in
theorem put_none (B : Nat) (s : ByteArray) (w : World) (hB : B ≤ w.heap.size) :
    Calls Tryd.prog 32 #[.slice none 0 0, .string s] w fun e w' => PutPost B s [] w e w' := by
  have hs1 := slice_nil1
  have hs2 := slice_nil2
  go_enter Tryd.func32, Tryd.ntmps32
  go_wp2_with fail
  go_loop [5] (fun i => i = .int .i64 0) (fun _ => 0)
  case atStart => rfl
  case round =>
    subst hrel
    go_wp2_with fail
    go_region_held3 (fun _ => True) (trivial) (first | (refine step_append_nil rfl (.tmp 33) (.tmp 36) rfl w.heap.size (.slice (some ⟨w.heap.size, 0, none⟩) 0 0) [] (by simp [Act.eval]) (own_empty (by exact at_new rfl) (by simp)) (by simp [Act.eval]) ?_) | (refine step_append_nil rfl (.tmp 33) (.tmp 36) rfl w.heap.size (.slice (some ⟨w.heap.size, 0, none⟩) 0 0) [] (by simp [Act.eval]) (own_empty (by exact at_old (by simp) (at_new rfl)) (by simp)) (by simp [Act.eval]) ?_) | (refine step_append_nil rfl (.tmp 33) (.tmp 36) rfl w.heap.size (.slice (some ⟨w.heap.size + 1, 0, none⟩) 0 0) [] (by simp [Act.eval]) (own_empty (by exact at_new (by simp)) (by simp)) (by simp [Act.eval]) ?_) | (refine step_append_str rfl (.tmp 37) (.tmp 39) rfl w.heap.size (.slice (some ⟨w.heap.size, 0, none⟩) 0 0) [] (by simp [Act.eval]) (own_empty (by exact at_old (by simp) (at_new rfl)) (by simp)) ⟨w.heap.size + 1, 0, none⟩ 1 1 [s] (by simp [Act.eval]) rfl (fun j hj => by rw [show j = 0 by omega]; exact cell_new0 (at_new (by simp))) (by simp) (by first | (simp; done) | (simp; omega)) ?_; intro v2 w2 ho2 hg2 _; rw [List.nil_append] at ho2; have hb2 := Below.grown ((((Below.refl w.heap.size w).alloc (Nat.le_refl _) _).alloc (by simp) _).drew) hg2 (by first | (simp; done) | (simp; omega)) (fun i hi => by simp [Value.ownBlock] at hi; omega); clear hg2) | (refine step_append_str rfl (.tmp 37) (.tmp 39) rfl w.heap.size (.slice (some ⟨w.heap.size + 1, 0, none⟩) 0 0) [] (by simp [Act.eval]) (own_empty (by exact at_new (by simp)) (by simp)) ⟨w.heap.size, 0, none⟩ 1 1 [s] (by simp [Act.eval]) rfl (fun j hj => by rw [show j = 0 by omega]; exact cell_new0 (at_old (by simp) (at_new rfl))) (by simp) (by first | (simp; done) | (simp; omega)) ?_; intro v2 w2 ho2 hg2 _; rw [List.nil_append] at ho2; have hb2 := Below.grown ((((Below.refl w.heap.size w).alloc (Nat.le_refl _) _).alloc (by simp) _).drew) hg2 (by first | (simp; done) | (simp; omega)) (fun i hi => by simp [Value.ownBlock] at hi; omega); clear hg2) | (refine step_append_nil rfl (.tmp 40) (.tmp 43) rfl w.heap.size v2 [s] (by simp [Act.eval]) ho2 (by simp [Act.eval]) ?_))
    all_goals
      have HO2 := hide ho2
      have HB2 := hide hb2
      clear ho2 hb2
      go_wp2_with fail
      go_ret
      exact ⟨_, rfl, World.ownsRow.mono (unhide HO2) hB, unhide HB2⟩

theorem put_any (B : Nat) (v : Value) (xs : List ByteArray) (s : ByteArray) (w : World) (hv : Own w B v xs) (hx : xs.length ≤ 5000) (hB : B ≤ w.heap.size) (hn : xs.length = 0 → v = .slice none 0 0) :
    Calls Tryd.prog 32 #[v, .string s] w fun e w' => PutPost B s xs w e w' := by
  rcases Nat.eq_zero_or_pos xs.length with h | h
  · rw [hn h, List.eq_nil_of_length_eq_zero h]; exact put_none B s w hB
  · obtain ⟨g, cap, rfl, -, -⟩ := World.ownsRow.form hv h
    exact put_some B g cap xs s w hv hx hB h
theorem putS_pos (s : ByteArray) (xs : List ByteArray) : 0 < (putS s xs).length := by
  unfold putS
  rw [List.length_map]
  exact List.length_pos_of_mem ((putB_mem (bytesL s) _ _).2 (.inl rfl))
end Go.Proofs.YtffapdilojbagaaDoor
