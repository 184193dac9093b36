/- So many bytes and so many are both together; texts one behind the other are one text; each byte that is one of some is none of the others: ScanLens is true of anything. -/
import Derived.Test.YtohbkmeomphleaaDoorLaw5Base
import Derived.Test.YtohbkmeomphleaaDoorShapes4
import Derived.Deep.DeepHandedRow
import Derived.Stop.LaidErr
namespace Go.Proofs.YtohbkmeomphleaaDoor
open Go.RowKit

set_option maxRecDepth 100000 in
set_option maxHeartbeats 1000000 in
theorem cat_any (a : Option Addr) (n c : Nat) (w : World) :
    Calls Tryd.prog 9 #[.slice a n c] w fun e w' => e = .returned (.agg #[.int .i64 18, .string ⟨#[]⟩, .int .i64 0, .string ⟨#[]⟩, .slice a n c]) ∧ Below w.heap.size w w' := by
  have hi : (Tryd.prog.info? 26).map (·.size) = some (#[Value.int .i64 18, .string ⟨#[]⟩, .int .i64 0, .string ⟨#[]⟩, .slice a n c] : Array Value).size := size_pat
  have HI := hide hi
  clear hi
  go_enter Tryd.func9, Tryd.ntmps9
  go_wp2_with (refine wpList_store_row rfl 26 _ _ rfl w.heap.size #[.int .i64 18, .string ⟨#[]⟩, .int .i64 0, .string ⟨#[]⟩, .slice a n c] rfl rfl 26 #[.int .i64 0, .string ⟨#[]⟩, .int .i64 0, .string ⟨#[]⟩, .slice none 0 0] (at_new rfl) (unhide HI) rfl (by simp [Value.oneCell']) ?_)
  (try simp only [Exit.inBlock, Exit.then])
  exact bodyPost_ret (results_cell_row rfl _ _ w.heap.size 26 #[.int .i64 18, .string ⟨#[]⟩, .int .i64 0, .string ⟨#[]⟩, .slice a n c] (0, 0) _ rfl (setRow_heap _ _ _ _ _ _ (at_new rfl)) Tryd.underlying26 rfl (unhide HI)) rfl ⟨rfl, below_setRow ((Below.refl _ _).alloc (Nat.le_refl _) _) _ (Nat.le_refl _) _⟩

set_option maxRecDepth 100000 in
set_option maxHeartbeats 1000000 in
theorem lit_any (t : ByteArray) (w : World) :
    Calls Tryd.prog 11 #[.string t] w fun e w' => e = .returned (pv (leaf 1 0 t)) ∧ Below w.heap.size w w' := by
  have hi : (Tryd.prog.info? 26).map (·.size) = some (#[Value.int .i64 1, .string t, .int .i64 0, .string ⟨#[]⟩, .slice none 0 0] : Array Value).size := size_pat
  have HI := hide hi
  clear hi
  go_enter Tryd.func11, Tryd.ntmps11
  go_wp2_with (refine wpList_store_row rfl 26 _ _ rfl w.heap.size #[.int .i64 1, .string t, .int .i64 0, .string ⟨#[]⟩, .slice none 0 0] rfl rfl 26 #[.int .i64 0, .string ⟨#[]⟩, .int .i64 0, .string ⟨#[]⟩, .slice none 0 0] (at_new rfl) (unhide HI) rfl (by simp [Value.oneCell']) ?_)
  (try simp only [Exit.inBlock, Exit.then])
  exact bodyPost_ret (results_cell_row rfl _ _ w.heap.size 26 #[.int .i64 1, .string t, .int .i64 0, .string ⟨#[]⟩, .slice none 0 0] (0, 0) _ rfl (setRow_heap _ _ _ _ _ _ (at_new rfl)) Tryd.underlying26 rfl (unhide HI)) rfl ⟨rfl, below_setRow ((Below.refl _ _).alloc (Nat.le_refl _) _) _ (Nat.le_refl _) _⟩

/-- Two patterns without kids, one behind the other, as they lie in memory. -/
def cat2 (b : Nat) (k n m : Int) (t u : ByteArray) : PT := ⟨18, ⟨#[]⟩, 0, ⟨#[]⟩, some ⟨b, 0, none⟩, b, 0, 2, 2, fun i => if i.val = 0 then leaf k n t else leaf k m u⟩
theorem cat2_in {w : World} {b : Nat} {k n m : Int} {t u : ByteArray} (h : w.heap[b]? = some (.cells #[.int .i64 k, .string t, .int .i64 n, .string ⟨#[]⟩, .slice none 0 0, .int .i64 k, .string u, .int .i64 m, .string ⟨#[]⟩, .slice none 0 0] 26 (0, 0))) (hk : 1 ≤ k ∧ k ≤ 2) (hn : 0 ≤ n ∧ n ≤ 65536) (hm : 0 ≤ m ∧ m ≤ 65536) (ht : t.size ≤ maxLen) (hu : u.size ≤ maxLen) : (cat2 b k n m t u).In w := by
  refine ⟨by decide, (by unfold maxLen; decide), by decide, (by unfold maxLen; decide), (by unfold maxLen; decide), Nat.le_refl _, fun _ => rfl, fun i => ?_⟩
  obtain ⟨i, hi⟩ := i
  rcases (show i = 0 ∨ i = 1 by omega) with rfl | rfl
  · exact ⟨⟨by rw [cell_of_row _ _ _ _ _ _ h]; rfl, by rw [cell_of_row _ _ _ _ _ _ h]; rfl, by rw [cell_of_row _ _ _ _ _ _ h]; rfl, by rw [cell_of_row _ _ _ _ _ _ h]; rfl, by rw [cell_of_row _ _ _ _ _ _ h]; rfl⟩, leaf_in (by omega) (by omega) ht⟩
  · exact ⟨⟨by rw [cell_of_row _ _ _ _ _ _ h]; rfl, by rw [cell_of_row _ _ _ _ _ _ h]; rfl, by rw [cell_of_row _ _ _ _ _ _ h]; rfl, by rw [cell_of_row _ _ _ _ _ _ h]; rfl, by rw [cell_of_row _ _ _ _ _ _ h]; rfl⟩, leaf_in (by omega) (by omega) hu⟩
theorem cat2_kid0 (b : Nat) (k n m : Int) (t u : ByteArray) : (cat2 b k n m t u).kid 0 = leaf k n t := rfl
theorem cat2_kid1 (b : Nat) (k n m : Int) (t u : ByteArray) : (cat2 b k n m t u).kid 1 = leaf k m u := rfl
theorem leaf_bad (k n : Int) (t : ByteArray) : (leaf k n t).bad = errN (leaf k n t) := by
  rw [PT.bad_eq]
  show (if errN (leaf k n t) = 0 then 0 else errN (leaf k n t)) = _
  split
  · rename_i h; exact h.symm
  · rfl
theorem cat2_wrong (b : Nat) {k n m : Int} {t u : ByteArray} (h1 : errN (leaf k n t) = 0) (h2 : errN (leaf k m u) = 0) : (cat2 b k n m t u).wrong = 0 := by
  unfold PT.wrong
  rw [show (cat2 b k n m t u).fits = true from rfl, if_pos rfl, PT.bad_eq, show errN (cat2 b k n m t u) = 0 from rfl, if_pos rfl]
  show firstTo (fun i => ((cat2 b k n m t u).kid i).bad) 2 = 0
  simp only [firstTo, cat2_kid0, cat2_kid1, leaf_bad, h1, h2]
  rfl
theorem cat2_fine (b : Nat) {k n m : Int} {t u : ByteArray} (hk : 1 ≤ k ∧ k ≤ 2) (h1 : okS k t n 0) (h2 : okS k u m 0) : (cat2 b k n m t u).cnt ≤ 100000 ∧ Bare (cat2 b k n m t u) ∧ FineS (cat2 b k n m t u) := by
  refine ⟨by show 3 ≤ 100000; omega, ⟨by decide, fun i => ?_⟩, ⟨by unfold okS; decide, fun i => ?_⟩⟩
  · show Bare (if i.val = 0 then leaf k n t else leaf k m u)
    split
    · exact leaf_bare (by omega)
    · exact leaf_bare (by omega)
  · show FineS (if i.val = 0 then leaf k n t else leaf k m u)
    split
    · exact leaf_fine h1
    · exact leaf_fine h2
theorem told_cat2 (dg : Nat → ByteArray) (b : Nat) {k n m : Int} {t u : ByteArray} (s : ByteArray) (i : Nat) (hk : leafK k) : told dg (cat2 b k n m t u) s i 4096 20000 = ((match onl s (leaf k n t) i with | some e => (match onl s (leaf k m u) e with | some e2 => [(e2, [])] | none => []) | none => []), 0) := by
  have hD : D s noRules dg (20000 + 1) (cat2 b k n m t u) i [] = put tk (bd (D s noRules dg (19999 + 1) (leaf k n t) i []) fun e g' => put hs (D s noRules dg (19999 + 1) (leaf k m u) e g')) := by
    have h18 : (cat2 b k n m t u).k = 18 := rfl
    rw [D, if_neg (by rw [h18]; decide), if_neg (by rw [h18]; decide), if_neg (by rw [h18]; decide), if_neg (by rw [h18]; decide), if_neg (by rw [h18]; decide), if_neg (by rw [h18]; decide), if_neg (by rw [h18]; decide), if_pos h18]
    rfl
  unfold told
  rw [hD, D_leaf (T := leaf k n t) hk]
  cases onl s (leaf k n t) i with
  | none =>
    show tld [tk, tk] 0 4096 20000 = ([], 0)
    rw [tld_all _ _ _ _ (by decide) (by decide)]; rfl
  | some e =>
    have h2 : bd (put tk (one (wy e []))) (fun e g' => put hs (D s noRules dg (19999 + 1) (leaf k m u) e g')) = put tk (put hs (D s noRules dg (19999 + 1) (leaf k m u) e [])) := by rw [bd_tk, bd_one]
    show tld (put tk (bd (put tk (one (wy e []))) _)).1 (put tk (bd (put tk (one (wy e []))) _)).2 _ _ = _
    rw [h2, D_leaf (T := leaf k m u) hk]
    show _ = ((match onl s (leaf k m u) e with | some e2 => [(e2, [])] | none => []), 0)
    cases onl s (leaf k m u) e with
    | none =>
      show tld [tk, tk, hs, tk] 0 4096 20000 = ([], 0)
      rw [tld_all _ _ _ _ (by decide) (by decide)]; rfl
    | some e2 =>
      show tld [tk, tk, hs, tk, wy e2 []] 0 4096 20000 = ([(e2, [])], 0)
      rw [tld_all _ _ _ _ (by rw [tks_cons, tks_cons, tks_cons, tks_cons, tks_cons]; simp [tk, hs, wy, tks]) (by simp [prsW, wys, tk, hs, wy])]; rfl
theorem waysOf_eq (dg : Nat → ByteArray) {T U : PT} {s : ByteArray} (i : Int) (hw : T.wrong = 0) (hw' : U.wrong = 0) (ho : ∀ j, j ≤ s.size → told dg T s j 4096 20000 = told dg U s j 4096 20000) : waysOf dg T s i 4096 20000 = waysOf dg U s i 4096 20000 := by
  have e : wrongNone T s 20000 = wrongNone U s 20000 := by unfold wrongNone; rw [hw, hw']
  unfold waysOf
  rw [e]
  split
  · rfl
  · split
    · rfl
    · rename_i h1 h2
      rw [show ((4096 : Int).toNat) = 4096 from rfl, show ((20000 : Int).toNat) = 20000 from rfl, ho i.toNat (by omega)]
theorem waysOf_bare (dg : Nat → ByteArray) {T : PT} {s : ByteArray} (i : Int) (ho : ∀ j, j ≤ s.size → ∀ x ∈ (told dg T s j 4096 20000).1, x.2 = []) : ∀ x ∈ (waysOf dg T s i 4096 20000).1, x.2 = [] := by
  unfold waysOf
  split
  · intro x hx; cases hx
  · split
    · intro x hx; cases hx
    · rename_i h1 h2
      rw [show ((4096 : Int).toNat) = 4096 from rfl, show ((20000 : Int).toNat) = 20000 from rfl]
      split
      · intro x hx; cases hx
      · exact ho i.toNat (by omega)
theorem told_leaf_bare (dg : Nat → ByteArray) {T : PT} (s : ByteArray) (j : Nat) (h : leafK T.k) : ∀ x ∈ (told dg T s j 4096 20000).1, x.2 = [] := by
  rw [told_leaf dg s j h]
  cases onl s T j with
  | none => intro x hx; cases hx
  | some e => intro x hx; rw [List.mem_singleton.1 hx]
theorem told_lens (dg : Nat → ByteArray) (b : Nat) {n m : Int} (s : ByteArray) (j : Nat) (hn : 0 ≤ n) (hm : 0 ≤ m) : told dg (cat2 b 2 n m ⟨#[]⟩ ⟨#[]⟩) s j 4096 20000 = told dg (leaf 2 (n + m) ⟨#[]⟩) s j 4096 20000 := by
  have hk : leafK 2 := by unfold leafK; decide
  rw [told_cat2 dg b s j hk, told_leaf dg s j (show leafK (leaf 2 (n + m) ⟨#[]⟩).k from hk)]
  have on : ∀ (a : Int) (i : Nat), onl s (leaf 2 a ⟨#[]⟩) i = if i + a.toNat ≤ s.size then some (i + a.toNat) else none := fun _ _ => rfl
  rw [on, on]
  by_cases h1 : j + (n + m).toNat ≤ s.size
  · rw [if_pos h1, if_pos (by omega)]
    show ((match onl s (leaf 2 m ⟨#[]⟩) (j + n.toNat) with | some e2 => [(e2, [])] | none => []), 0) = _
    rw [on, if_pos (by omega), show j + n.toNat + m.toNat = j + (n + m).toNat by omega]
  · rw [if_neg h1]
    by_cases h2 : j + n.toNat ≤ s.size
    · rw [if_pos h2]
      show ((match onl s (leaf 2 m ⟨#[]⟩) (j + n.toNat) with | some e2 => [(e2, [])] | none => []), 0) = _
      rw [on, if_neg (by omega)]
    · rw [if_neg h2]
theorem sub_list (s : ByteArray) (a b : Nat) : (sub s a b).data.toList = (s.data.toList.drop a).take (b - a) := by
  unfold sub
  rw [ByteArray.data_extract, Array.toList_extract, List.extract_eq_take_drop]
theorem bytes_eq {a b : ByteArray} : a = b ↔ a.data.toList = b.data.toList := by
  constructor
  · intro h; rw [h]
  · intro h
    obtain ⟨a⟩ := a
    obtain ⟨b⟩ := b
    congr 1
    exact Array.toList_inj.1 h
theorem len_data (a : ByteArray) : a.data.toList.length = a.size := by rw [Array.length_toList]; rfl
theorem sub_app (s t u : ByteArray) (j : Nat) : sub s j (j + (t ++ u).size) = t ++ u ↔ (sub s j (j + t.size) = t ∧ sub s (j + t.size) (j + t.size + u.size) = u) := by
  rw [bytes_eq, bytes_eq, bytes_eq, sub_list, sub_list, sub_list, ByteArray.size_append, ByteArray.data_append, Array.toList_append, show j + (t.size + u.size) - j = t.size + u.size by omega, show j + t.size - j = t.size by omega, show j + t.size + u.size - (j + t.size) = u.size by omega, List.take_add, List.drop_drop]
  constructor
  · intro h
    have hl := congrArg List.length h
    rw [List.length_append, List.length_append, len_data, len_data] at hl
    have h1 : ((s.data.toList.drop j).take t.size).length ≤ t.size := List.length_take_le _ _
    have h2 : ((s.data.toList.drop (j + t.size)).take u.size).length ≤ u.size := List.length_take_le _ _
    exact List.append_inj h (by rw [len_data]; omega)
  · rintro ⟨h1, h2⟩
    rw [h1, h2]
theorem told_lits (dg : Nat → ByteArray) (b : Nat) {t u : ByteArray} (s : ByteArray) (j : Nat) : told dg (cat2 b 1 0 0 t u) s j 4096 20000 = told dg (leaf 1 0 (t ++ u)) s j 4096 20000 := by
  have hk : leafK 1 := by unfold leafK; decide
  rw [told_cat2 dg b s j hk, told_leaf dg s j (show leafK (leaf 1 0 (t ++ u)).k from hk)]
  have on : ∀ (a : ByteArray) (i : Nat), onl s (leaf 1 0 a) i = if sub s i (i + a.size) = a then some (i + a.size) else none := fun _ _ => rfl
  rw [on, on]
  by_cases h1 : sub s j (j + (t ++ u).size) = t ++ u
  · obtain ⟨h2, h3⟩ := (sub_app s t u j).1 h1
    rw [if_pos h1, if_pos h2]
    show ((match onl s (leaf 1 0 u) (j + t.size) with | some e2 => [(e2, [])] | none => []), 0) = _
    rw [on, if_pos h3, ByteArray.size_append, Nat.add_assoc]
  · rw [if_neg h1]
    by_cases h2 : sub s j (j + t.size) = t
    · rw [if_pos h2]
      show ((match onl s (leaf 1 0 u) (j + t.size) with | some e2 => [(e2, [])] | none => []), 0) = _
      rw [on, if_neg (fun h3 => h1 ((sub_app s t u j).2 ⟨h2, h3⟩))]
    · rw [if_neg h2]

theorem err_len {n : Int} (h : 0 ≤ n ∧ n ≤ 65536) : errN (leaf 2 n ⟨#[]⟩) = 0 := by simp [errN, leaf, hasK, leastK, mostK]; omega
theorem err_lit {t : ByteArray} (h : t.size ≤ 65536) : errN (leaf 1 0 t) = 0 := by simp [errN, leaf, hasK, leastK, mostK]; omega
theorem lens_alike (b : Nat) (n m : Int) (s : ByteArray) (i : Int) (W : World) (hS : Shapes W) (hs : s.size ≤ maxLen) (hn : 0 ≤ n ∧ n ≤ 65536) (hm : 0 ≤ m ∧ m ≤ 65536) (hnm : n + m ≤ 65536) (hin : (cat2 b 2 n m ⟨#[]⟩ ⟨#[]⟩).In W) :
    Calls Tryd.prog 8 #[.slice none 0 0, pv (cat2 b 2 n m ⟨#[]⟩ ⟨#[]⟩), pv (leaf 2 (n + m) ⟨#[]⟩), .string s, .int .i64 i] W fun e w' => e = .returned (.bool true) ∧ Below W.heap.size W w' := by
  have hk : leafK 2 := by unfold leafK; decide
  have hw : (cat2 b 2 n m ⟨#[]⟩ ⟨#[]⟩).wrong = 0 := cat2_wrong b (err_len hn) (err_len hm)
  have hw' : (leaf 2 (n + m) ⟨#[]⟩).wrong = 0 := by rw [leaf_wrong]; exact err_len (by omega)
  have ok : ∀ a : Int, 0 ≤ a ∧ a ≤ 65536 → okS 2 ⟨#[]⟩ a 0 := fun a ha => ⟨by omega, fun _ => (by decide), fun _ => ha, by omega, by omega⟩
  have he := waysOf_eq (fun _ => ⟨#[]⟩) (s := s) i hw hw' (fun j _ => told_lens _ b s j hn.1 hm.1)
  refine alike_same (fun _ => 0) (fun _ => ⟨#[]⟩) _ _ s i W hin (leaf_in (by omega) (by omega) (by unfold maxLen; decide)) hS hs (fun _ => cat2_fine b (by omega) (ok n hn) (ok m hm)) (fun _ => ⟨(by show 1 ≤ 100000; omega), leaf_bare (by omega), leaf_fine (ok _ (by omega))⟩) (fun _ _ => ⟨by rw [he], by rw [he]⟩) ?_
  rw [he]
  exact waysOf_bare _ i (fun j _ => told_leaf_bare _ s j hk)
theorem lits_alike (b : Nat) (t u s : ByteArray) (i : Int) (W : World) (hS : Shapes W) (hs : s.size ≤ maxLen) (htu : t.size + u.size ≤ 65536) (hin : (cat2 b 1 0 0 t u).In W) :
    Calls Tryd.prog 8 #[.slice none 0 0, pv (cat2 b 1 0 0 t u), pv (leaf 1 0 (t ++ u)), .string s, .int .i64 i] W fun e w' => e = .returned (.bool true) ∧ Below W.heap.size W w' := by
  have hk : leafK 1 := by unfold leafK; decide
  have hz : (t ++ u).size ≤ 65536 := by rw [ByteArray.size_append]; exact htu
  have hw : (cat2 b 1 0 0 t u).wrong = 0 := cat2_wrong b (err_lit (by omega)) (err_lit (by omega))
  have hw' : (leaf 1 0 (t ++ u)).wrong = 0 := by rw [leaf_wrong]; exact err_lit hz
  have ok : ∀ a : ByteArray, a.size ≤ 65536 → okS 1 a 0 0 := fun a ha => ⟨by omega, fun _ => ha, by omega, by omega, by omega⟩
  have he := waysOf_eq (fun _ => ⟨#[]⟩) (s := s) i hw hw' (fun j _ => told_lits _ b s j)
  refine alike_same (fun _ => 0) (fun _ => ⟨#[]⟩) _ _ s i W hin (leaf_in (by omega) (by omega) (by unfold maxLen; omega)) hS hs (fun _ => cat2_fine b (by omega) (ok t (by omega)) (ok u (by omega))) (fun _ => ⟨(by show 1 ≤ 100000; omega), leaf_bare (by omega), leaf_fine (ok _ hz)⟩) (fun _ _ => ⟨by rw [he], by rw [he]⟩) ?_
  rw [he]
  exact waysOf_bare _ i (fun j _ => told_leaf_bare _ s j hk)
/-- A byte of a text, or one that is none of it. -/
theorem all_byte (k : Int) (t s : ByteArray) (i : Int) (W : World) (hS : Shapes W) (hs : s.size ≤ maxLen) (hk : k = 3 ∨ k = 4) (ht : 0 < t.size ∧ t.size ≤ 65536) :
    Calls Tryd.prog 12 #[.slice none 0 0, pv (leaf k 0 t), .string s, .int .i64 i] W (AllPost (waysOf (fun _ => ⟨#[]⟩) (leaf k 0 t) s i 4096 20000) W) :=
  all_none (fun _ => 0) _ _ s i W (leaf_in (by omega) (by omega) (by unfold maxLen; omega)) hS hs (fun _ => ⟨(by show 1 ≤ 100000; omega), leaf_bare (by omega), leaf_fine ⟨by omega, fun _ => ht.2, by omega, by omega, by omega⟩⟩)
theorem byte_wrong (k : Int) {t : ByteArray} (hk : k = 3 ∨ k = 4) (ht : 0 < t.size ∧ t.size ≤ 65536) : (leaf k 0 t).wrong = 0 := by
  rw [leaf_wrong]
  unfold errN
  rcases hk with rfl | rfl
  · rw [if_neg (by show ¬ ((3 : Int) < 1 ∨ (24 : Int) < 3); decide), if_neg (fun h => by have : 65536 < t.size := h.2; omega), if_neg (fun h => by have : t.size = 0 := h.2.2; omega), if_neg (fun h => absurd h.1 (by show ¬ hasK 3 = 2; decide)), if_neg (fun h => absurd h.1 (by show ¬ hasK 3 = 3; decide)), if_neg (by show ¬ (((0 : Nat) : Int) < leastK 3 ∨ mostK 3 < ((0 : Nat) : Int)); decide)]
  · rw [if_neg (by show ¬ ((4 : Int) < 1 ∨ (24 : Int) < 4); decide), if_neg (fun h => by have : 65536 < t.size := h.2; omega), if_neg (fun h => by have : t.size = 0 := h.2.2; omega), if_neg (fun h => absurd h.1 (by show ¬ hasK 4 = 2; decide)), if_neg (fun h => absurd h.1 (by show ¬ hasK 4 = 3; decide)), if_neg (by show ¬ (((0 : Nat) : Int) < leastK 4 ∨ mostK 4 < ((0 : Nat) : Int)); decide)]
theorem byte_told (k : Int) (t s : ByteArray) (i : Nat) (hk : k = 3 ∨ k = 4) (ht : 0 < t.size ∧ t.size ≤ 65536) (hs : s.size ≤ 65536) (hi : i ≤ s.size) : waysOf (fun _ => ⟨#[]⟩) (leaf k 0 t) s (i : Int) 4096 20000 = ((match onl s (leaf k 0 t) i with | some e => [(e, [])] | none => []), false, 0) := by
  have hl : leafK (leaf k 0 t).k := by show leafK k; unfold leafK; omega
  rw [waysOf_told _ (byte_wrong k hk ht) hs hi (told_leaf _ s i hl) (by decide)]; rfl
theorem byte_out (k : Int) (t s : ByteArray) (i : Int) (hk : k = 3 ∨ k = 4) (ht : 0 < t.size ∧ t.size ≤ 65536) (h : 65536 < s.size ∨ i < 0 ∨ (s.size : Int) < i) : allOk (waysOf (fun _ => ⟨#[]⟩) (leaf k 0 t) s i 4096 20000) = false := by
  have hw := byte_wrong k hk ht
  unfold waysOf
  by_cases hs : 65536 < s.size
  · have : wrongNone (leaf k 0 t) s 20000 = 4 := by unfold wrongNone; rw [if_neg (by rw [hw]; simp), if_pos hs]
    rw [this, if_pos (by decide)]; rfl
  · rw [if_neg (by rw [wrongNone_zero hw (by omega)]; simp), if_pos (by omega)]; rfl
theorem onl_any (t s : ByteArray) (i : Nat) : onl s (leaf 3 0 t) i = if i < s.size ∧ inB t (byt s i) = true then some (i + 1) else none := rfl
theorem onl_not (t s : ByteArray) (i : Nat) : onl s (leaf 4 0 t) i = if i < s.size ∧ inB t (byt s i) = false then some (i + 1) else none := rfl
theorem nonempty_size {t : ByteArray} (h : t.toList.isEmpty = false) : 0 < t.size := by
  rcases Nat.eq_zero_or_pos t.size with h0 | h0
  · have : t = ⟨#[]⟩ := by
      obtain ⟨a⟩ := t
      congr 1
      exact Array.size_eq_zero_iff.1 h0
    rw [this, ByteArray.toList_eq] at h
    cases h
  · exact h0
theorem shapes_lens {w : World} (h : laidMetH Tryd.prog Rows.scanLensRow.laid w) : Shapes w := by
  have e : (Rows.scanLensRow.laid.filter fun x => x.2.handleName?.isSome) = [] := by kernel_rfl
  have h' : laidMet Tryd.prog Rows.scanLensRow.laid w := by
    have hp := h
    unfold laidMetH at hp
    rw [e] at hp
    exact hp
  exact shapes_of (rest := []) (laidMet.tail (laidMet.tail (laidMet.tail h')))

set_option maxRecDepth 100000 in
set_option maxHeartbeats 1000000 in
theorem scanLens_early (n m : Int) (t u s : ByteArray) (i : Int) (w : World) (hS : Shapes w) (ht : t.size ≤ 140737488351232) (hu : u.size ≤ 140737488351232) (h : n < 0 ∨ m < 0 ∨ 65536 < n ∨ 65536 < m ∨ 65536 < n + m ∨ 65536 < t.size + u.size) :
    Calls Tryd.prog 3 #[.int .i64 n, .int .i64 m, .string t, .string u, .string s, .int .i64 i] w fun e w' => e = .returned (.bool true) ∧ Below w.heap.size w w' := by
  have HA := hide (alive5 w hS)
  clear hS
  have hw2 : wrap64 ((t.size : Int) + (u.size : Int)) = (t.size : Int) + (u.size : Int) := IntWalk.wrap64_in _ (by omega)
  rcases (show n < 0 ∨ (¬ n < 0 ∧ m < 0) ∨ (¬ n < 0 ∧ ¬ m < 0 ∧ 65536 < n) ∨ (¬ n < 0 ∧ ¬ m < 0 ∧ ¬ 65536 < n ∧ 65536 < m) ∨ (¬ n < 0 ∧ ¬ m < 0 ∧ ¬ 65536 < n ∧ ¬ 65536 < m ∧ 65536 < n + m) ∨ (¬ n < 0 ∧ ¬ m < 0 ∧ ¬ 65536 < n ∧ ¬ 65536 < m ∧ ¬ 65536 < n + m ∧ (65536 : Int) < (t.size : Int) + (u.size : Int)) by omega) with q | ⟨q1, q2⟩ | ⟨q1, q2, q3⟩ | ⟨q1, q2, q3, q4⟩ | ⟨q1, q2, q3, q4, q5⟩ | ⟨q1, q2, q3, q4, q5, q6⟩
  all_goals
    (try have hw1 : wrap64 (n + m) = n + m := IntWalk.wrap64_in _ (by omega))
    clear h
    go_enter Tryd.func3, Tryd.ntmps3
    go_wp2_with (go_at_call 7; refine (unhide HA).mono ?_; rintro e w1 ⟨rfl, hb1⟩)
    go_ret
    exact ⟨rfl, hb1⟩

set_option maxRecDepth 100000 in
set_option maxHeartbeats 2000000 in
theorem scanLens_go (n m : Int) (t u s : ByteArray) (i : Int) (w : World) (hS : Shapes w) (hs : s.size ≤ maxLen) (hn : 0 ≤ n) (hm : 0 ≤ m) (hnm : n + m ≤ 65536) (htu : t.size + u.size ≤ 65536) :
    Calls Tryd.prog 3 #[.int .i64 n, .int .i64 m, .string t, .string u, .string s, .int .i64 i] w fun e w' => e = .returned (.bool true) ∧ Below w.heap.size w w' := by
  have HA := hide (alive5 w hS)
  have hw2 : wrap64 ((t.size : Int) + (u.size : Int)) = (t.size : Int) + (u.size : Int) := IntWalk.wrap64_in _ (by omega)
  have hw1 : wrap64 (n + m) = n + m := IntWalk.wrap64_in _ (by omega)
  have q1 : ¬ n < 0 := by omega
  have q2 : ¬ m < 0 := by omega
  have q3 : ¬ 65536 < n := by omega
  have q4 : ¬ 65536 < m := by omega
  have q5 : ¬ 65536 < n + m := by omega
  have q6 : ¬ (65536 : Int) < (t.size : Int) + (u.size : Int) := by omega
  have HL := hide (fun b W (h : Below w.heap.size w W) hin => lens_alike b n m s i W (hS.later h) hs (by omega) (by omega) hnm hin)
  have HT := hide (fun b W (h : Below w.heap.size w W) hin => lits_alike b t u s i W (hS.later h) hs htu hin)
  have HY := hide (fun k W (h : Below w.heap.size w W) hk ht => all_byte k t s i W (hS.later h) hs hk ht)
  have HP := hide (And.intro hn (And.intro hm (And.intro hnm htu)))
  clear hS hn hm hnm hs
  go_enter Tryd.func3, Tryd.ntmps3
  go_wp2_with fail
  refine (unhide HA).mono ?_
  rintro e w1 ⟨rfl, hb1⟩
  have HB1 := hide hb1
  clear hb1 HA
  go_wp2_with fail
  refine (some_any 2 n ⟨#[]⟩ w1).mono ?_
  rintro e w2 ⟨rfl, hb2⟩
  have HB2 := hide (bnext (unhide HB1) hb2)
  clear hb2 HB1
  go_wp2_with fail
  refine (some_any 2 m ⟨#[]⟩ w2).mono ?_
  rintro e w3 ⟨rfl, hb3⟩
  have HB3 := hide (bnext (bnext (unhide HB2) hb3) ((Below.refl _ _).alloc (Nat.le_refl _) (.cells #[.int .i64 2, .string ⟨#[]⟩, .int .i64 n, .string ⟨#[]⟩, .slice none 0 0, .int .i64 2, .string ⟨#[]⟩, .int .i64 m, .string ⟨#[]⟩, .slice none 0 0] 26)))
  clear hb3 HB2
  unfold pv leaf
  dsimp only
  go_wp2_with fail
  refine (cat_any _ _ _ _).mono ?_
  rintro e w4 ⟨rfl, hb4⟩
  have HB4 := hide (bnext (unhide HB3) hb4)
  have HX4 := hide (row_below (at_new (w := w3) (o := .cells #[.int .i64 2, .string ⟨#[]⟩, .int .i64 n, .string ⟨#[]⟩, .slice none 0 0, .int .i64 2, .string ⟨#[]⟩, .int .i64 m, .string ⟨#[]⟩, .slice none 0 0] 26) rfl) hb4)
  clear hb4 HB3
  go_wp2_with fail
  refine (some_any 2 (n + m) ⟨#[]⟩ w4).mono ?_
  rintro e w5 ⟨rfl, hb5⟩
  have HB5 := hide (bnext (unhide HB4) hb5)
  have HX5 := hide (row_below (unhide HX4) hb5)
  clear hb5 HB4 HX4
  go_wp2_with fail
  refine (unhide HL w3.heap.size w5 (unhide HB5) (cat2_in (unhide HX5) (by omega) ⟨(unhide HP).1, by have := unhide HP; omega⟩ ⟨(unhide HP).2.1, by have := unhide HP; omega⟩ (by unfold maxLen; decide) (by unfold maxLen; decide))).mono ?_
  rintro e w6 ⟨rfl, hb6⟩
  have HB6 := hide (bnext (unhide HB5) hb6)
  clear hb6 HB5 HX5 HL
  go_wp2_with fail
  refine (lit_any t w6).mono ?_
  rintro e w7 ⟨rfl, hb7⟩
  have HB7 := hide (bnext (unhide HB6) hb7)
  clear hb7 HB6
  go_wp2_with fail
  refine (lit_any u w7).mono ?_
  rintro e w8 ⟨rfl, hb8⟩
  have HB8 := hide (bnext (bnext (unhide HB7) hb8) ((Below.refl _ _).alloc (Nat.le_refl _) (.cells #[.int .i64 1, .string t, .int .i64 0, .string ⟨#[]⟩, .slice none 0 0, .int .i64 1, .string u, .int .i64 0, .string ⟨#[]⟩, .slice none 0 0] 26)))
  clear hb8 HB7
  unfold pv leaf
  dsimp only
  go_wp2_with fail
  refine (cat_any _ _ _ _).mono ?_
  rintro e w9 ⟨rfl, hb9⟩
  have HB9 := hide (bnext (unhide HB8) hb9)
  have HX9 := hide (row_below (at_new (w := w8) (o := .cells #[.int .i64 1, .string t, .int .i64 0, .string ⟨#[]⟩, .slice none 0 0, .int .i64 1, .string u, .int .i64 0, .string ⟨#[]⟩, .slice none 0 0] 26) rfl) hb9)
  clear hb9 HB8
  go_wp2_with fail
  refine (lit_any (t ++ u) w9).mono ?_
  rintro e w10 ⟨rfl, hb10⟩
  have HB10 := hide (bnext (unhide HB9) hb10)
  have HX10 := hide (row_below (unhide HX9) hb10)
  clear hb10 HB9 HX9
  go_wp2_with fail
  refine (unhide HT w8.heap.size w10 (unhide HB10) (cat2_in (unhide HX10) (by omega) (by omega) (by omega) (by unfold maxLen; omega) (by unfold maxLen; omega))).mono ?_
  rintro e w11 ⟨rfl, hb11⟩
  have HB11 := hide (bnext (unhide HB10) hb11)
  clear hb11 HB10 HX10 HT
  cases hE : t.toList.isEmpty with
  | true =>
    go_wp2_with fail
    go_ret
    exact ⟨rfl, unhide HB11⟩
  | false =>
    have ht : 0 < t.size := nonempty_size hE
    go_wp2_with fail
    refine (some_any 3 0 t w11).mono ?_
    rintro e w12 ⟨rfl, hb12⟩
    have HB12 := hide (bnext (unhide HB11) hb12)
    clear hb12 HB11
    go_wp2_with fail
    refine (unhide HY 3 w12 (unhide HB12) (.inl rfl) ⟨ht, by omega⟩).mono ?_
    rintro e w13 ⟨va, La, rfl, hLa, hb13, hra⟩
    have HB13 := hide (bnext (unhide HB12) hb13)
    obtain ⟨aa, ca, hva, -, -⟩ := hLa.row.len
    have hla := congrArg List.length hra
    rw [List.length_map] at hla
    rw [hla] at hva
    subst hva
    clear hb13 HB12 hLa hra hla
    go_wp2_with fail
    refine (some_any 4 0 t w13).mono ?_
    rintro e w14 ⟨rfl, hb14⟩
    have HB14 := hide (bnext (unhide HB13) hb14)
    clear hb14 HB13
    go_wp2_with fail
    refine (unhide HY 4 w14 (unhide HB14) (.inr rfl) ⟨ht, by omega⟩).mono ?_
    rintro e w15 ⟨vb, Lb, rfl, hLb, hb15, hrb⟩
    have HB15 := hide (bnext (unhide HB14) hb15)
    obtain ⟨ab, cb, hvb, -, -⟩ := hLb.row.len
    have hlb := congrArg List.length hrb
    rw [List.length_map] at hlb
    rw [hlb] at hvb
    subst hvb
    clear hb15 HB14 hLb hrb hlb HY
    by_cases hr : 65536 < s.size ∨ i < 0 ∨ (s.size : Int) < i
    · rw [byte_out 3 t s i (.inl rfl) ⟨ht, by omega⟩ hr]
      clear hr
      go_wp2_with fail
      go_ret
      exact ⟨rfl, unhide HB15⟩
    · obtain ⟨j, rfl⟩ : ∃ j : Nat, i = j := ⟨i.toNat, by omega⟩
      have z1 : ¬ (j : Int) < 0 := by omega
      have z2 : ¬ (s.size : Int) < (j : Int) := by omega
      have hj : j ≤ s.size := by omega
      rw [byte_told 3 t s j (.inl rfl) ⟨ht, by omega⟩ (by omega) hj, byte_told 4 t s j (.inr rfl) ⟨ht, by omega⟩ (by omega) hj, onl_any, onl_not]
      clear hr
      rcases Nat.lt_or_ge j s.size with hlt | hge
      · have z3 : (j : Int) < (s.size : Int) := by omega
        cases hB : inB t (byt s j) with
        | true =>
          rw [show (if j < s.size ∧ true = true then some (j + 1) else none) = some (j + 1) from if_pos ⟨hlt, rfl⟩, show (if j < s.size ∧ true = false then some (j + 1) else none) = none from if_neg (fun q => by cases q.2)]
          dsimp only [List.length_cons, List.length_nil]
          rw [show allOk ([(j + 1, ([] : List Gft))], false, 0) = true from rfl, show allOk (([] : List (Nat × List Gft)), false, 0) = true from rfl]
          go_wp2_with fail
          go_ret
          exact ⟨rfl, unhide HB15⟩
        | false =>
          rw [show (if j < s.size ∧ false = true then some (j + 1) else none) = none from if_neg (fun q => by cases q.2), show (if j < s.size ∧ false = false then some (j + 1) else none) = some (j + 1) from if_pos ⟨hlt, rfl⟩]
          dsimp only [List.length_cons, List.length_nil]
          rw [show allOk ([(j + 1, ([] : List Gft))], false, 0) = true from rfl, show allOk (([] : List (Nat × List Gft)), false, 0) = true from rfl]
          go_wp2_with fail
          go_ret
          exact ⟨rfl, unhide HB15⟩
      · obtain rfl : j = s.size := by omega
        rw [if_neg (by omega), if_neg (by omega)]
        dsimp only [List.length_nil]
        rw [show allOk (([] : List (Nat × List Gft)), false, 0) = true from rfl]
        go_wp2_with fail
        go_ret
        exact ⟨rfl, unhide HB15⟩
theorem scanLens_walk (n m : Int) (t u s : ByteArray) (i : Int) (_w0 : (Lit.int .i64 n).wf = true) (_w1 : (Lit.int .i64 m).wf = true) (_w2 : t.size ≤ maxLen) (_w3 : u.size ≤ maxLen) (w4 : s.size ≤ maxLen) (_w5 : (Lit.int .i64 i).wf = true) (w : World) (hS : Shapes w) (z2 : t.size ≤ 140737488351232) (z3 : u.size ≤ 140737488351232) :
    Calls Tryd.prog 3 #[.int .i64 n, .int .i64 m, .string t, .string u, .string s, .int .i64 i] w fun e w' => e = .returned (.bool true) ∧ Below w.heap.size w w' := by
  by_cases h : n < 0 ∨ m < 0 ∨ 65536 < n ∨ 65536 < m ∨ 65536 < n + m ∨ 65536 < t.size + u.size
  · exact scanLens_early n m t u s i w hS z2 z3 h
  · exact scanLens_go n m t u s i w hS w4 (by omega) (by omega) (by omega) (by omega)
end Go.Proofs.YtohbkmeomphleaaDoor
