/- The document's Reached, plain: round by round. The checker: small facts on rows; Check, whole. -/
import Derived.Test.YtpphjddljngkmaaDoorRefChP0M
import Derived.Test.YtpphjddljngkmaaDoorCkReachP
import Derived.Test.YtpphjddljngkmaaDoorCkU1M
import Derived.Deep.OwnRows
namespace Go.Proofs.YtpphjddljngkmaaDoor
open Go.RowKit

/-- Where a label leads from a statement, as the document has it. -/
def aftR (P : List SV) (i : Nat) (n : ByteArray) : Int := if n.toList.isEmpty = true then (i : Int) + 1 else if (n.toList == [69, 78, 68]) = true then (P.length : Int) else rFst (labF n) P 0
def entR (P : List SV) (T : PT) : List Int := if T.k = 6 ∧ blt T.nm < 0 then match P[(rFst (defF T.nm) P 0).toNat]? with | some D => [rFst (labF D.en) P 0] | none => [] else []
def goR (P : List SV) (i : Nat) (S : SV) : List Int := if S.al.toList.isEmpty = false then [aftR P i S.al] else [aftR P i S.ye] ++ (if canF S.k = true then [aftR P i S.no] else [])
def toR (P : List SV) (i : Nat) (S : SV) : List Int := goR P i S ++ S.exR.flatMap fun x => x.all.flatMap (entR P)
def markR (o : List Bool) (k : Int) : List Bool := if 0 ≤ k ∧ o[k.toNat]? = some false then o.set k.toNat true else o
def stepR (P : List SV) (i : Nat) (S : SV) (o : List Bool) : List Bool := if o[i]? = some true then (toR P i S).foldl markR o else o
theorem mark_len (o : List Bool) (k : Int) : (markR o k).length = o.length := by
  unfold markR; split
  · exact List.length_set ..
  · rfl
theorem mark_up (o : List Bool) (k : Int) (i : Nat) (h : o[i]? = some true) : (markR o k)[i]? = some true := by
  unfold markR; split
  · rw [List.getElem?_set]
    split
    · rename_i e
      rw [if_pos (by rw [e]; exact (List.getElem?_eq_some_iff.1 h).1)]
    · exact h
  · exact h
theorem mark_true {o : List Bool} {k : Int} {i : Nat} (h : (markR o k)[i]? = some true) : o[i]? = some true ∨ k = (i : Int) := by
  unfold markR at h; split at h
  · rename_i q
    rw [List.getElem?_set] at h
    split at h
    · exact .inr (by omega)
    · exact .inl h
  · exact .inl h
theorem mark_self {o : List Bool} {k : Nat} (h : k < o.length) : (markR o (k : Int))[k]? = some true := by
  unfold markR
  by_cases q : o[k]? = some false
  · rw [if_pos ⟨by omega, by rw [Int.toNat_natCast]; exact q⟩, Int.toNat_natCast, List.getElem?_set, if_pos rfl, if_pos h]
  · rw [if_neg (fun r => q (by rw [Int.toNat_natCast] at r; exact r.2))]
    rw [List.getElem?_eq_getElem h] at q ⊢
    cases hb : o[k]
    · rw [hb] at q; exact absurd rfl q
    · rfl
theorem marks_up : ∀ (l : List Int) (o : List Bool) (i : Nat), o[i]? = some true → (l.foldl markR o)[i]? = some true
  | [], _, _, h => h
  | k :: l, o, i, h => marks_up l (markR o k) i (mark_up o k i h)
theorem marks_mem : ∀ (l : List Int) (o : List Bool) (k : Nat), (k : Int) ∈ l → k < o.length → (l.foldl markR o)[k]? = some true
  | [], _, _, h, _ => by cases h
  | x :: l, o, k, h, hk => by
    rcases List.mem_cons.1 h with e | h
    · subst e
      exact marks_up l _ k (mark_self hk)
    · exact marks_mem l (markR o x) k h (by rw [mark_len]; exact hk)
/-- What a sweep has come to, against what it began with. -/
structure Sw (P : List SV) (o0 o : List Bool) (b : Bool) : Prop where
  len : o.length = P.length
  no : b = false → o = o0
  yes : b = true → fals o < fals o0
theorem Sw.mark {P : List SV} {o0 o : List Bool} {b : Bool} (h : Sw P o0 o b) (k : Int) (hq : 0 ≤ k ∧ o[k.toNat]? = some false) : Sw P o0 (markR o k) true := by
  have hf : fals (markR o k) < fals o := by
    unfold markR
    rw [if_pos hq]
    have := fals_set hq.2
    omega
  refine ⟨(mark_len o k).trans h.len, (fun q => Bool.noConfusion q), (fun _ => ?_)⟩
  cases b
  · rw [h.no rfl] at hf ⊢; exact hf
  · have := h.yes rfl; omega
/-- Nothing is come to but what can be come to. -/
def Und (P : List SV) (o : List Bool) : Prop := ∀ i : Nat, o[i]? = some true → ∀ Q : Nat → Prop, (∀ _ : 0 < P.length, Q 0) → (∀ (i : Nat) S (k : Nat), P[i]? = some S → Q i → (k : Int) ∈ toR P i S → k < P.length → Q k) → Q i
theorem Und.mark {P : List SV} {o : List Bool} {k : Int} {i : Nat} {S : SV} (h : Und P o) (hl : o.length = P.length) (hS : P[i]? = some S) (hi : o[i]? = some true) (hk : k ∈ toR P i S) : Und P (markR o k) := by
  intro j hj Q h0 hQ
  rcases mark_true hj with q | q
  · exact h j q Q h0 hQ
  · subst q
    have hlt : j < P.length := by
      rw [← hl, ← mark_len o (j : Int)]
      exact (List.getElem?_eq_some_iff.1 hj).1
    exact hQ i S j hS (h i hi Q h0 hQ) hk hlt
/-- What the document's Reached tells: from where nothing more is come to. -/
structure RchR (P : List SV) (o : List Bool) : Prop where
  len : o.length = P.length
  zero : 0 < P.length → o[0]? = some true
  und : Und P o
  all : ∀ (i : Nat) S, P[i]? = some S → stepR P i S o = o
end Go.Proofs.YtpphjddljngkmaaDoor

namespace Go.Proofs.YtpphjddljngkmaaDoor
open Go.RowKit

/-- Blocks of one type are as they were. -/
def KT (t : TypeId) (w w' : World) : Prop := ∀ (k : Nat) (r : Array Value), w.heap[k]? = some (Obj.cells r t (0, 0)) → w'.heap[k]? = some (Obj.cells r t (0, 0))
theorem KT.refl (t : TypeId) (w : World) : KT t w w := fun _ _ h => h
theorem KT.trans {t : TypeId} {a b c : World} (h : KT t a b) (k : KT t b c) : KT t a c := fun i r q => k i r (h i r q)
theorem KT.below {t : TypeId} {w w' : World} (h : Below w.heap.size w w') : KT t w w' := fun k _ q => (h.block k (Array.getElem?_eq_some_iff.1 q).1).trans q
def nI (x : Nat) : List Value := [.int .i64 (x : Int)]
def bV (l : List Bool) : Array Value := (l.map Value.bool).toArray
theorem row_ne {w : World} {a b : Nat} {x y : Array Value} {s t : TypeId} (ha : w.heap[a]? = some (.cells x s (0, 0))) (hb : w.heap[b]? = some (.cells y t (0, 0))) (h : s ≠ t) : a ≠ b := fun e => by
  rw [e, hb] at ha
  injection ha with ha
  injection ha with _ ha
  exact h ha.symm
theorem map_ne {w : World} {b k n : Nat} {f : ByteArray → Option Int} {x : Array Value} {s : TypeId} (hm : MI w b n f) (h : w.heap[k]? = some (.cells x s (0, 0))) : b ≠ k := fun e => by
  obtain ⟨D, ⟨es, cl, h1, -⟩, -⟩ := hm
  rw [e, h] at h1
  cases h1
theorem size_boolS : (Tryd.prog.info? 4).map (·.size) = some 1 := by kernel_rfl
theorem intRow : (Tryd.prog.info? 3).map (fun i => (i.zero, i.size, i.bytes)) = some (some (.int .i64 0), 1, 8) := by kernel_rfl
theorem nI_one : ∀ (y : Nat), ∀ u ∈ nI y, u.oneCell' = true := fun y u hu => by
  have : u = .int .i64 (y : Int) := by simpa [nI] using hu
  subst this; rfl
theorem nI_cell {w : World} {g x : Nat} (h : w.heap[g]? = some (.cells #[.int .i64 (x : Int)] 3 (0, 0))) : ∀ k u, (nI x)[k]? = some u → w.cell? ⟨g, k, none⟩ = some u := fun k u hu => by
  rw [cell_of_row _ _ _ _ _ _ h, ← hu]
  unfold nI
  rw [show (#[Value.int .i64 (x : Int)] : Array Value) = [Value.int .i64 (x : Int)].toArray from rfl, List.getElem?_toArray]
theorem size_intS : (Tryd.prog.info? 3).map (·.size) = some 1 := by kernel_rfl
theorem boolRow : (Tryd.prog.info? 4).map (fun i => (i.zero, i.size, i.bytes)) = some (some (.bool false), 1, 1) := by kernel_rfl
theorem made_bools (n : Nat) : madeCells #[Value.bool false] n = bV (List.replicate n false) := by
  apply Array.ext'
  unfold bV
  simp only [madeCells]
  induction n with
  | zero => simp
  | succ n ih => rw [Array.range_succ, Array.map_append, Array.toList_append, ih, List.replicate_succ']; simp [Nat.mod_one]
theorem make_bools (n : Nat) (hn : n ≤ 1000000) (W : World) : (Instr.makeSlice 28 (.int .i64 (n : Int)) (.int .i64 (n : Int))).run Tryd.prog W = .ok (.slice (some ⟨W.heap.size, 0, none⟩) n n) (W.alloc (.cells (bV (List.replicate n false)) 4)) := by
  have := run_make_row' (P := Tryd.prog) 28 4 (.bool false) 1 Tryd.underlying28 boolRow rfl .i64 .i64 n (by omega) (by omega) W
  rw [made_bools] at this
  exact this
theorem look_len {P : List SV} (h : (lookS P).er = 0) : P.length ≤ 1000 := by
  have keep : ∀ {step : CS → Int → SV → CS} {c : CS}, (rnd step P 0 c).er = 0 → c.er = 0 := fun {step c} q => by
    by_cases h0 : c.er = 0
    · exact h0
    · rw [rnd_stop _ _ _ h0] at q; exact q
  have h0 : (CS.start P).er = 0 := keep (keep (keep h))
  have := (tellIf_ok (show ((⟨0, 0, fun _ => none, fun _ => none⟩ : CS).tellIf (decide (1000 < P.length)) 5 0).er = 0 from h0) (by decide)).2.2
  simpa using this
end Go.Proofs.YtpphjddljngkmaaDoor
