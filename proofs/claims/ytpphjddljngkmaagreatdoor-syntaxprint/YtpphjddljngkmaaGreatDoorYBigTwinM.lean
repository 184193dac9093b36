/- Statements that are written are read, plain. Plain facts on numbers by words of 32 bits, the least first: lists of numbers, no Go text. What numbers.Add, Sub, Div, Rem, size and signed do, for every number. What the words' functions trim and words do: the document's numbers of any size. What cmp and twin do: numbers of any size compared, and copied. What twin does: a number's words copied. -/
import Derived.Test.YtpphjddljngkmaaGreatDoorPlDM
import Derived.Test.YtpphjddljngkmaaGreatDoorStCP
import Derived.WalkKit
import Derived.Test.YtpphjddljngkmaaGreatDoorRows
import Derived.WalkSpells
import Derived.WalkLawsBesides
import Derived.Below
import Derived.OpenShut
import Derived.Deep.QuietTactic
import Derived.BigQuiet
import Derived.Deep.RegionWith
import Derived.Laws.AppendOwn
import Derived.Laws.AppendOwnNone
import Derived.Laws.OwnMore
namespace Go.Proofs.YtpphjddljngkmaaGreatDoor
open Go.RowKit

theorem empty_of {t : ByteArray} (h : t.size = 0) : t = ByteArray.empty := by
  apply ByteArray.ext
  exact Array.eq_empty_of_size_eq_zero h
def nmI : List ByteArray → List It
  | [] => []
  | [x] => [wd x]
  | x :: y :: r => wd x :: sg 44 :: nmI (y :: r)
def wayI (when_ : List It) (t : ByteArray) : List It := if t.size = 0 then [] else when_ ++ (sg 40 :: wd t :: [sg 41])
def waysI (S : SV) : List It := if S.al.size = 0 ∧ S.ye.size = 0 ∧ S.no.size = 0 then [] else bl :: sg 58 :: (wayI [] S.al ++ (wayI [wd (sgn 83)] S.ye ++ wayI [wd (sgn 70)] S.no))
/-- Its pattern, between its brackets. -/
def ptI (S : SV) : It := pa ⟨S.pa.txt.toArray⟩
def bodyI (S : SV) : List It :=
  if S.k = 2 then bl :: S.va.exI
  else if S.k = 3 then bl :: (S.tg.exI ++ (bl :: sg 61 :: bl :: S.va.exI))
  else if S.k = 4 then bl :: (S.va.exI ++ (bl :: sg 63 :: bl :: [ptI S]))
  else if S.k = 5 then bl :: (S.tg.exI ++ (bl :: sg 63 :: bl :: ptI S :: bl :: sg 61 :: bl :: S.va.exI))
  else if S.k = 6 then bl :: wd S.nm :: bl :: df :: bl :: [ptI S]
  else if S.k = 7 then bl :: wd tDEF :: bl :: wd S.nm :: sg 40 :: (nmI S.ps.l ++ (sg 41 :: (nmI S.ls.l ++ (bl :: [wd S.en]))))
  else []
/-- A statement's pieces. -/
def stI (S : SV) : List It := (if S.lab.size = 0 then [] else [wd S.lab]) ++ (bodyI S ++ waysI S)
/-! What stands second. -/
theorem wrongX_nil {T : PT} (h : T.wrongX = 0) : T.fits = true ∧ T.badX = 0 := by
  unfold PT.wrongX at h
  by_cases hf : T.fits = true
  · rw [if_pos hf] at h; exact ⟨hf, h⟩
  · rw [if_neg hf] at h; omega
theorem nms_nil {l : List ByteArray} (h : nmsE l = 0) : ∀ x ∈ l, named x = true := by
  unfold nmsE at h
  by_cases q : l.all named = true
  · exact fun x hx => List.all_eq_true.1 q x hx
  · rw [if_neg q] at h; omega
/-! Where a line goes on. -/
theorem okL_named {t : ByteArray} (h : okL t = true) (h0 : t.size ≠ 0) : named t = true := by
  unfold okL at h
  rw [Bool.or_eq_true] at h
  rcases h with h | h
  · rw [ByteArray.toList_eq] at h
    exact absurd (by have := List.isEmpty_iff.1 h; have := congrArg List.length this; simpa using this) h0
  · exact h
theorem isEmpty_iff (t : ByteArray) : t.toList.isEmpty = decide (t.size = 0) := by
  rw [ByteArray.toList_eq]
  by_cases h : t.size = 0
  · rw [decide_eq_true h, List.isEmpty_iff]
    exact List.eq_nil_of_length_eq_zero (by simpa using h)
  · rw [decide_eq_false h, ← Bool.not_eq_true, List.isEmpty_iff]
    intro q; exact h (by have := congrArg List.length q; simpa using this)
structure WayOK (S : SV) : Prop where
  lab : S.lab.size ≠ 0 → named S.lab = true
  al : S.al.size ≠ 0 → named S.al = true
  ye : S.ye.size ≠ 0 → named S.ye = true
  no : S.no.size ≠ 0 → named S.no = true
  one : S.al.size ≠ 0 → S.ye.size = 0 ∧ S.no.size = 0
theorem wrong_way {S : SV} (h : S.wrong = 0) : WayOK S ∧ S.kndE = 0 := by
  unfold SV.wrong at h
  by_cases h1 : S.lbl.all okL = true
  · rw [if_pos h1] at h
    have ha : ∀ t ∈ S.lbl, okL t = true := List.all_eq_true.1 h1
    by_cases h2 : S.al.toList.isEmpty = false ∧ (S.ye.toList.isEmpty = false ∨ S.no.toList.isEmpty = false)
    · rw [if_pos h2] at h; omega
    · rw [if_neg h2] at h
      rw [isEmpty_iff, isEmpty_iff, isEmpty_iff] at h2
      refine ⟨⟨okL_named (ha _ (by simp [SV.lbl])), okL_named (ha _ (by simp [SV.lbl])), okL_named (ha _ (by simp [SV.lbl])), okL_named (ha _ (by simp [SV.lbl])), fun q => ?_⟩, h⟩
      have hy : ¬ (S.ye.size ≠ 0 ∨ S.no.size ≠ 0) := fun z => h2 ⟨decide_eq_false q, z.elim (fun z => .inl (decide_eq_false z)) fun z => .inr (decide_eq_false z)⟩
      omega
  · rw [if_neg h1] at h; omega
end Go.Proofs.YtpphjddljngkmaaGreatDoor

namespace Go.Proofs.YtpphjddljngkmaaGreatDoor

/-- What a list of words is worth. -/
def val : List Nat → Nat
  | [] => 0
  | x :: r => x + 4294967296 * val r
/-- A number's words, without a nought at the end; so many at most. -/
def wordsUpTo : Nat → Nat → List Nat
  | 0, _ => []
  | f + 1, n => if n = 0 then [] else n % 4294967296 :: wordsUpTo f (n / 4294967296)
theorem wordsUpTo_more (f : Nat) : ∀ g n, n ≤ f → n ≤ g → wordsUpTo f n = wordsUpTo g n := by
  induction f with
  | zero =>
    intro g n h _
    obtain rfl : n = 0 := by omega
    cases g <;> simp [wordsUpTo]
  | succ f ih =>
    intro g n h h'
    by_cases h0 : n = 0
    · subst h0; cases g <;> simp [wordsUpTo]
    · cases g with
      | zero => omega
      | succ g =>
        simp only [wordsUpTo, if_neg h0]
        rw [ih g (n / 4294967296) (by omega) (by omega)]
/-- A number's words, without a nought at the end. -/
def wordsOf (n : Nat) : List Nat := wordsUpTo n n
theorem wordsOf_zero : wordsOf 0 = [] := rfl
theorem wordsOf_pos (n : Nat) (h : n ≠ 0) : wordsOf n = n % 4294967296 :: wordsOf (n / 4294967296) := by
  cases n with
  | zero => omega
  | succ k =>
    show wordsUpTo (k + 1) (k + 1) = _
    simp only [wordsUpTo, if_neg h]
    rw [wordsUpTo_more k ((k + 1) / 4294967296) ((k + 1) / 4294967296) (by omega) (Nat.le_refl _)]
    rfl
theorem val_wordsOf (n : Nat) : val (wordsOf n) = n := by
  induction n using Nat.strongRecOn with
  | _ n ih =>
    by_cases h : n = 0
    · subst h; rw [wordsOf_zero]; rfl
    · rw [wordsOf_pos n h]
      show n % 4294967296 + 4294967296 * val (wordsOf (n / 4294967296)) = n
      rw [ih _ (by omega)]; omega
/-- All words are ones of 32 bits. -/
def small (ws : List Nat) : Prop := ∀ x ∈ ws, x < 4294967296
theorem small_wordsOf (n : Nat) : small (wordsOf n) := by
  induction n using Nat.strongRecOn with
  | _ n ih =>
    by_cases h : n = 0
    · subst h; rw [wordsOf_zero]; intro x hx; simp at hx
    · rw [wordsOf_pos n h]
      intro x hx
      rcases List.mem_cons.1 hx with rfl | hx
      · omega
      · exact ih _ (by omega) x hx
theorem val_append (a b : List Nat) : val (a ++ b) = val a + 4294967296 ^ a.length * val b := by
  induction a with
  | nil => simp [val]
  | cons x r ih =>
    simp only [List.cons_append, val, ih, List.length_cons, Nat.pow_succ]
    rw [Nat.mul_add, Nat.mul_comm (4294967296 ^ r.length) 4294967296, Nat.mul_assoc]; omega
theorem val_zeros (k : Nat) : val (List.replicate k 0) = 0 := by
  induction k with
  | zero => rfl
  | succ k ih => simp [List.replicate_succ, val, ih]
theorem val_lt (ws : List Nat) (h : small ws) : val ws < 4294967296 ^ ws.length := by
  induction ws with
  | nil => simp [val]
  | cons x r ih =>
    have h1 := ih (fun y hy => h y (List.mem_cons_of_mem _ hy))
    have h2 := h x (List.mem_cons_self ..)
    simp only [val, List.length_cons, Nat.pow_succ]
    omega
theorem wordsOf_val (ws : List Nat) (h : small ws) (hl : ws.getLast? ≠ some 0) : wordsOf (val ws) = ws := by
  induction ws with
  | nil => exact wordsOf_zero
  | cons x r ih =>
    have hx := h x (List.mem_cons_self ..)
    have hr : small r := fun y hy => h y (List.mem_cons_of_mem _ hy)
    cases r with
    | nil =>
      have : x ≠ 0 := by intro e; subst e; exact hl rfl
      show wordsOf (x + 4294967296 * 0) = [x]
      rw [Nat.mul_zero, Nat.add_zero, wordsOf_pos x this, show x % 4294967296 = x by omega, show x / 4294967296 = 0 by omega, wordsOf_zero]
    | cons y s =>
      have hl2 : (y :: s).getLast? ≠ some 0 := by rw [List.getLast?_cons_cons] at hl; exact hl
      have i := ih hr hl2
      have hne : val (y :: s) ≠ 0 := by
        intro e
        rw [e, wordsOf_zero] at i
        cases i
      show wordsOf (x + 4294967296 * val (y :: s)) = x :: y :: s
      rw [wordsOf_pos _ (by omega), show (x + 4294967296 * val (y :: s)) % 4294967296 = x by omega, show (x + 4294967296 * val (y :: s)) / 4294967296 = val (y :: s) by omega, i]
theorem wordsOf_length_le (n k : Nat) (h : n < 4294967296 ^ k) : (wordsOf n).length ≤ k := by
  induction k generalizing n with
  | zero => simp at h; subst h; simp [wordsOf_zero]
  | succ k ih =>
    by_cases h0 : n = 0
    · subst h0; simp [wordsOf_zero]
    · rw [wordsOf_pos n h0]
      have := ih (n / 4294967296) (by rw [Nat.pow_succ] at h; omega)
      simp; omega
theorem lt_wordsOf (n : Nat) : n < 4294967296 ^ (wordsOf n).length := by
  have := val_lt (wordsOf n) (small_wordsOf n)
  rwa [val_wordsOf] at this
theorem wordsOf_at (n j : Nat) : (wordsOf n).getD j 0 = n / 4294967296 ^ j % 4294967296 := by
  induction j generalizing n with
  | zero =>
    by_cases h0 : n = 0
    · subst h0; simp [wordsOf_zero]
    · rw [wordsOf_pos n h0]; simp
  | succ j ih =>
    by_cases h0 : n = 0
    · subst h0; simp [wordsOf_zero]
    · rw [wordsOf_pos n h0, List.getD_cons_succ, ih, Nat.pow_succ, Nat.mul_comm, Nat.div_div_eq_div_mul]
theorem wordsOf_len_zero (n : Nat) : (wordsOf n).length = 0 ↔ n = 0 := by
  constructor
  · intro h
    by_cases h0 : n = 0
    · exact h0
    · rw [wordsOf_pos n h0] at h; simp at h
  · rintro rfl; simp [wordsOf_zero]
theorem val_take (ws : List Nat) (k : Nat) (h : ∀ j, k ≤ j → j < ws.length → ws.getD j 0 = 0) (hk : k ≤ ws.length) : val (ws.take k) = val ws := by
  have e : ws.drop k = List.replicate (ws.length - k) 0 := by
    apply List.eq_replicate_iff.2
    refine ⟨by simp, fun b hb => ?_⟩
    obtain ⟨j, hj, rfl⟩ := List.getElem_of_mem hb
    have := h (k + j) (by omega) (by simp at hj; omega)
    rw [List.getElem_drop]
    rwa [List.getD_eq_getElem?_getD, List.getElem?_eq_getElem (by simp at hj; omega)] at this
  have e2 := List.take_append_drop k ws
  have e3 := val_append (ws.take k) (ws.drop k)
  rw [e2, e, val_zeros, Nat.mul_zero, Nat.add_zero] at e3
  exact e3.symm
end Go.Proofs.YtpphjddljngkmaaGreatDoor

namespace Go.Proofs.YtpphjddljngkmaaGreatDoor
open Go.RowKit

theorem bnextY {w a b : World} (h : Below w.heap.size w a) (k : Below a.heap.size a b) : Below w.heap.size w b := h.trans (k.mono h.size)
theorem hideY {p : Prop} (h : p) : Hid p := h
theorem unhideY {p : Prop} (h : Hid p) : p := h
/-- One of the numbers from -2^63 to 2^63 - 1. -/
def in64 (n : Int) : Prop := -9223372036854775808 ≤ n ∧ n ≤ 9223372036854775807
theorem u64_negs (a : Int) (h : a < 0) (h' : -9223372036854775808 ≤ a) : IntKind.u64.wrap (-IntKind.u64.wrap a) = (a.natAbs : Int) := by
  rw [IntKind.wrap_u64, IntKind.wrap_u64]; omega
theorem wrap64_negs (u : Nat) (h : u ≤ 9223372036854775808) : wrap64 (-wrap64 (u : Int)) = -(u : Int) := by unfold wrap64; omega
end Go.Proofs.YtpphjddljngkmaaGreatDoor

namespace Go.Proofs.YtpphjddljngkmaaGreatDoor
open Go.RowKit

/-- A slice of words as it lies in a world. -/
def WordsAt (w : World) (v : Value) (ws : List Nat) : Prop :=
  (v = .slice none 0 0 ∧ ws = []) ∨ ∃ b cap, v = .slice (some ⟨b, 0, none⟩) ws.length cap ∧ ws.length ≤ cap ∧ ∀ j, j < ws.length → w.cell? ⟨b, j, none⟩ = some (.int .u32 ((ws.getD j 0 : Nat) : Int))
/-- A number's words as they lie in a world. -/
def NumAt (w : World) (v : Value) (n : Nat) : Prop := WordsAt w v (wordsOf n)
theorem lt_of_cell {w : World} {p : Addr} {v : Value} (h : w.cell? p = some v) : p.block < w.heap.size := by
  by_cases hh : p.block < w.heap.size
  · exact hh
  · exfalso
    unfold World.cell? at h
    rw [Array.getElem?_eq_none (by omega)] at h
    simp at h
theorem WordsAt.below {w w' : World} {v : Value} {ws : List Nat} (h : WordsAt w v ws) (hb : Below w.heap.size w w') : WordsAt w' v ws := by
  rcases h with h | ⟨b, cap, rfl, hc, hcell⟩
  · exact .inl h
  · refine .inr ⟨b, cap, rfl, hc, fun j hj => ?_⟩
    have := hcell j hj
    rw [hb.cell (lt_of_cell this), this]
theorem NumAt.below {w w' : World} {v : Value} {n : Nat} (h : NumAt w v n) (hb : Below w.heap.size w w') : NumAt w' v n := WordsAt.below h hb
theorem NumAt.nil (w : World) : NumAt w (.slice none 0 0) 0 := .inl ⟨rfl, wordsOf_zero⟩
theorem WordsAt.slice {w : World} {v : Value} {ws : List Nat} (h : WordsAt w v ws) : ∃ a cap, v = .slice a ws.length cap ∧ ws.length ≤ cap ∧ ∀ j, j < ws.length → ∃ b, a = some ⟨b, 0, none⟩ ∧ w.cell? ⟨b, j, none⟩ = some (.int .u32 ((ws.getD j 0 : Nat) : Int)) := by
  rcases h with ⟨rfl, rfl⟩ | ⟨b, cap, rfl, hc, hcell⟩
  · exact ⟨none, 0, rfl, Nat.le_refl _, fun j hj => by simp at hj⟩
  · exact ⟨_, cap, rfl, hc, fun j hj => ⟨b, rfl, hcell j hj⟩⟩
theorem trimmed {ws : List Nat} {b cap k : Nat} {w : World} (hs : small ws) (hc : ws.length ≤ cap) (hcell : ∀ j, j < ws.length → w.cell? ⟨b, j, none⟩ = some (.int .u32 ((ws.getD j 0 : Nat) : Int)))
    (hk : k ≤ ws.length) (hz : ∀ j, k ≤ j → j < ws.length → ws.getD j 0 = 0) (hl : k = 0 ∨ ∃ m, k = m + 1 ∧ ws.getD m 0 ≠ 0) : NumAt w (.slice (some ⟨b, 0, none⟩) k cap) (val ws) := by
  have e : wordsOf (val ws) = ws.take k := by
    rw [← val_take ws k hz hk]
    apply wordsOf_val
    · intro x hx; exact hs x (List.mem_of_mem_take hx)
    · rcases hl with rfl | ⟨m, rfl, hm⟩
      · simp
      · rw [List.getLast?_take]
        simp only [Nat.add_one_ne_zero, if_false, Nat.add_sub_cancel]
        rw [List.getElem?_eq_getElem (by omega)]
        rw [List.getD_eq_getElem?_getD, List.getElem?_eq_getElem (by omega)] at hm
        simp at hm ⊢; exact hm
  have hlen : (ws.take k).length = k := by simp; omega
  unfold NumAt
  rw [e]
  refine .inr ⟨b, cap, by rw [hlen], by omega, fun j hj => ?_⟩
  rw [hlen] at hj
  rw [hcell j (by omega)]
  congr 3
  rw [List.getD_eq_getElem?_getD, List.getD_eq_getElem?_getD, List.getElem?_take, if_pos hj]
set_option maxHeartbeats 400000 in
theorem trim_any (ws : List Nat) (b cap : Nat) (w : World) (hs : small ws) (hc : ws.length ≤ cap) (hcap : cap ≤ 1000000000)
    (hcell : ∀ j, j < ws.length → w.cell? ⟨b, j, none⟩ = some (.int .u32 ((ws.getD j 0 : Nat) : Int))) :
    Calls Tryz.prog 96 #[.slice (some ⟨b, 0, none⟩) ws.length cap] w fun e w' => (∃ v, e = .returned v ∧ NumAt w v (val ws)) ∧ w' = w := by
  have H0 := hideY hcell
  have HS := hideY hs
  clear hcell hs
  go_enter Tryz.func96, Tryz.ntmps96
  go_wp2
  go_loop [3] (fun i => ∃ k : Nat, k ≤ ws.length ∧ i = .int .i64 k ∧ Hid (∀ j, k ≤ j → j < ws.length → ws.getD j 0 = 0)) (fun i => (intOf i).toNat)
  case atStart => exact ⟨ws.length, Nat.le_refl _, rfl, hideY (fun j h1 h2 => by omega)⟩
  case round =>
    obtain ⟨k, hk, rfl, hz⟩ := hrel
    by_cases h0 : k = 0
    · subst h0
      go_wp2
      go_ret
      exact ⟨⟨_, rfl, trimmed (unhideY HS) hc (unhideY H0) (by omega) (unhideY hz) (.inl rfl)⟩, rfl⟩
    · obtain ⟨m, rfl⟩ : ∃ m, k = m + 1 := ⟨k - 1, by omega⟩
      have hcell := unhideY H0 m (by omega)
      by_cases hx : ws.getD m 0 = 0
      · rw [hx] at hcell
        go_wp2
        go_round
        case rel =>
          refine ⟨m, by omega, rfl, hideY (fun j h1 h2 => ?_)⟩
          by_cases e : j = m
          · subst e; exact hx
          · exact unhideY hz j (by omega) h2
        case measure => simp [intOf]
      · have HX := hideY hx
        obtain ⟨x, hxx⟩ : ∃ x, x = ws.getD m 0 := ⟨_, rfl⟩
        rw [← hxx] at hcell hx
        clear hxx
        go_wp2
        go_ret
        exact ⟨⟨_, rfl, trimmed (unhideY HS) hc (unhideY H0) (by omega) (unhideY hz) (.inr ⟨m, rfl, unhideY HX⟩)⟩, rfl⟩
theorem words_two (x : Nat) (h : x < 18446744073709551616) : val [x % 4294967296, x / 4294967296] = x ∧ small [x % 4294967296, x / 4294967296] := by
  refine ⟨by simp [val]; omega, fun y hy => ?_⟩
  simp at hy; omega
set_option maxHeartbeats 400000 in
theorem words_any (x : Nat) (w : World) (h : x < 18446744073709551616) :
    Calls Tryz.prog 94 #[.int .u64 x] w fun e w' => (∃ v, e = .returned v ∧ NumAt w' v x) ∧ Below w.heap.size w w' := by
  go_enter Tryz.func94, Tryz.ntmps94
  go_wp2_with fail
  have hw := words_two x h
  have C := trim_any [x % 4294967296, x / 4294967296] w.heap.size 2 (w.alloc (Obj.cells #[Value.int IntKind.u32 ((x : Int) % 4294967296), Value.int IntKind.u32 ((x : Int) / 4294967296)] 136)) hw.2 (by simp) (by simp) (by
    intro j hj
    match j, hj with
    | 0, _ => rw [World.cell?_alloc_at _ _ _ _ (by simp)]; rfl
    | 1, _ => rw [World.cell?_alloc_at _ _ _ _ (by simp)]; rfl
    | n + 2, hj => exact absurd hj (by simp))
  rw [hw.1] at C
  refine C.mono ?_
  rintro e w1 ⟨⟨v, rfl, hv⟩, rfl⟩
  have hb : Below w.heap.size w (w.alloc (Obj.cells #[Value.int IntKind.u32 ((x : Int) % 4294967296), Value.int IntKind.u32 ((x : Int) / 4294967296)] 136)) := (Below.refl _ _).alloc (Nat.le_refl _) _
  generalize w.alloc (Obj.cells #[Value.int IntKind.u32 ((x : Int) % 4294967296), Value.int IntKind.u32 ((x : Int) / 4294967296)] 136) = w1 at *
  go_wp2
  go_ret
  exact ⟨⟨v, rfl, hv⟩, hb⟩
end Go.Proofs.YtpphjddljngkmaaGreatDoor

namespace Go.Proofs.YtpphjddljngkmaaGreatDoor
open Go.RowKit

theorem wordsOf_len_lt (m n : Nat) (h : (wordsOf m).length < (wordsOf n).length) : m < n := by
  by_cases hh : m < n
  · exact hh
  · have := wordsOf_length_le n (wordsOf m).length (Nat.lt_of_le_of_lt (by omega) (lt_wordsOf m))
    omega
/-- How two numbers stand. -/
def ordOf (m n : Nat) : Int := if m < n then -1 else if m = n then 0 else 1
theorem ordOf_lt {m n : Nat} (h : m < n) : ordOf m n = -1 := by unfold ordOf; rw [if_pos h]
theorem ordOf_gt {m n : Nat} (h : n < m) : ordOf m n = 1 := by unfold ordOf; rw [if_neg (by omega), if_neg (by omega)]
theorem ordOf_eq {m n : Nat} (h : m = n) : ordOf m n = 0 := by unfold ordOf; rw [if_neg (by omega), if_pos h]
theorem div_step (m k : Nat) : m / 4294967296 ^ k = 4294967296 * (m / 4294967296 ^ (k + 1)) + m / 4294967296 ^ k % 4294967296 := by
  rw [Nat.pow_succ, ← Nat.div_div_eq_div_mul]; omega
theorem div_high (m k : Nat) (h : (wordsOf m).length ≤ k) : m / 4294967296 ^ k = 0 := by
  apply Nat.div_eq_of_lt
  exact Nat.lt_of_lt_of_le (lt_wordsOf m) (Nat.pow_le_pow_right (by omega) h)
theorem ret_intY {x y : Int} (h : x = y) : Ending.returned (.int .i64 x) = .returned (.int .i64 y) := by rw [h]
set_option maxHeartbeats 400000 in
theorem cmp_any (m n : Nat) (u v : Value) (w : World) (hu : NumAt w u m) (hv : NumAt w v n) (lm : (wordsOf m).length ≤ 1000000000) (ln : (wordsOf n).length ≤ 1000000000) :
    Calls Tryz.prog 92 #[u, v] w fun e w' => e = .returned (.int .i64 (ordOf m n)) ∧ Below w.heap.size w w' := by
  obtain ⟨a, ca, rfl, hca, Ha⟩ := hu.slice
  obtain ⟨b, cb, rfl, hcb, Hb⟩ := hv.slice
  have HA := hideY Ha
  have HB := hideY Hb
  clear Ha Hb hu hv
  obtain ⟨p, hp⟩ : ∃ p, p = (wordsOf m).length := ⟨_, rfl⟩
  obtain ⟨q, hq⟩ : ∃ q, q = (wordsOf n).length := ⟨_, rfl⟩
  rw [← hp] at hca lm HA
  rw [← hq] at hcb ln HB
  rw [← hp, ← hq]
  have HP := hideY hp
  have HQ := hideY hq
  clear hp hq
  by_cases h1 : p < q
  · have H := hideY (ordOf_lt (wordsOf_len_lt m n (by rw [← unhideY HP, ← unhideY HQ]; exact h1)))
    go_enter Tryz.func92, Tryz.ntmps92
    go_wp2
    go_ret
    exact ⟨ret_intY (unhideY H).symm, Below.refl _ _⟩
  · by_cases h2 : q < p
    · have H := hideY (ordOf_gt (wordsOf_len_lt n m (by rw [← unhideY HP, ← unhideY HQ]; exact h2)))
      go_enter Tryz.func92, Tryz.ntmps92
      go_wp2
      go_ret
      exact ⟨ret_intY (unhideY H).symm, Below.refl _ _⟩
    · obtain rfl : q = p := by omega
      go_enter Tryz.func92, Tryz.ntmps92
      go_wp2
      go_loopw [5] (fun i wr => ∃ k : Nat, k ≤ q ∧ i = .int .i64 ((k : Int) - 1) ∧ Hid (m / 4294967296 ^ k = n / 4294967296 ^ k) ∧ Below w.heap.size w wr) (fun i _ => (intOf i + 1).toNat)
      case atStart => exact ⟨q, Nat.le_refl _, rfl, hideY (by rw [div_high m q (by rw [← unhideY HP]; omega), div_high n q (by rw [← unhideY HQ]; omega)]), Below.refl _ _⟩
      case round =>
        obtain ⟨k, hk, hi, hz, hb⟩ := hrel
        by_cases h0 : k = 0
        · subst h0
          obtain rfl := hi
          have H := hideY (ordOf_eq (show m = n by have := unhideY hz; simpa using this))
          go_wp2
          go_ret
          exact ⟨ret_intY (unhideY H).symm, hb⟩
        · obtain ⟨l, rfl⟩ : ∃ l, k = l + 1 := ⟨k - 1, by omega⟩
          rw [show ((l + 1 : Nat) : Int) - 1 = (l : Int) by omega] at hi
          obtain rfl := hi
          obtain ⟨b1, rfl, c1⟩ := unhideY HA l (by omega)
          obtain ⟨b2, rfl, c2⟩ := unhideY HB l (by omega)
          rw [wordsOf_at] at c1 c2
          rw [← hb.cell (lt_of_cell c1)] at c1
          rw [← hb.cell (lt_of_cell c2)] at c2
          have d1 := div_step m l
          have d2 := div_step n l
          rw [unhideY hz] at d1
          obtain ⟨x, hx⟩ : ∃ x, x = m / 4294967296 ^ l % 4294967296 := ⟨_, rfl⟩
          obtain ⟨y, hy⟩ : ∃ y, y = n / 4294967296 ^ l % 4294967296 := ⟨_, rfl⟩
          rw [← hx] at c1 d1
          rw [← hy] at c2 d2
          clear hx hy
          by_cases e1 : x < y
          · have H := hideY (ordOf_lt (show m < n by
              by_cases hh : m < n
              · exact hh
              · have := Nat.div_le_div_right (c := 4294967296 ^ l) (show n ≤ m by omega)
                omega))
            clear d1 d2
            go_wp2
            go_region
            go_wp2
            go_region
            go_wp2
            go_ret
            exact ⟨ret_intY (unhideY H).symm, hb.drew.drew⟩
          · by_cases e2 : y < x
            · have H := hideY (ordOf_gt (show n < m by
                by_cases hh : n < m
                · exact hh
                · have := Nat.div_le_div_right (c := 4294967296 ^ l) (show m ≤ n by omega)
                  omega))
              clear d1 d2
              go_wp2
              go_region
              go_wp2
              go_region
              go_wp2
              go_ret
              exact ⟨ret_intY (unhideY H).symm, hb.drew.drew⟩
            · obtain rfl : x = y := by omega
              have H := hideY (d1.trans d2.symm)
              clear d1 d2
              go_wp2
              go_region
              go_wp2
              go_roundw
              case rel => exact ⟨l, by omega, rfl, H, hb.drew⟩
              case measure => simp [intOf]
end Go.Proofs.YtpphjddljngkmaaGreatDoor

namespace Go.Proofs.YtpphjddljngkmaaGreatDoor
open Go.RowKit

/-- A word as a cell. -/
def wc (x : Nat) : Value := .int .u32 (x : Int)
theorem owned_words {w : World} {base n : Nat} {v : Value} {ws : List Nat} (h : w.ownsRow base 136 1 v n (ws.map wc)) : WordsAt w v ws := by
  obtain ⟨hl, h⟩ := h
  have hn : ws.length = n := by simpa using hl
  rcases h with ⟨rfl, rfl⟩ | ⟨g, cap, cur, rfl, hb, hg, hc, hm, hz, ht⟩
  · exact .inl ⟨rfl, List.eq_nil_of_length_eq_zero hn⟩
  · refine .inr ⟨g, cap, by rw [hn], by omega, fun j hj => ?_⟩
    have hcur : cur[j]? = some (wc (ws.getD j 0)) := by
      have := congrArg (·[j]?) ht
      simp only [Nat.mul_one, List.getElem?_take, List.getElem?_map] at this
      rw [if_pos (by omega), List.getElem?_eq_getElem hj] at this
      rw [List.getD_eq_getElem?_getD, List.getElem?_eq_getElem hj]
      simpa using this
    unfold World.cell?
    simp only [hg]
    exact hcur
theorem add_zero_none (b j : Nat) : (⟨b, 0, none⟩ : Addr).add j = ⟨b, j, none⟩ := by
  unfold Addr.add
  split
  · rename_i h; subst h; rfl
  · simp
theorem info32 : (Tryz.prog.info? 136).map (fun i => (i.zero, i.size, i.bytes)) = some (some (.int .u32 0), 1, 4) := by kernel_rfl
set_option maxHeartbeats 400000 in
theorem twin_any (m : Nat) (u : Value) (w : World) (hu : NumAt w u m) (lm : (wordsOf m).length ≤ 1000000000) :
    Calls Tryz.prog 82 #[u] w fun e w' => (∃ v, e = .returned v ∧ NumAt w' v m) ∧ Below w.heap.size w w' := by
  obtain ⟨i0, hi, hz0, hz1, hz2⟩ := info_parts info32
  rcases hu with ⟨rfl, h0⟩ | ⟨b, cap, rfl, hc, hcell⟩
  · go_enter Tryz.func82, Tryz.ntmps82
    go_wp2_with (at_builtin; refine wpList_append_own_none rfl _ _ 105 rfl w.heap.size 136 i0 1 Tryz.underlying105 hi _ 0 [] rfl (World.ownsRow_nil w _ _ _) rfl ?_)
    go_ret
    exact ⟨⟨_, rfl, .inl ⟨rfl, h0⟩⟩, Below.refl _ _⟩
  · obtain ⟨ws, hws⟩ : ∃ ws, ws = wordsOf m := ⟨_, rfl⟩
    rw [← hws] at hcell hc lm
    rw [← hws]
    have HW := hideY hws
    clear hws
    go_enter Tryz.func82, Tryz.ntmps82
    go_wp2_with (at_builtin; refine wpList_append_own _ rfl _ _ 105 rfl w.heap.size 136 i0 (.int .u32 0) 1 4 Tryz.underlying105 hi hz0 hz1 hz2 rfl (by decide) _ 0 [] rfl (World.ownsRow_nil w _ _ _) ⟨b, 0, none⟩ ws.length cap (ws.map wc) rfl (by simp) ?_ ?_ (by unfold maxLen; omega) (by omega) (Nat.le_refl _) ?_)
    · intro j u hj
      rw [List.getElem?_map] at hj
      obtain ⟨x, hx, rfl⟩ := Option.map_eq_some_iff.1 hj
      have hlt : j < ws.length := (List.getElem?_eq_some_iff.1 hx).1
      have := hcell j hlt
      rw [List.getD_eq_getElem?_getD, hx] at this
      rw [add_zero_none]; exact this
    · intro u hu
      obtain ⟨x, _, rfl⟩ := List.mem_map.1 hu
      rfl
    · intro v' w1 hown hgrow _
      have hb : Below w.heap.size w w1 := (Below.refl _ _).grown hgrow (Nat.le_refl _) (fun k hk => by cases hk)
      have hv := owned_words hown
      rw [unhideY HW] at hv
      clear hown hgrow
      go_wp2
      go_ret
      exact ⟨⟨_, rfl, hv⟩, hb⟩
end Go.Proofs.YtpphjddljngkmaaGreatDoor
