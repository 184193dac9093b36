/- What QuoRem, Quo and Rem do on the document's numbers of 64 bits without their signs. What Abs, Set and GCD do on the document's numbers (GCD: of two that are not below nought, without the factors). Plain facts on numbers written in a base: lists of bytes, no Go text. The document's Base: a number's digits. -/
import Derived.Test.YtpphjddljngkmaaGreatDoorYBigTellM
import Derived.Test.YtpphjddljngkmaaGreatDoorYBigTwinM
import Derived.Lib.ItoaNum
import Derived.Lib.ConvBytes
namespace Go.Proofs.YtpphjddljngkmaaGreatDoor
open Go.RowKit

/-- Nothing but two blocks and what is new has changed. -/
structure But2 (z r : Nat) (w w' : World) : Prop where
  os : w'.os = w.os
  tape : w'.tape = w.tape
  output : w'.output = w.output
  size : w.heap.size ≤ w'.heap.size
  block : ∀ k, k < w.heap.size → k ≠ z → k ≠ r → w'.heap[k]? = w.heap[k]?
theorem But2.mk3 {z r : Nat} {a b c d : World} (h : Below a.heap.size a b) (k : ButY z b c) (l : ButY r c d) : But2 z r a d :=
  ⟨(l.os.trans k.os).trans h.os, (l.tape.trans k.tape).trans h.tape, (l.output.trans k.output).trans h.output, Nat.le_trans (Nat.le_trans h.size k.size) l.size,
    fun i hi h1 h2 => ((l.block i (Nat.lt_of_lt_of_le (Nat.lt_of_lt_of_le hi h.size) k.size) h2).trans (k.block i (Nat.lt_of_lt_of_le hi h.size) h1)).trans (h.block i hi)⟩
theorem But2.below {z r B : Nat} {b c : World} (k : But2 z r b c) (hz : B ≤ z) (hr : B ≤ r) (hB : B ≤ b.heap.size) : Below B b c :=
  ⟨k.os, k.tape, k.output, k.size, fun i hi => k.block i (by omega) (by omega) (by omega)⟩
theorem quo_signed (m n : Int) : signedOf (!(decide (m < 0) == decide (n < 0))) (m.natAbs / n.natAbs) = m.tdiv n := by
  have h1 : (m.tdiv n).natAbs = m.natAbs / n.natAbs := Int.natAbs_tdiv m n
  have s1 : 0 ≤ m → 0 ≤ n → 0 ≤ m.tdiv n := fun h h' => Int.tdiv_nonneg h h'
  have s2 : m ≤ 0 → n ≤ 0 → 0 ≤ m.tdiv n := fun h h' => Int.tdiv_nonneg_of_nonpos_of_nonpos h h'
  have s3 : m ≤ 0 → 0 ≤ n → m.tdiv n ≤ 0 := fun h h' => by
    have := Int.tdiv_nonneg (show 0 ≤ -m by omega) h'
    rw [Int.neg_tdiv] at this; omega
  have s4 : 0 ≤ m → n ≤ 0 → m.tdiv n ≤ 0 := fun h h' => by
    have := Int.tdiv_nonneg h (show 0 ≤ -n by omega)
    rw [Int.tdiv_neg] at this; omega
  rw [← h1]
  clear h1
  generalize m.tdiv n = q at *
  unfold signedOf
  by_cases h : m < 0
  · by_cases h' : n < 0
    · simp [h, h']; omega
    · simp [h, h']; omega
  · by_cases h' : n < 0
    · simp [h, h']; omega
    · simp [h, h']; omega
theorem rem_signed (m n : Int) : signedOf (decide (m < 0)) (m.natAbs % n.natAbs) = m.tmod n := by
  have h1 := Int.natAbs_tmod m n
  have s1 : 0 ≤ m → 0 ≤ m.tmod n := fun h => Int.tmod_nonneg n h
  have s2 : m ≤ 0 → m.tmod n ≤ 0 := fun h => by
    have := Int.tmod_nonneg n (show 0 ≤ -m by omega)
    rw [Int.neg_tmod] at this; omega
  unfold signedOf
  by_cases h : m < 0
  · simp only [h, decide_true, if_true]; omega
  · simp only [h, decide_false, Bool.false_eq_true, if_false]; omega
theorem div_len {m : Nat} (n : Nat) (h : m < 18446744073709551616) : (wordsOf (m / n)).length ≤ 2 := wordsOf_len_two (Nat.lt_of_le_of_lt (Nat.div_le_self _ _) h)
theorem mod_len {m : Nat} (n : Nat) (h : m < 18446744073709551616) : (wordsOf (m % n)).length ≤ 2 := wordsOf_len_two (Nat.lt_of_le_of_lt (Nat.mod_le _ _) h)
set_option maxHeartbeats 2000000 in
theorem quoRem_any (z x y r : Nat) (m n : Int) (w : World) (hz : IntBlock w z) (hr : IntBlock w r) (hzr : z ≠ r) (hx : IntAt w x m) (hy : IntAt w y n) (hm : m.natAbs < 18446744073709551616) (hn : n.natAbs < 18446744073709551616) (h0 : n ≠ 0) :
    Calls Tryz.prog 69 #[ptr z, ptr x, ptr y, ptr r] w fun e w' => e = .returned (.tuple #[ptr z, ptr r]) ∧ IntAt w' z (m.tdiv n) ∧ IntAt w' r (m.tmod n) ∧ But2 z r w w' := by
  obtain ⟨u, hxr, hu⟩ := hx
  obtain ⟨v, hyr, hv⟩ := hy
  have x0 : w.cell? ⟨x, 0, none⟩ = some (.bool (decide (m < 0))) := by rw [cell_row hxr]; rfl
  have x1 : w.cell? ⟨x, 1, none⟩ = some u := by rw [cell_row hxr]; rfl
  have y0 : w.cell? ⟨y, 0, none⟩ = some (.bool (decide (n < 0))) := by rw [cell_row hyr]; rfl
  have y1 : w.cell? ⟨y, 1, none⟩ = some v := by rw [cell_row hyr]; rfl
  have C := hideY (div_any2 m.natAbs n.natAbs u v w.drew.drew hu.drew.drew hv.drew.drew hm hn (by omega))
  have HQ := hideY (quo_signed m n)
  have HR := hideY (rem_signed m n)
  have l1 := div_len n.natAbs hm
  have l2 := mod_len n.natAbs hm
  generalize decide (m < 0) = s at *
  generalize decide (n < 0) = t at *
  have HZ := hideY hz
  have HRB := hideY hr
  clear hu hv hz hr hxr hyr
  go_enter Tryz.func69, Tryz.ntmps69
  go_wp2_with fail
  go_region
  go_wp2_with fail
  go_region_held3 (fun w' => w'.cell? ⟨x, 1, none⟩ = some u ∧ w'.cell? ⟨y, 1, none⟩ = some v) (go_keep)
    (first
      | (go_at_call 83; refine (unhideY C).mono ?_; rintro e w1 ⟨⟨q, d, rfl, hq, hd⟩, hb⟩; have k1 := (hb.cell (p := ⟨x, 1, none⟩) (lt_of_cell x1)).trans x1; have k3 := (hb.cell (p := ⟨y, 1, none⟩) (lt_of_cell y1)).trans y1))
  have hb' := undrew (undrew hb)
  clear hb
  go_wp2_with fail
  refine (give_any z (m.natAbs / n.natAbs) _ _ _ ((unhideY HZ).below hb') hq (by omega)).mono ?_
  rintro e w2 ⟨rfl, hi, hb2⟩
  have hd2 := hd.but hb2 ((unhideY HZ).below hb')
  go_wp2_with fail
  refine (give_any r (m.natAbs % n.natAbs) _ _ _ (((unhideY HRB).below hb').but hb2 (Ne.symm hzr)) hd2 (by omega)).mono ?_
  rintro e w3 ⟨rfl, hi3, hb3⟩
  have hi2 := hi.but hb3 (((unhideY HRB).below hb').but hb2 (Ne.symm hzr)) hzr
  go_wp2
  go_ret2
  exact ⟨rfl, by rw [← unhideY HQ]; exact hi2, by rw [← unhideY HR]; exact hi3, But2.mk3 hb' hb2 hb3⟩
end Go.Proofs.YtpphjddljngkmaaGreatDoor

namespace Go.Proofs.YtpphjddljngkmaaGreatDoor
open Go.RowKit

set_option maxHeartbeats 400000 in
theorem iabs_any (z x : Nat) (n : Int) (w : World) (hz : IntBlock w z) (hx : IntAt w x n) (lm : (wordsOf n.natAbs).length ≤ 10000000) :
    Calls Tryz.prog 68 #[ptr z, ptr x] w fun e w' => e = .returned (ptr z) ∧ IntAt w' z (n.natAbs : Int) ∧ ButY z w w' := by
  obtain ⟨u, hxr, hu⟩ := hx
  have x1 : w.cell? ⟨x, 1, none⟩ = some u := by rw [cell_row hxr]; rfl
  have C := hideY (twin_any n.natAbs u w hu (by omega))
  have HS := hideY (show signedOf false n.natAbs = (n.natAbs : Int) from rfl)
  generalize n.natAbs = m at *
  clear hxr hu
  go_enter Tryz.func68, Tryz.ntmps68
  go_wp2_with fail
  refine (unhideY C).mono ?_
  rintro e w1 ⟨⟨v, rfl, hv⟩, hb⟩
  have C2 := hideY (give_any z m false v w1 (hz.below hb) hv (by omega))
  rw [unhideY HS] at C2
  go_wp2_with fail
  refine (unhideY C2).mono ?_
  rintro e w2 ⟨rfl, hi, hb2⟩
  go_wp2
  go_ret
  exact ⟨rfl, hi, (ButY.of_below hb).trans hb2⟩
abbrev newObj : Obj := .cells #[.bool false, .slice none 0 0] 107
theorem one_fresh (w : World) : IntAt (w.alloc newObj) w.heap.size 0 ∧ Below w.heap.size w (w.alloc newObj) ∧ (w.alloc newObj).heap.size = w.heap.size + 1 :=
  ⟨fresh_int w, (Below.refl _ _).alloc (Nat.le_refl _) _, by simp⟩
/-- What words in a world are worth: for a measure alone. -/
def worthAt (w : World) : Value → Nat
  | .slice (some a) len _ => val ((List.range len).map fun j => match w.cell? ⟨a.block, j, none⟩ with | some (.int _ x) => x.toNat | _ => 0)
  | _ => 0
def sizeAt (w : World) : Value → Nat
  | .pointer (some a) => match w.cell? ⟨a.block, 1, none⟩ with | some v => worthAt w v | none => 0
  | _ => 0
theorem NumAt.worth {w : World} {v : Value} {n : Nat} (h : NumAt w v n) : worthAt w v = n := by
  rcases h with ⟨rfl, h⟩ | ⟨b, cap, rfl, _, hc⟩
  · have := (wordsOf_len_zero n).1 (by rw [h]; rfl)
    subst this; rfl
  · have e : ((List.range (wordsOf n).length).map fun j => match w.cell? ⟨b, j, none⟩ with | some (.int _ x) => x.toNat | _ => 0) = wordsOf n := by
      apply List.ext_getElem
      · simp
      · intro i h1 h2
        have := hc i h2
        simp only [List.getElem_map, List.getElem_range, this, Int.toNat_natCast]
        rw [List.getD_eq_getElem?_getD, List.getElem?_eq_getElem h2]; rfl
    show val _ = n
    rw [e, val_wordsOf]
theorem IntAt.worth {w : World} {z : Nat} {n : Int} (h : IntAt w z n) : sizeAt w (ptr z) = n.natAbs := by
  obtain ⟨v, h1, h2⟩ := h
  have : w.cell? ⟨z, 1, none⟩ = some v := by rw [cell_row h1]; rfl
  show (match w.cell? ⟨z, 1, none⟩ with | some v => worthAt w v | none => 0) = _
  rw [this]
  exact h2.worth
end Go.Proofs.YtpphjddljngkmaaGreatDoor

namespace Go.Proofs.YtpphjddljngkmaaGreatDoor

/-- The sign of a digit. -/
def digByte (d : Nat) : UInt8 := if d < 10 then UInt8.ofNat (48 + d) else UInt8.ofNat (87 + d)
/-- A number in a base, so many digits at most. -/
def inUpTo (base : Nat) : Nat → Nat → List UInt8
  | 0, u => [digByte u]
  | f + 1, u => if u < base then [digByte u] else inUpTo base f (u / base) ++ [digByte (u % base)]
/-- A number in a base. -/
def inBase (base u : Nat) : List UInt8 := inUpTo base 64 u
theorem inUpTo_more (base : Nat) (_hb : 2 ≤ base) (f : Nat) : ∀ u, u < base ^ (f + 1) → inUpTo base (f + 1) u = inUpTo base f u := by
  induction f with
  | zero =>
    intro u h
    rw [Nat.zero_add, Nat.pow_one] at h
    simp [inUpTo, h]
  | succ f ih =>
    intro u h
    by_cases hu : u < base
    · simp [inUpTo, hu]
    · have h1 : u / base < base ^ (f + 1) := by
        apply Nat.div_lt_of_lt_mul
        rw [Nat.pow_succ, Nat.mul_comm] at h
        exact h
      have e := ih (u / base) h1
      rw [inUpTo, if_neg hu, e]
      rw [inUpTo, if_neg hu]
theorem inBase_small (base u : Nat) (h : u < base) : inBase base u = [digByte u] := by simp [inBase, inUpTo, h]
theorem pow64 (base u : Nat) (hb : 2 ≤ base) (hu : u < 18446744073709551616) : u < base ^ 64 :=
  Nat.lt_of_lt_of_le hu (by have := Nat.pow_le_pow_left hb 64; omega)
theorem inBase_step (base u : Nat) (hb : 2 ≤ base) (hu : u < 18446744073709551616) (h : base ≤ u) : inBase base u = inBase base (u / base) ++ [digByte (u % base)] := by
  have h1 : u / base < base ^ 64 := Nat.lt_of_le_of_lt (Nat.div_le_self _ _) (pow64 base u hb hu)
  have e := inUpTo_more base hb 63 (u / base) h1
  unfold inBase
  rw [inUpTo, if_neg (by omega), e]
theorem inUpTo_len (base : Nat) (f : Nat) : ∀ u, (inUpTo base f u).length ≤ f + 1 ∧ 1 ≤ (inUpTo base f u).length := by
  induction f with
  | zero => intro u; simp [inUpTo]
  | succ f ih =>
    intro u
    rw [inUpTo]
    split
    · simp
    · have := ih (u / base)
      simp; omega
theorem inBase_len (base u : Nat) (hb : 2 ≤ base) (hu : u < 18446744073709551616) : (inBase base u).length ≤ 64 ∧ 1 ≤ (inBase base u).length := by
  have e := inUpTo_more base hb 63 u (pow64 base u hb hu)
  unfold inBase
  rw [e]
  exact inUpTo_len base 63 u
/-- A number in a base, with its sign. -/
def baseText (base : Nat) (n : Int) : List UInt8 := if n < 0 then 45 :: inBase base n.natAbs else inBase base n.natAbs
theorem decDigits_is (u : Nat) (hu : u < 18446744073709551616) : Lib.decDigits u = inBase 10 u := by
  induction u using Nat.strongRecOn with
  | _ u ih =>
    rw [Lib.decDigits]
    split
    · rename_i h
      rw [inBase_small 10 u h]
      simp [digByte, h]
    · rename_i h
      rw [ih (u / 10) (by omega) (by omega), inBase_step 10 u (by omega) hu (by omega)]
      have : u % 10 < 10 := by omega
      simp [digByte, this]
theorem itoa_is (n : Int) (hn : in64 n) : Lib.itoa n = baseText 10 n := by
  unfold in64 at hn
  unfold Lib.itoa baseText
  split
  · rw [decDigits_is _ (by omega)]
  · rw [decDigits_is _ (by omega), show n.toNat = n.natAbs by omega]
end Go.Proofs.YtpphjddljngkmaaGreatDoor

namespace Go.Proofs.YtpphjddljngkmaaGreatDoor
open Go.RowKit
def digTab : ByteArray := ⟨#[48, 49, 50, 51, 52, 53, 54, 55, 56, 57, 97, 98, 99, 100, 101, 102, 103, 104, 105, 106, 107, 108, 109, 110, 111, 112, 113, 114, 115, 116, 117, 118, 119, 120, 121, 122]⟩
theorem digTab_at (d : Nat) (h : d < 36) : (digTab[d]'h) = digByte d := by
  have key : ∀ d : Fin 36, (digTab[d.val]'d.isLt) = digByte d.val := by decide
  exact key ⟨d, h⟩
theorem dig_lit (d : Nat) (h : d < 36) (hd : d < (ByteArray.mk #[48, 49, 50, 51, 52, 53, 54, 55, 56, 57, 97, 98, 99, 100, 101, 102, 103, 104, 105, 106, 107, 108, 109, 110, 111, 112, 113, 114, 115, 116, 117, 118, 119, 120, 121, 122]).size) : (ByteArray.mk #[48, 49, 50, 51, 52, 53, 54, 55, 56, 57, 97, 98, 99, 100, 101, 102, 103, 104, 105, 106, 107, 108, 109, 110, 111, 112, 113, 114, 115, 116, 117, 118, 119, 120, 121, 122])[d]'hd = digByte d := digTab_at d h
theorem isEmpty_trueY (t : ByteArray) (h : t.size = 0) : t.toList.isEmpty = true := by
  rw [ByteArray.toList_eq, List.isEmpty_iff]; apply List.eq_nil_of_length_eq_zero; simpa using h
theorem isEmpty_falseY (t : ByteArray) (h : t.size ≠ 0) : t.toList.isEmpty = false := by
  rw [ByteArray.toList_eq]
  apply Bool.eq_false_iff.2
  intro e
  rw [List.isEmpty_iff] at e
  apply h
  have := congrArg List.length e
  simpa using this
set_option maxHeartbeats 400000 in
theorem sign_any (x : Nat) (n : Int) (w : World) (hx : IntAt w x n) (lm : (wordsOf n.natAbs).length ≤ 10000000) :
    Calls Tryz.prog 67 #[ptr x] w fun e w' => e = .returned (.int .i64 (if n = 0 then 0 else if n < 0 then -1 else 1)) ∧ w' = w := by
  obtain ⟨v, hxr, hv⟩ := hx
  have x0 : w.cell? ⟨x, 0, none⟩ = some (.bool (decide (n < 0))) := by rw [cell_row hxr]; rfl
  have x1 : w.cell? ⟨x, 1, none⟩ = some v := by rw [cell_row hxr]; rfl
  obtain ⟨a, ca, rfl, hca, _⟩ := hv.slice
  have Z := wordsOf_len_zero n.natAbs
  generalize (wordsOf n.natAbs).length = p at *
  clear hxr hv
  by_cases h0 : n = 0
  · have hp : p = 0 := Z.2 (by omega)
    have H := hideY (show (if n = 0 then (0 : Int) else if n < 0 then -1 else 1) = 0 by rw [if_pos h0])
    rw [unhideY H]
    subst hp
    clear Z H
    go_enter Tryz.func67, Tryz.ntmps67
    go_wp2
    go_ret
    exact ⟨rfl, rfl⟩
  · have hp : p ≠ 0 := fun e => h0 (by have := Z.1 e; omega)
    have d1 : ((p : Int) == 0) = false := by simp; omega
    by_cases h1 : n < 0
    · have H := hideY (show (if n = 0 then (0 : Int) else if n < 0 then -1 else 1) = -1 by rw [if_neg h0, if_pos h1])
      rw [unhideY H]
      rw [decide_eq_true h1] at x0
      clear Z H
      go_enter Tryz.func67, Tryz.ntmps67
      go_wp2
      go_ret
      exact ⟨rfl, rfl⟩
    · have H := hideY (show (if n = 0 then (0 : Int) else if n < 0 then -1 else 1) = 1 by rw [if_neg h0, if_neg h1])
      rw [unhideY H]
      rw [decide_eq_false h1] at x0
      clear Z H
      go_enter Tryz.func67, Tryz.ntmps67
      go_wp2
      go_ret
      exact ⟨rfl, rfl⟩
/-- How far the document's own writing has come. -/
def comeTo (base U u : Nat) (ds : List UInt8) : Prop := (ds = [] ∧ u = U) ∨ (ds ≠ [] ∧ ((u = 0 ∧ ds = inBase base U) ∨ (0 < u ∧ inBase base u ++ ds = inBase base U)))
theorem comeTo_step (base U u : Nat) (ds : List UInt8) (hb : 2 ≤ base) (hu : u < 18446744073709551616) (h : comeTo base U u ds) (hc : 0 < u ∨ ds = []) : comeTo base U (u / base) (digByte (u % base) :: ds) := by
  have key : inBase base u ++ ds = inBase base U := by
    rcases h with ⟨rfl, rfl⟩ | ⟨h1, ⟨h2, h3⟩ | ⟨h2, h3⟩⟩
    · simp
    · rcases hc with hc | hc
      · omega
      · exact absurd hc h1
    · exact h3
  right
  refine ⟨by simp, ?_⟩
  by_cases hs : u < base
  · left
    rw [inBase_small base u hs] at key
    exact ⟨Nat.div_eq_of_lt hs, by rw [Nat.mod_eq_of_lt hs]; simpa using key⟩
  · right
    rw [inBase_step base u hb hu (by omega)] at key
    exact ⟨Nat.div_pos (by omega) (by omega), by simpa using key⟩
theorem comeTo_end (base U : Nat) (ds : List UInt8) (h : comeTo base U 0 ds) (hd : ds ≠ []) : ds = inBase base U := by
  rcases h with ⟨h1, _⟩ | ⟨_, ⟨_, h3⟩ | ⟨h2, _⟩⟩
  · exact absurd h1 hd
  · exact h3
  · omega
theorem comeTo_len (base U u : Nat) (ds : List UInt8) (hb : 2 ≤ base) (hU : U < 18446744073709551616) (h : comeTo base U u ds) : ds.length ≤ 64 := by
  have hl := (inBase_len base U hb hU).1
  rcases h with ⟨rfl, _⟩ | ⟨_, ⟨_, h3⟩ | ⟨_, h3⟩⟩
  · simp
  · rw [h3]; exact hl
  · have := congrArg List.length h3
    simp at this
    omega
theorem enc_dig (d : Nat) (h : d < 36) : Utf8.encode ((digByte d).toNat : Int) = ⟨#[digByte d]⟩ := by
  have key : ∀ d : Fin 36, Utf8.encode ((digByte d.val).toNat : Int) = ⟨#[digByte d.val]⟩ := by decide
  exact key ⟨d, h⟩
theorem cat_dig (d : Nat) (ds : List UInt8) : (⟨#[digByte d]⟩ : ByteArray) ++ ⟨ds.toArray⟩ = ⟨(digByte d :: ds).toArray⟩ := by
  apply ByteArray.ext
  simp [ByteArray.data_append]
theorem cat_sign (ds : List UInt8) : (⟨#[45]⟩ : ByteArray) ++ ⟨ds.toArray⟩ = ⟨(45 :: ds).toArray⟩ := by
  apply ByteArray.ext
  simp [ByteArray.data_append]
theorem digByte_small (d : Nat) (h : d < 36) : (digByte d).toNat < 128 := by
  have key : ∀ d : Fin 36, (digByte d.val).toNat < 128 := by decide
  exact key ⟨d, h⟩
set_option maxRecDepth 100000 in
set_option maxHeartbeats 4000000 in
theorem refBase_ok (n : Int) (base : Nat) (w : World) (hn : in64 n) (h1 : 2 ≤ base) (h2 : base ≤ 36) :
    Calls Tryz.prog 48 #[.int .i64 n, .int .i64 base] w fun e w' => e = .returned (.tuple #[.string ⟨(baseText base n).toArray⟩, .int .i64 0]) ∧ Below w.heap.size w w' := by
  have d1 : decide ((base : Int) < 2) = false := decide_eq_false (by omega)
  have d2 : decide (36 < (base : Int)) = false := decide_eq_false (by omega)
  have hu : n.natAbs < 18446744073709551616 := by unfold in64 at hn; omega
  have ln : (wordsOf n.natAbs).length ≤ 2 := wordsOf_len_two hu
  have B := hideY (refBig_any n w hn)
  have BB := fun w => hideY (refBig_any (base : Int) w (by unfold in64; omega))
  obtain ⟨q, hq⟩ : ∃ q, q = (⟨(baseText base n).toArray⟩ : ByteArray) := ⟨_, rfl⟩
  rw [← hq]
  have HQ := hideY hq
  clear hq
  go_enter Tryz.func48, Tryz.ntmps48
  go_wp2_with fail
  refine (unhideY B).mono ?_
  rintro e w1 ⟨rfl, hi1, hb1⟩
  have SG := hideY (sign_any w.heap.size n w1 hi1 (by omega))
  have AB := hideY (iabs_any w.heap.size w.heap.size n w1 hi1.block hi1 (by omega))
  obtain ⟨sg, hsg⟩ : ∃ sg, sg = (if n = 0 then (0 : Int) else if n < 0 then -1 else 1) := ⟨_, rfl⟩
  rw [← hsg] at SG
  have dsg : decide (sg < 0) = decide (n < 0) := by
    rw [hsg]
    by_cases h0 : n = 0
    · subst h0; rfl
    · rw [if_neg h0]
      by_cases h3 : n < 0
      · rw [if_pos h3, decide_eq_true h3]; rfl
      · rw [if_neg h3, decide_eq_false h3]; rfl
  clear B hi1 hsg
  go_wp2_with fail
  refine (unhideY SG).mono ?_
  rintro e w1 ⟨rfl, rfl⟩
  go_wp2_with fail
  refine (unhideY AB).mono ?_
  rintro e w2 ⟨rfl, hi2, hb2⟩
  have hbb2 := hb1.trans (hb2.belowz (Nat.le_refl _) hb1.size)
  have HI2 := hideY hi2
  obtain ⟨U, hU⟩ : ∃ U, U = n.natAbs := ⟨_, rfl⟩
  rw [← hU] at HI2 hu ln
  have HU := hideY hU
  clear SG AB hi2 hb2 hb1 hU
  obtain ⟨neg, hneg⟩ : ∃ neg, neg = decide (n < 0) := ⟨_, rfl⟩
  rw [← hneg] at dsg ⊢
  have HNEG := hideY hneg
  clear hneg
  go_wp2
  go_loopw [8] (fun v wr => ∃ (u : Nat) (ds : List UInt8) (str : ByteArray), v = .string str ∧ Hid (str = ⟨ds.toArray⟩) ∧ u < 18446744073709551616 ∧ Hid (IntAt wr w.heap.size (u : Int)) ∧ Hid (comeTo base U u ds) ∧ Below w.heap.size w wr) (fun v wr => 2 * sizeAt wr (ptr w.heap.size) + (match v with | .string s => (if s.size = 0 then 1 else 0) | _ => 0))
  case atStart => exact ⟨U, [], _, rfl, hideY rfl, hu, HI2, hideY (.inl ⟨rfl, rfl⟩), hbb2⟩
  case round =>
    clear HI2 hbb2
    obtain ⟨u, ds, str, rfl, HSTR, hul, I, CT, hb⟩ := hrel
    have SG := hideY (sign_any w.heap.size (u : Int) wr (unhideY I) (by rw [Int.natAbs_natCast]; exact Nat.le_trans (wordsOf_len_two hul) (by decide)))
    obtain ⟨sg, hsg⟩ : ∃ sg, sg = (if (u : Int) = 0 then (0 : Int) else if (u : Int) < 0 then -1 else 1) := ⟨_, rfl⟩
    rw [← hsg] at SG
    have dsz0 : str.size = ds.length := by rw [unhideY HSTR]; show ds.toArray.size = _; simp
    have hdl := comeTo_len base U u ds h1 hu (unhideY CT)
    have hss : str.size ≤ 64 := by omega
    have DSZ := hideY dsz0
    clear dsz0 hdl
    by_cases hcond : 0 < u ∨ ds = []
    · have hst := hideY (comeTo_step base U u ds h1 hul (unhideY CT) hcond)
      have hd : u % base < base := Nat.mod_lt _ (by omega)
      have hq : u / base ≤ u := Nat.div_le_self _ _
      have hlt : u ≠ 0 → u / base < u := fun h => Nat.div_lt_self (by omega) (by omega)
      have F := one_fresh wr
      have BG := hideY (refBig_any (base : Int) (wr.alloc newObj) (by unfold in64; omega))
      rw [F.2.2] at BG
      have hgl := (unhideY I).block.lt
      have HF := hideY F
      have hsgw : (0 < u ∧ sg = 1) ∨ (u = 0 ∧ ds = [] ∧ sg = 0) := by
        by_cases h0 : u = 0
        · right
          refine ⟨h0, ?_, by rw [hsg, h0]; rfl⟩
          rcases hcond with h | h
          · omega
          · exact h
        · left
          refine ⟨by omega, ?_⟩
          rw [hsg, if_neg (by omega), if_neg (by omega)]
      have HEM : Hid (str.size = 0 ∨ 0 < u) := by
        rcases hcond with h | h
        · exact .inr h
        · left; rw [unhideY DSZ, h]; rfl
      have HME := hideY (show sizeAt wr (ptr w.heap.size) = u by have := (unhideY I).worth; rw [Int.natAbs_natCast] at this; exact this)
      clear hsg hcond F
      have hiE : sg = 1 ∨ (sg = 0 ∧ str.toList.isEmpty = true) := by
        rcases hsgw with ⟨_, h⟩ | ⟨_, h, h'⟩
        · exact .inl h
        · exact .inr ⟨h', isEmpty_trueY _ (by rw [unhideY DSZ, h]; rfl)⟩
      clear hsgw
      have hdc : (u : Int).tmod (base : Int) = ((u % base : Nat) : Int) := by rw [Int.tmod_eq_emod_of_nonneg (by omega)]; rfl
      have hqc : (u : Int).tdiv (base : Int) = ((u / base : Nat) : Int) := by rw [Int.tdiv_eq_ediv_of_nonneg (by omega)]; rfl
      have hdn : u % base < 36 := by omega
      have hds36 : ((u % base : Nat) : Int) < 36 := by omega
      have hdig := dig_lit (u % base) hdn hdn
      have hlit := digByte_small (u % base) hdn
      rcases hiE with rfl | ⟨rfl, hE⟩
      all_goals
        go_wp2_with fail
        refine (unhideY SG).mono ?_
        rintro e wr ⟨rfl, rfl⟩
        go_wp2_with fail
        refine (unhideY BG).mono ?_
        rintro e w3 ⟨rfl, hi3, hb3⟩
        have hb3' : Below (wr.alloc newObj).heap.size (wr.alloc newObj) w3 := by rw [(unhideY HF).2.2]; exact hb3
        have hw3 := bnextY (unhideY HF).2.1 hb3'
        have hI3 := (unhideY I).below hw3
        have hR3 := (unhideY HF).1.block.below hb3'
        have hs3 : wr.heap.size + 1 < w3.heap.size := hi3.block.lt
        have QR := hideY (quoRem_any w.heap.size w.heap.size (wr.heap.size + 1) wr.heap.size (u : Int) (base : Int) w3 hI3.block hR3 (by omega) hI3 hi3 (by rw [Int.natAbs_natCast]; exact hul) (by rw [Int.natAbs_natCast]; omega) (by omega))
        rw [hdc, hqc] at QR
        have hbb3 := bnextY hb hw3
        clear hi3 hb3 hb3' hI3 hR3
        go_wp2_with fail
        refine (unhideY QR).mono ?_
        rintro e w4 ⟨rfl, hi4, hr4, hb4⟩
        have hbb4 := hbb3.trans (hb4.below (Nat.le_refl _) (by omega) hbb3.size)
        have IG := hideY (int64_any wr.heap.size ((u % base : Nat) : Int) w4 hr4 (by unfold in64; omega))
        have HI4 := hideY hi4
        have HME4 := hideY (show sizeAt w4 (ptr w.heap.size) = u / base by have := hi4.worth; rw [Int.natAbs_natCast] at this; exact this)
        clear QR hi4 hr4 hb4 hbb3
        generalize u % base = d at *
        have henc := enc_dig d hdn
        have hcat := cat_dig d ds
        rw [← unhideY HSTR] at hcat
        have HCAT := hideY hcat
        have hcs : (⟨#[digByte d]⟩ : ByteArray).size = 1 := rfl
        clear hcat
        go_wp2_with fail
        refine (unhideY IG).mono ?_
        rintro e w4 ⟨rfl, rfl⟩
        clear IG
        go_wp2
        refine ⟨⟨u / base, digByte d :: ds, _, rfl, HCAT, by omega, HI4, hst, hbb4⟩, ?_⟩
        rw [unhideY HME4, unhideY HME]
        have hne : ((⟨#[digByte d]⟩ : ByteArray) ++ str).size ≠ 0 := by rw [ByteArray.size_append, hcs]; omega
        simp only [if_neg hne]
        rcases unhideY HEM with h | h
        · rw [if_pos h]; omega
        · have := hlt (by omega)
          omega
    · have hu0 : u = 0 := by
        by_cases h : u = 0
        · exact h
        · exact absurd (.inl (by omega)) hcond
      have hne : ds ≠ [] := fun h => hcond (.inr h)
      subst hu0
      have hsg0 : sg = 0 := by rw [hsg]; rfl
      subst hsg0
      have hE := isEmpty_falseY str (by rw [unhideY DSZ]; intro h; exact hne (List.eq_nil_of_length_eq_zero h))
      have hL := comeTo_end base U ds (unhideY CT) hne
      have HT := hideY (show q = if neg then (⟨#[45]⟩ : ByteArray) ++ str else str by
        rw [unhideY HQ, unhideY HSTR, hL, unhideY HU, unhideY HNEG]
        unfold baseText
        by_cases h : n < 0
        · rw [if_pos h, decide_eq_true h, if_pos rfl]
          exact (cat_sign _).symm
        · rw [if_neg h, decide_eq_false h]; rfl)
      clear hsg hcond hne hL
      have hcs : (⟨#[45]⟩ : ByteArray).size = 1 := rfl
      cases neg
      · have HT2 := hideY (show q = str from unhideY HT)
        go_wp2_with fail
        refine (unhideY SG).mono ?_
        rintro e wr ⟨rfl, rfl⟩
        go_wp2
        go_ret2
        exact ⟨by rw [unhideY HT2]; rfl, hb⟩
      · have HT2 := hideY (show q = (⟨#[45]⟩ : ByteArray) ++ str from unhideY HT)
        go_wp2_with fail
        refine (unhideY SG).mono ?_
        rintro e wr ⟨rfl, rfl⟩
        go_wp2
        go_ret2
        exact ⟨by rw [unhideY HT2]; rfl, hb⟩
end Go.Proofs.YtpphjddljngkmaaGreatDoor
