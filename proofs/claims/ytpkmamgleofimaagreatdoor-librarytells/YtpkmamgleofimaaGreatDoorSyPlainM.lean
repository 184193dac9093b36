/- Rows of bytes of the call's own that are appended to: what an append makes of them, and of all else. Lines and tokens, plain. Lines of a program that are read, plain: over their tokens. -/
import Derived.Test.YtpkmamgleofimaaGreatDoorPatWrongP
import Derived.Lib.ItoaNum
import Derived.Lib.OthersKept
import Derived.Lib.AppendStr
import Derived.Maps.AppendAt
import Derived.Deep.RegionHeld3
import Derived.Test.YtpkmamgleofimaaGreatDoorRowBaseM
import Derived.Test.YtpkmamgleofimaaGreatDoorRdPlainM
import Derived.Test.YtpkmamgleofimaaGreatDoorStBM
namespace Go.Proofs.YtpkmamgleofimaaGreatDoor
open Go.RowKit

def bc (b : UInt8) : Value := .int .u8 (b.toNat : Int)
def Bytes (w : World) (B : Nat) (v : Value) (l : List UInt8) : Prop := w.ownsRow B 5 1 v l.length (l.map bc)
abbrev Kept (w w' : World) : Prop := Lib.OthersKept 5 none w w'
theorem info_u8 : (Tryz.prog.info? 5).map (fun i => (i.zero, i.size, i.bytes)) = some (some (.int .u8 0), 1, 1) := by kernel_rfl
theorem Bytes.later {w w' : World} {B : Nat} {v : Value} {l : List UInt8} (h : Bytes w B v l) (hb : Below w.heap.size w w') : Bytes w' B v l := own_below h hb
theorem kept_grown {w w' : World} {B : Nat} {v : Value} {l : List UInt8} (h : Bytes w B v l) (hg : w.grownBy w' v.ownBlock) : Kept w w' := by
  intro k o hk _ ho
  refine (hg.block k (Array.getElem?_eq_some_iff.1 hk).1 fun e => ?_).trans hk
  rcases h.2 with ⟨rfl, _⟩ | ⟨g, cap, cur, rfl, _, hgg, _⟩
  · cases e
  · have : k = g := by simpa [Value.ownBlock] using e
    subst this
    rw [hk] at hgg
    exact ho _ _ (Option.some.inj hgg)
theorem below_grown {w w' : World} {B : Nat} {v : Value} {l : List UInt8} (h : Bytes w B v l) (hg : w.grownBy w' v.ownBlock) (hB : B ≤ w.heap.size) : Below B w w' :=
  (Below.refl B w).grown hg hB (fun i hi => (World.ownsRow.lt h i hi).1)
theorem run_byte {w : World} {B : Nat} {v : Value} {l : List UInt8} (h : Bytes w B v l) (hB : B ≤ w.heap.size) (b : UInt8) (ad : Addr) (c : Nat) (hc : w.cell? (ad.add 0) = some (bc b)) (hl : l.length + 1 ≤ 100000000) (ty : TypeId) :
    ∃ v' w', (Builtin.append_ #[135, 135] ty #[v, .slice (some ad) 1 c]).run Tryz.prog w = .ok v' w' ∧ Bytes w' B v' (l ++ [b]) ∧ Below B w w' ∧ Kept w w' := by
  have hinf := info_u8
  cases hi : Tryz.prog.info? 5 with
  | none => simp [hi] at hinf
  | some i0 =>
    simp only [hi, Option.map_some, Option.some.injEq, Prod.mk.injEq] at hinf
    obtain ⟨hz0, hz1, hz2⟩ := hinf
    obtain ⟨v', w', hr, h2, h3, -, -⟩ := run_append_own_at (P := Tryz.prog) w B 135 ty 5 i0 (.int .u8 0) 1 1 Tryz.underlying135 hi hz0 hz1 hz2 rfl (by decide) v l.length (l.map bc) h ad 1 c [bc b] rfl (fun j u hj => by
      have hj0 : j = 0 := by have := (List.getElem?_eq_some_iff.1 hj).1; simpa using this
      subst hj0
      have : u = bc b := by simpa using hj.symm
      rw [this]; exact hc) (by intro u hu; rw [List.mem_singleton] at hu; subst hu; rfl) (by unfold maxLen; omega) (by omega) hB
    refine ⟨v', w', hr, ?_, below_grown h h3 hB, kept_grown h h3⟩
    unfold Bytes
    rw [List.length_append, List.map_append]
    exact h2
theorem step_byte {w : World} {ops : Array Oper} {o : Oper} {a : Act} {K : Act → World → Prop} {Q : Exit → Act → World → Prop} {E : Prop} (hgd : o.guard = none) (sl x : Operand)
    (ho : o.op = .call { callee := .builtin .append, args := #[sl, x], argTypes := #[135, 135] })
    (B : Nat) (v : Value) (l : List UInt8) (b : UInt8) (g : Nat) (hs : a.eval sl = v) (hx : a.eval x = .slice (some ⟨g, 0, none⟩) 1 1) (h : Bytes w B v l) (hc : w.cell? ⟨g, 0, none⟩ = some (bc b)) (hB : B ≤ w.heap.size) (hl : l.length + 1 ≤ 100000000)
    (hK : ∀ v' w', Bytes w' B v' (l ++ [b]) → Below B w w' → Kept w w' → K (a.put o.dst v') w') :
    if Region.wanted o (yielded ops a.tmps) = true then Oper.wp Tryz.prog o a w K Q else E := by
  have hw : Region.wanted o (yielded ops a.tmps) = true := by simp [Region.wanted, hgd]
  rw [if_pos hw]
  obtain ⟨v', w', hr, h1, h2, h3⟩ := run_byte h hB b ⟨g, 0, none⟩ 1 (by rw [Addr.add_lit]; exact hc) hl o.type
  unfold Oper.wp execOp
  simp only [ho, resolve, invoke, builtin, Sem.run_bind, Sem.run_pure, Result.andThen_ok, List.map_toArray, List.map_cons, List.map_nil, hs, hx, hr]
  exact hK v' w' h1 h2 h3
end Go.Proofs.YtpkmamgleofimaaGreatDoor

namespace Go.Proofs.YtpkmamgleofimaaGreatDoor
open Go.RowKit

def cbF (s : ByteArray) : Nat → Nat → Nat
  | 0, _ => s.size
  | f + 1, i => if i < s.size then (if bat s i = 93 then i else if bat s i = 39 then cbF s f (cq s (i + 1) + 1) else cbF s f (i + 1)) else s.size
theorem cbF_fuel (s : ByteArray) : ∀ f g i, s.size ≤ f + i → s.size ≤ g + i → cbF s f i = cbF s g i
  | 0, 0, i, _, _ => rfl
  | 0, g + 1, i, h, _ => by rw [cbF, cbF, if_neg (by omega)]
  | f + 1, 0, i, _, h => by rw [cbF, cbF, if_neg (by omega)]
  | f + 1, g + 1, i, h1, h2 => by
    rw [cbF, cbF]
    by_cases hi : i < s.size
    · have := cq_le s (i + 1) (by omega)
      rw [cbF_fuel s f g (cq s (i + 1) + 1) (by omega) (by omega), cbF_fuel s f g (i + 1) (by omega) (by omega)]
    · rw [if_neg hi, if_neg hi]
def cb (s : ByteArray) (i : Nat) : Nat := cbF s s.size i
theorem cb_eq (s : ByteArray) (i : Nat) : cb s i = if i < s.size then (if bat s i = 93 then i else if bat s i = 39 then cb s (cq s (i + 1) + 1) else cb s (i + 1)) else s.size := by
  unfold cb
  rw [cbF_fuel s s.size (s.size + 1) i (by omega) (by omega), cbF]
theorem cb_end {s : ByteArray} {i : Nat} (h : s.size ≤ i) : cb s i = s.size := by rw [cb_eq, if_neg (by omega)]
theorem cb_here {s : ByteArray} {i : Nat} (hb : bat s i = 93) : cb s i = i := by rw [cb_eq, if_pos (bat_in (by omega)), if_pos hb]
theorem cb_quote {s : ByteArray} {i : Nat} (hb : bat s i = 39) : cb s i = cb s (cq s (i + 1) + 1) := by rw [cb_eq, if_pos (bat_in (by omega)), if_neg (by omega), if_pos hb]
theorem cb_plain {s : ByteArray} {i : Nat} (h : i < s.size) (hb : bat s i ≠ 39) (hc : bat s i ≠ 93) : cb s i = cb s (i + 1) := by rw [cb_eq, if_pos h, if_neg hc, if_neg hb]
theorem cb_ind {s : ByteArray} {P : Nat → Prop} (h0 : ∀ i, s.size ≤ i → P i) (h1 : ∀ i, i < s.size → bat s i ≠ 39 → bat s i ≠ 93 → P (i + 1) → P i) (h2 : ∀ i, i < s.size → bat s i = 39 → P (cq s (i + 1) + 1) → P i) (h3 : ∀ i, bat s i = 93 → P i) : ∀ f i, s.size ≤ f + i → P i
  | 0, i, h => h0 i (by omega)
  | f + 1, i, h => by
    rcases Nat.lt_or_ge i s.size with hi | hi
    · by_cases hb : bat s i = 39
      · have := cq_le s (i + 1) (by omega)
        exact h2 i hi hb (cb_ind h0 h1 h2 h3 f _ (by omega))
      · by_cases hc : bat s i = 93
        · exact h3 i hc
        · exact h1 i hi hb hc (cb_ind h0 h1 h2 h3 f (i + 1) (by omega))
    · exact h0 i hi
theorem cb_le (s : ByteArray) (i : Nat) (h : i ≤ s.size) : i ≤ cb s i ∧ cb s i ≤ s.size :=
  cb_ind (P := fun i => i ≤ s.size → i ≤ cb s i ∧ cb s i ≤ s.size) (fun i hi h => by rw [cb_end hi]; omega) (fun i hi hb hc ih h => by rw [cb_plain hi hb hc]; have := ih (by omega); omega)
    (fun i hi hb ih h => by
      rw [cb_quote hb]
      have h1 := cq_le s (i + 1) (by omega)
      by_cases hq : cq s (i + 1) + 1 ≤ s.size
      · have := ih hq; omega
      · rw [cb_end (by omega)]; omega) (fun i hb h => by rw [cb_here hb]; omega) s.size i (by omega) h
def signN (b : Nat) : Bool := [61, 63, 38, 43, 45, 42, 47, 37, 40, 41, 60, 62, 44, 58, 36].contains b
structure Tk where
  k : Nat
  t : ByteArray
  a : Nat
def tk (s : ByteArray) (i : Nat) : Nat × Nat × ByteArray :=
  if letterN (bat s i) = true then (1, pas s wordN i, s.extract i (pas s wordN i))
  else if digitN (bat s i) = true then (2, pas s digitN i, s.extract i (pas s digitN i))
  else if bat s i = 39 then (if cq s (i + 1) = s.size then (0, s.size, ByteArray.empty) else (3, cq s (i + 1) + 1, ⟨(ct s (i + 1)).toArray⟩))
  else if bat s i = 91 then (if cb s (i + 1) = s.size then (0, s.size, ByteArray.empty) else (4, cb s (i + 1) + 1, s.extract (i + 1) (cb s (i + 1))))
  else if bat s i = 58 ∧ bat s (i + 1) = 61 then (5, i + 2, s.extract i (i + 2))
  else if signN (bat s i) = true then (5, i + 1, s.extract i (i + 1))
  else (0, i, ByteArray.empty)
theorem digit_range {b : Nat} (h : digitN b = true) : 48 ≤ b ∧ b ≤ 57 := of_decide_eq_true h
theorem tk_le (s : ByteArray) (i : Nat) (h : i < s.size) : i ≤ (tk s i).2.1 ∧ (tk s i).2.1 ≤ s.size ∧ ((tk s i).1 ≠ 0 → i < (tk s i).2.1) ∧ (tk s i).1 ≤ 5 := by
  unfold tk
  have hq := cq_le s (i + 1) (by omega)
  have hb := cb_le s (i + 1) (by omega)
  split
  · rename_i hl
    have := pas_le s wordN (i + 1) (by omega)
    rw [pas_step h (by unfold wordN; rw [hl]; rfl)]
    refine ⟨?_, ?_, fun _ => ?_, ?_⟩ <;> dsimp only <;> omega
  · split
    · rename_i hl
      have := pas_le s digitN (i + 1) (by omega)
      rw [pas_step h hl]
      refine ⟨?_, ?_, fun _ => ?_, ?_⟩ <;> dsimp only <;> omega
    · split
      · split
        · refine ⟨?_, ?_, fun h => absurd rfl h, ?_⟩ <;> dsimp only <;> omega
        · refine ⟨?_, ?_, fun _ => ?_, ?_⟩ <;> dsimp only <;> omega
      · split
        · split
          · refine ⟨?_, ?_, fun h => absurd rfl h, ?_⟩ <;> dsimp only <;> omega
          · refine ⟨?_, ?_, fun _ => ?_, ?_⟩ <;> dsimp only <;> omega
        · split
          · rename_i hc
            have := bat_in (s := s) (i := i + 1) (by omega)
            refine ⟨?_, ?_, fun _ => ?_, ?_⟩ <;> dsimp only <;> omega
          · split
            · refine ⟨?_, ?_, fun _ => ?_, ?_⟩ <;> dsimp only <;> omega
            · refine ⟨?_, ?_, fun h => absurd rfl h, ?_⟩ <;> dsimp only <;> omega
def lnF (s : ByteArray) : Nat → Nat → List Tk → List Tk × Nat × Nat
  | 0, _, l => (l, 0, 0)
  | f + 1, i, l => if pas s blankN i < s.size then (if (tk s (pas s blankN i)).1 = 0 then ([], 2, (tk s (pas s blankN i)).2.1) else lnF s f (tk s (pas s blankN i)).2.1 (l ++ [⟨(tk s (pas s blankN i)).1, (tk s (pas s blankN i)).2.2, pas s blankN i⟩])) else (l, 0, 0)
theorem lnF_fuel (s : ByteArray) : ∀ f g i l, i ≤ s.size → s.size ≤ f + i → s.size ≤ g + i → lnF s f i l = lnF s g i l
  | 0, 0, i, l, _, _, _ => rfl
  | 0, g + 1, i, l, hi, h, _ => by have := pas_le s blankN i hi; rw [lnF, lnF, if_neg (by omega)]
  | f + 1, 0, i, l, hi, _, h => by have := pas_le s blankN i hi; rw [lnF, lnF, if_neg (by omega)]
  | f + 1, g + 1, i, l, hi, h1, h2 => by
    rw [lnF, lnF]
    by_cases hp : pas s blankN i < s.size
    · rw [if_pos hp, if_pos hp]
      by_cases hk : (tk s (pas s blankN i)).1 = 0
      · rw [if_pos hk, if_pos hk]
      · have h3 := tk_le s _ hp
        have h4 := h3.2.2.1 hk
        have h5 := pas_le s blankN i hi
        rw [if_neg hk, if_neg hk]
        exact lnF_fuel s f g _ _ h3.2.1 (by omega) (by omega)
    · rw [if_neg hp, if_neg hp]
def ln (s : ByteArray) (i : Nat) (l : List Tk) : List Tk × Nat × Nat := lnF s s.size i l
theorem ln_eq (s : ByteArray) (i : Nat) (l : List Tk) (h : i ≤ s.size) : ln s i l = if pas s blankN i < s.size then (if (tk s (pas s blankN i)).1 = 0 then ([], 2, (tk s (pas s blankN i)).2.1) else ln s (tk s (pas s blankN i)).2.1 (l ++ [⟨(tk s (pas s blankN i)).1, (tk s (pas s blankN i)).2.2, pas s blankN i⟩])) else (l, 0, 0) := by
  unfold ln
  rw [lnF_fuel s s.size (s.size + 1) i l h (by omega) (by omega), lnF]
theorem ln_blank {s : ByteArray} {i : Nat} {l : List Tk} (h : i < s.size) (hb : bat s i = 32) : ln s i l = ln s (i + 1) l := by
  rw [ln_eq s i l (by omega), ln_eq s (i + 1) l (by omega), pas_step h (by unfold blankN; rw [hb]; rfl)]
theorem ln_end {s : ByteArray} {l : List Tk} : ln s s.size l = (l, 0, 0) := by
  rw [ln_eq s _ l (Nat.le_refl _), if_neg]
  have := pas_le s blankN s.size (Nat.le_refl _)
  omega
theorem ln_skip {s : ByteArray} {i : Nat} {l : List Tk} (h : i ≤ s.size) : ln s i l = ln s (pas s blankN i) l := by
  have h1 := pas_le s blankN i h
  have h2 : pas s blankN (pas s blankN i) = pas s blankN i := pas_stop fun h => pas_next h
  rw [ln_eq s i l h, ln_eq s _ l h1.2, h2]
theorem ln_bad {s : ByteArray} {i : Nat} {l : List Tk} (h : i < s.size) (hb : bat s i ≠ 32) (hk : (tk s i).1 = 0) : ln s i l = ([], 2, (tk s i).2.1) := by
  have hp : pas s blankN i = i := pas_stop fun _ => decide_eq_false hb
  rw [ln_eq s i l (by omega), hp, if_pos h, if_pos hk]
theorem ln_tok {s : ByteArray} {i : Nat} {l : List Tk} (h : i < s.size) (hb : bat s i ≠ 32) (hk : (tk s i).1 ≠ 0) : ln s i l = ln s (tk s i).2.1 (l ++ [⟨(tk s i).1, (tk s i).2.2, i⟩]) := by
  have hp : pas s blankN i = i := pas_stop fun _ => decide_eq_false hb
  rw [ln_eq s i l (by omega), hp, if_pos h, if_neg hk]
theorem ln_ind {s : ByteArray} {P : Nat → List Tk → Prop} (h0 : ∀ l, P s.size l) (h1 : ∀ i l, i < s.size → bat s i = 32 → P (i + 1) l → P i l) (h2 : ∀ i l, i < s.size → bat s i ≠ 32 → (tk s i).1 = 0 → P i l)
    (h3 : ∀ i l, i < s.size → bat s i ≠ 32 → (tk s i).1 ≠ 0 → P (tk s i).2.1 (l ++ [⟨(tk s i).1, (tk s i).2.2, i⟩]) → P i l) : ∀ f i l, i ≤ s.size → s.size ≤ f + i → P i l
  | 0, i, l, hi, h => by rw [show i = s.size by omega]; exact h0 l
  | f + 1, i, l, hi, h => by
    rcases Nat.lt_or_ge i s.size with hlt | hge
    · by_cases hb : bat s i = 32
      · exact h1 i l hlt hb (ln_ind h0 h1 h2 h3 f (i + 1) l (by omega) (by omega))
      · by_cases hk : (tk s i).1 = 0
        · exact h2 i l hlt hb hk
        · have h4 := tk_le s i hlt
          have h5 := h4.2.2.1 hk
          exact h3 i l hlt hb hk (ln_ind h0 h1 h2 h3 f _ _ h4.2.1 (by omega))
    · rw [show i = s.size by omega]; exact h0 l
def lineP (s : ByteArray) : List Tk × Nat × Nat := if 2000 < s.size then ([], 4, 0) else ln s 0 []
end Go.Proofs.YtpkmamgleofimaaGreatDoor

namespace Go.Proofs.YtpkmamgleofimaaGreatDoor
open Go.RowKit

abbrev Sy (α : Type) := Except (Int × Nat) (α × List Tk)
def sbd {α β : Type} (r : Sy α) (f : α → List Tk → Sy β) : Sy β :=
  match r with
  | .ok (a, j) => f a j
  | .error e => .error e
theorem sbd_ok {α β : Type} (a : α) (j : List Tk) (f : α → List Tk → Sy β) : sbd (.ok (a, j)) f = f a j := rfl
theorem sbd_err {α β : Type} (e : Int × Nat) (f : α → List Tk → Sy β) : sbd (.error e) f = .error e := rfl
theorem sbd_some {α β : Type} {r : Sy α} {f : α → List Tk → Sy β} {x : β × List Tk} (h : sbd r f = .ok x) : ∃ a j, r = .ok (a, j) ∧ f a j = .ok x := by
  cases r with
  | ok v => exact ⟨v.1, v.2, rfl, h⟩
  | error e => cases h
def ahd (E n : Nat) (l : List Tk) : Tk := (l[n]?).getD ⟨0, ByteArray.empty, E⟩
def sgn (b : UInt8) : ByteArray := ⟨#[b]⟩
def isS (t : Tk) (s : ByteArray) : Bool := decide (t.k = 5) && decide (t.t = s)
def isW (t : Tk) (s : ByteArray) : Bool := decide (t.k = 1) && decide (t.t = s)
def ndS (E : Nat) (s : ByteArray) (l : List Tk) : Sy Unit := if isS (ahd E 0 l) s = true then .ok ((), l.tail) else .error (2, (ahd E 0 l).a)
def nmS (E : Nat) (l : List Tk) : Sy ByteArray :=
  if (ahd E 0 l).k = 1 then (if named (ahd E 0 l).t = true then .ok ((ahd E 0 l).t, l.tail) else .error (7, (ahd E 0 l).a)) else .error (2, (ahd E 0 l).a)
def nsF (E : Nat) : Nat → List ByteArray → List Tk → Sy (List ByteArray)
  | 0, _, _ => .error (0, 0)
  | f + 1, o, l => sbd (nmS E l) fun t r => if o.length = 8 then .error (5, (ahd E 0 l).a) else if isS (ahd E 0 r) (sgn 44) = true then nsF E f (o ++ [t]) r.tail else .ok (o ++ [t], r)
def nsS (E : Nat) (l : List Tk) : Sy (List ByteArray) := nsF E 9 [] l
def ptS (E : Nat) (l : List Tk) : Sy PT :=
  if (ahd E 0 l).k = 4 then (match rdP (ahd E 0 l).t with | .ok x => .ok (x.1, l.tail) | .error e => .error (e.1, (ahd E 0 l).a + 1 + e.2)) else .error (2, (ahd E 0 l).a)
def dgV (t : ByteArray) : Nat := t.toList.foldl (fun n b => 10 * n + (b.toNat - 48)) 0
def nuS (E : Nat) (l : List Tk) : Sy Int :=
  if 1 < (ahd E 0 l).t.size ∧ bat (ahd E 0 l).t 0 = 48 then .error (2, (ahd E 0 l).a)
  else if 9223372036854775807 < dgV (ahd E 0 l).t then .error (3, (ahd E 0 l).a)
  else .ok ((dgV (ahd E 0 l).t : Int), l.tail)
def btw (t : ByteArray) : Nat := if t = sgn 38 then 8 else if t = sgn 43 then 9 else if t = sgn 45 then 10 else if t = sgn 42 then 11 else if t = sgn 47 then 12 else if t = sgn 37 then 13 else 0
def lvl0 (k : Nat) : Nat := if k = 8 then 1 else if k = 9 ∨ k = 10 then 2 else if 11 ≤ k then 3 else 0
def kbS (lv : Nat) (t : Tk) : Nat := if t.k = 5 ∧ lvl0 (btw t.t) = lv then btw t.t else 0
def exE (k : Int) (l : List PT) : PT := mkP k ByteArray.empty 0 ByteArray.empty l
structure Lv where
  sg : List Tk → Sy PT
  pi : List Tk → Sy PT
  xp : List Tk → Sy PT
def deepE {α : Type} (E : Nat) (l : List Tk) : Sy α := .error (4, (ahd E 0 l).a)
def xpO (E : Nat) (p : Option Lv) (l : List Tk) : Sy PT := match p with | none => deepE E l | some q => q.xp l
def piO (E : Nat) (p : Option Lv) (l : List Tk) : Sy PT := match p with | none => deepE E l | some q => q.pi l
def sgO (E : Nat) (p : Option Lv) (l : List Tk) : Sy PT := match p with | none => deepE E l | some q => q.sg l
def erO {α : Type} (R : Sy α) (x : Int × Nat) : Int × Nat := match R with | .error e => e | .ok _ => x
def tmE (E : Nat) (l : List Tk) : Int × Nat :=
  if (ahd E 0 l).k = 1 then erO (nmS E l) (5, (ahd E 0 l).a)
  else if (ahd E 0 l).k = 2 then erO (nuS E l) (5, (ahd E 0 l).a)
  else if (ahd E 0 l).k = 3 then (5, (ahd E 0 l).a)
  else if isS (ahd E 0 l) (sgn 45) = true ∨ isS (ahd E 0 l) (sgn 36) = true ∨ isS (ahd E 0 l) (sgn 40) = true then (5, (ahd E 0 l).a)
  else (2, (ahd E 0 l).a)
def tmS {α : Type} (E : Nat) (l : List Tk) : Sy α := .error (tmE E l)
def agF (E : Nat) (p : Option Lv) : Nat → List PT → List Tk → Sy (List PT)
  | 0, _, _ => .error (0, 0)
  | f + 1, o, l => if o.length = 8 then tmS E l else sbd (xpO E p l) fun x r =>
      if isS (ahd E 0 r) (sgn 44) = true then agF E p f (o ++ [x]) r.tail else sbd (ndS E (sgn 41) r) fun _ q => .ok (o ++ [x], q)
def agS (E : Nat) (p : Option Lv) (l : List Tk) : Sy (List PT) := if isS (ahd E 0 l) (sgn 41) = true then .ok ([], l.tail) else agF E p 9 [] l
def npS (E : Nat) (p : Option Lv) (l : List Tk) : Sy PT := sbd (nmS E l) fun t r =>
  if isS (ahd E 0 r) (sgn 60) = true then sbd (xpO E p r.tail) fun x q => sbd (ndS E (sgn 62) q) fun _ m => .ok (mkP 4 ByteArray.empty 0 t [x], m)
  else if isS (ahd E 0 r) (sgn 40) = true then sbd (agS E p r.tail) fun o q => .ok (mkP 6 ByteArray.empty 0 t o, q)
  else .ok (mkP 3 ByteArray.empty 0 t [], r)
def piS (E : Nat) (p : Option Lv) (l : List Tk) : Sy PT :=
  if (ahd E 0 l).k = 1 then npS E p l
  else if (ahd E 0 l).k = 2 then sbd (nuS E l) fun n r => .ok (mkP 2 ByteArray.empty n ByteArray.empty [], r)
  else if (ahd E 0 l).k = 3 then .ok (mkP 1 (ahd E 0 l).t 0 ByteArray.empty [], l.tail)
  else if isS (ahd E 0 l) (sgn 36) = true then sbd (piO E p l.tail) fun x r => .ok (exE 5 [x], r)
  else sbd (ndS E (sgn 40) l) fun _ r => sbd (xpO E p r) fun x q => sbd (ndS E (sgn 41) q) fun _ m => .ok (x, m)
def sgS (E : Nat) (p : Option Lv) (l : List Tk) : Sy PT :=
  if isS (ahd E 0 l) (sgn 45) = true then sbd (sgO E p l.tail) fun x r => .ok (exE 7 [x], r) else piS E p l
def rwF (E lv : Nat) (N : List Tk → Sy PT) : Nat → PT → List Tk → Sy PT
  | 0, _, _ => .error (0, 0)
  | f + 1, x, l => if kbS lv (ahd E 0 l) = 0 then .ok (x, l) else sbd (N l.tail) fun y r => rwF E lv N f (exE (kbS lv (ahd E 0 l)) [x, y]) r
def rwS (E lv : Nat) (N : List Tk → Sy PT) (l : List Tk) : Sy PT := sbd (N l) fun x r => rwF E lv N (r.length + 1) x r
def rowS (E : Nat) (p : Option Lv) (lv : Nat) : List Tk → Sy PT :=
  if lv = 1 then rwS E 1 (rwS E 2 (rwS E 3 (sgS E p))) else if lv = 2 then rwS E 2 (rwS E 3 (sgS E p)) else if lv = 3 then rwS E 3 (sgS E p) else sgS E p
def lvO (E : Nat) : Nat → Option Lv
  | 0 => none
  | d + 1 => some ⟨sgS E (lvO E d), piS E (lvO E d), rowS E (lvO E d) 1⟩
def exS (E d : Nat) (l : List Tk) : Sy PT := xpO E (lvO E d) l
def nlO (l : List ByteArray) : NL := ⟨none, 0, 0, l.length, l⟩
def zSV : SV := ⟨ByteArray.empty, 0, PT.nul, PT.nul, PT.nul, ByteArray.empty, ByteArray.empty, nlO [], nlO [], ByteArray.empty, ByteArray.empty, ByteArray.empty⟩
def SV.can (S : SV) : SV := ⟨S.lab, S.k, S.tg.can, S.va.can, S.pa.can, S.nm, S.en, nlO S.ps.l, nlO S.ls.l, S.al, S.ye, S.no⟩
def tDEF : ByteArray := ⟨#[68, 69, 70, 73, 78, 69]⟩
def tIs : ByteArray := ⟨#[58, 61]⟩
def dpS (E : Nat) (l : List Tk) : Sy (List ByteArray) := if isS (ahd E 0 l) (sgn 41) = true then .ok ([], l.tail) else sbd (nsS E l) fun ps r => sbd (ndS E (sgn 41) r) fun _ q => .ok (ps, q)
def dlS (E : Nat) (l : List Tk) : Sy (List ByteArray) := if (ahd E 1 l).k = 1 ∨ isS (ahd E 1 l) (sgn 44) = true then nsS E l else .ok ([], l)
def dfS (E : Nat) (l : List Tk) : Sy (ByteArray × List ByteArray × List ByteArray × ByteArray) := sbd (nmS E l) fun nm r => sbd (ndS E (sgn 40) r) fun _ r1 => sbd (dpS E r1) fun ps r2 => sbd (dlS E r2) fun ls r3 => sbd (nmS E r3) fun en r4 => .ok ((nm, ps, ls, en), r4)
def evK (m g : Bool) : Int := if m = true then (if g = true then 5 else 4) else if g = true then 3 else 2
def evP (E : Nat) (l : List Tk) : Sy (Option PT) := if isS (ahd E 0 l) (sgn 63) = true then sbd (ptS E l.tail) fun p r => .ok (some p, r) else .ok (none, l)
def evG (E d : Nat) (x : PT) (at_ : Nat) (l : List Tk) : Sy (Option PT) := if isS (ahd E 0 l) (sgn 61) = true then (if isPl x.k = true then sbd (exS E d l.tail) fun y r => .ok (some y, r) else .error (8, at_)) else .ok (none, l)
def evV (S : SV) (x : PT) (p g : Option PT) : SV := { S with k := evK p.isSome g.isSome, tg := if g.isSome = true then x else PT.nul, va := g.getD x, pa := p.getD PT.nul }
def evS (E d : Nat) (S : SV) (l : List Tk) : Sy SV := sbd (exS E d l) fun x r => sbd (evP E r) fun p r1 => sbd (evG E d x (ahd E 0 l).a r1) fun g r2 => .ok (evV S x p g, r2)
def ddS (E d : Nat) (S : SV) (l : List Tk) : Sy SV :=
  if (ahd E 0 l).k = 0 ∨ isS (ahd E 0 l) (sgn 58) = true then .ok ({ S with k := 1 }, l)
  else if isW (ahd E 0 l) tDEF = true ∧ (ahd E 1 l).k = 1 then sbd (dfS E l.tail) fun x r => .ok ({ S with k := 7, nm := x.1, ps := nlO x.2.1, ls := nlO x.2.2.1, en := x.2.2.2 }, r)
  else if (ahd E 0 l).k = 1 ∧ isS (ahd E 1 l) tIs = true then sbd (nmS E l) fun nm r => sbd (ndS E tIs r) fun _ q => sbd (ptS E q) fun p m => .ok ({ S with k := 6, nm := nm, pa := p }, m)
  else evS E d S l
def woS (E : Nat) (l : List Tk) : Sy ByteArray := sbd (ndS E (sgn 40) l) fun _ r => sbd (nmS E r) fun t q => sbd (ndS E (sgn 41) q) fun _ m => .ok (t, m)
def wfS (E : Nat) (yes : Bool) (S : SV) (l : List Tk) : Sy SV := if isW (ahd E 0 l) (sgn 70) = true then sbd (woS E l.tail) fun t r => .ok ({ S with no := t }, r) else if yes = true then .ok (S, l) else .error (2, (ahd E 0 l).a)
def wyS (E : Nat) (S : SV) (l : List Tk) : Sy SV :=
  if isS (ahd E 0 l) (sgn 58) = true then
    (if isS (ahd E 0 l.tail) (sgn 40) = true then sbd (woS E l.tail) fun t r => .ok ({ S with al := t }, r)
     else if isW (ahd E 0 l.tail) (sgn 83) = true then sbd (woS E l.tail.tail) fun t r => wfS E true { S with ye := t } r
     else wfS E false S l.tail)
  else .ok (S, l)
def lbS (s : ByteArray) (E : Nat) (l : List Tk) : Sy ByteArray := if s.size ≠ 0 ∧ bat s 0 ≠ 32 ∧ bat s 0 ≠ 58 then nmS E l else .ok (ByteArray.empty, l)
def raS (s : ByteArray) (l : List Tk) : Sy SV := sbd (lbS s s.size l) fun t r => sbd (ddS s.size 400 { zSV with lab := t } r) fun S q => sbd (wyS s.size S q) fun S m => if m.length = 0 then .ok (S, m) else .error (2, (ahd s.size 0 m).a)
def lnS (s : ByteArray) : Except (Int × Nat) (Option SV) :=
  if bat s 0 = 42 ∧ s.size ≤ 2000 then .ok none
  else if (lineP s).2.1 ≠ 0 then .error ((lineP s).2.1, (lineP s).2.2)
  else match raS s (lineP s).1 with
    | .error e => .error e
    | .ok x => if x.1.tg.fits = true ∧ x.1.va.fits = true then .ok (some x.1) else .error (4, 0)
def rlS : List ByteArray → Nat → List SV → Except (Int × Nat) (List SV)
  | [], _, o => .ok o
  | s :: l, i, o => match lnS s with
    | .error e => .error (e.1, i)
    | .ok none => rlS l (i + 1) o
    | .ok (some S) => rlS l (i + 1) (o ++ [S])
end Go.Proofs.YtpkmamgleofimaaGreatDoor
