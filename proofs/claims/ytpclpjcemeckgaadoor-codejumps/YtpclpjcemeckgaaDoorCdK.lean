/- Each statement has one step, where it begins; all jumps lead to one, or to the end: plain. -/
import Derived.Test.YtpclpjcemeckgaaDoorCdI
namespace Go.Proofs.YtpclpjcemeckgaaDoor
open Go.RowKit

/-- What is said of instructions, and of where statements begin. -/
structure Jmp (N : Nat) (L : List IN) (st : List Nat) : Prop where
  len : st.length = N
  pos : 0 < L.length
  max : L.length ≤ 90000000
  few : N ≤ 1000
  last : ∃ x, L[L.length - 1]? = some x ∧ x.op = 22
  begins : ∀ (i s : Nat), st[i]? = some s → s + 1 < L.length ∧ ∃ x, L[s]? = some x ∧ x.op = 1 ∧ x.n = (i : Int)
  rise : ∀ (i s s' : Nat), st[i]? = some s → st[i + 1]? = some s' → s < s'
  first : N = 0 → L.length = 1
  zero : 0 < N → st[0]? = some 0
  step : ∀ (k : Nat) (x : IN), L[k]? = some x → x.op = 1 → ∃ i : Nat, st[i]? = some k
  goes : ∀ (i s : Nat), st[i]? = some s → ∃ (x : IN) (t : Nat), L[s]? = some x ∧ x.tg = (t : Int) ∧ s < t ∧ t < (st.getD (i + 1) (L.length - 1)) ∧ ∃ y, L[t]? = some y ∧ 19 ≤ y.op
  jump : ∀ (k : Nat) (x : IN), L[k]? = some x → x.op = 19 → ∃ t : Nat, x.tg = (t : Int) ∧ (t = L.length - 1 ∨ ∃ i : Nat, st[i]? = some t)
  ends : ∀ (k : Nat) (x : IN), L[k]? = some x → x.op < 19 → k + 1 < L.length ∧ k + 1 ≠ L.length - 1 ∧ ∀ i : Nat, st[i]? ≠ some (k + 1)
section
variable {fl : ByteArray → Option Int} {P : List SV}
theorem out_mono (i j : Nat) (h : i ≤ j) : (outTo fl P i).length ≤ (outTo fl P j).length := by
  induction j with
  | zero => rw [Nat.le_zero.1 h]; exact Nat.le_refl _
  | succ j ih =>
    rcases Nat.lt_or_ge i (j + 1) with q | q
    · have h1 := ih (by omega)
      show _ ≤ (outTo fl P j ++ stmAt fl P j _).length
      rw [List.length_append]; omega
    · rw [show i = j + 1 by omega]; exact Nat.le_refl _
/-- What lies in the first statements lies there in all of them. -/
theorem out_pre {i k : Nat} {x : IN} (j : Nat) (h : i ≤ j) (hx : (outTo fl P i)[k]? = some x) : (outTo fl P j)[k]? = some x := by
  induction j with
  | zero => rw [Nat.le_zero.1 h] at hx; exact hx
  | succ j ih =>
    rcases Nat.lt_or_ge i (j + 1) with q | q
    · have h1 := ih (by omega)
      show (outTo fl P j ++ stmAt fl P j _)[k]? = some x
      rw [List.getElem?_append_left (List.getElem?_eq_some_iff.1 h1).1]
      exact h1
    · rw [show i = j + 1 by omega] at hx; exact hx
/-- Each one lies in some statement. -/
theorem out_in : ∀ {j k : Nat} {x : IN}, (outTo fl P j)[k]? = some x → ∃ i S r, i < j ∧ P[i]? = some S ∧ k = (outTo fl P i).length + r ∧ (stmI fl i (outTo fl P i).length S)[r]? = some x
  | 0, k, x, h => by simp [outTo] at h
  | j + 1, k, x, h => by
    have h : (outTo fl P j ++ stmAt fl P j (outTo fl P j).length)[k]? = some x := h
    rcases Nat.lt_or_ge k (outTo fl P j).length with q | q
    · rw [List.getElem?_append_left q] at h
      obtain ⟨i, S, r, h1, h2⟩ := out_in h
      exact ⟨i, S, r, by omega, h2⟩
    · rw [List.getElem?_append_right q] at h
      unfold stmAt at h
      split at h
      · rename_i S hS
        exact ⟨j, S, k - (outTo fl P j).length, by omega, hS, by omega, h⟩
      · simp at h
theorem out_at {i r : Nat} {S : SV} {x : IN} {j : Nat} (hij : i < j) (hS : P[i]? = some S) (hx : (stmI fl i (outTo fl P i).length S)[r]? = some x) : (outTo fl P j)[(outTo fl P i).length + r]? = some x := by
  refine out_pre j (i := i + 1) hij ?_
  show (outTo fl P i ++ stmAt fl P i _)[_]? = some x
  rw [stmAt_at hS, List.getElem?_append_right (by omega), Nat.add_sub_cancel_left]
  exact hx
theorem out_next {i : Nat} {S : SV} (hS : P[i]? = some S) : (outTo fl P (i + 1)).length = (outTo fl P i).length + (1 + (bodyI i S).length + (waysI fl i S).length) := by
  show (outTo fl P i ++ stmAt fl P i _).length = _
  rw [List.length_append, stmAt_at hS]
  unfold stmI
  rw [List.length_cons, List.length_append]; omega
/-- What lies at a place of a statement. -/
theorem stm_kind {i s r : Nat} {S : SV} {x : IN} (h : (stmI fl i s S)[r]? = some x) : (r = 0 ∧ x = stepI i ((s + (bodyI i S).length + (waysI fl i S).length : Nat) : Int)) ∨ (x.op ≠ 1 ∧ x.op < 19 ∧ r < (bodyI i S).length + (waysI fl i S).length) ∨ (19 ≤ x.op ∧ x ∈ waysI fl i S) := by
  unfold stmI at h
  cases r with
  | zero => exact .inl ⟨rfl, (by simpa using h.symm)⟩
  | succ r =>
    rw [List.getElem?_cons_succ] at h
    rcases Nat.lt_or_ge r (bodyI i S).length with q | q
    · rw [List.getElem?_append_left q] at h
      have := body_op i S x (List.mem_of_getElem? h)
      have := ways_len fl i S
      exact .inr (.inl ⟨by omega, by omega, by omega⟩)
    · rw [List.getElem?_append_right q] at h
      have hm := List.mem_of_getElem? h
      obtain ⟨t, -, rfl⟩ := ways_mem hm
      exact .inr (.inr ⟨(way_op fl i t).1, hm⟩)
end
theorem cod_jmp {P : List SV} (h : (lookS P).er = 0) : Jmp P.length (codL (labF P) P) (stsTo (labF P) P P.length) := by
  have hR := look_right h
  have hL : ∀ (i : Nat) (S : SV), P[i]? = some S → SR S := fun i S hS => sv_right (hR.own i S hS)
  obtain ⟨fl, hfl⟩ : ∃ fl, fl = labF P := ⟨_, rfl⟩
  have hraw : ∀ x ∈ rawL fl P, x.op = 19 → ∃ m : Nat, x.tg = (m : Int) ∧ m ≤ P.length := fun x hx h19 => by rw [hfl] at hx; exact raw_jump hR hx h19
  rw [← hfl]
  obtain ⟨O, hO⟩ : ∃ O, O = outTo fl P P.length := ⟨_, rfl⟩
  have hrl : (rawL fl P).length = O.length + 1 := by unfold rawL; rw [List.length_append, hO]; rfl
  have hcl : (codL fl P).length = O.length + 1 := by unfold codL; rw [List.length_map, hrl]
  have hol := out_len (fl := fl) hL P.length (Nat.le_refl _)
  have hsl := sts_len fl P P.length
  have hsg := fun i (hi : i < P.length) => sts_get fl P P.length i hi
  obtain ⟨st, hst⟩ : ∃ st, st = stsTo fl P P.length := ⟨_, rfl⟩
  rw [← hst] at hsl hsg
  -- what lies there
  have get : ∀ k y, (codL fl P)[k]? = some y → ∃ x, (rawL fl P)[k]? = some x ∧ y = aimI st (O.length + 1) x := fun k y hy => by
    unfold codL at hy
    rw [List.getElem?_map, hrl] at hy
    cases hx : (rawL fl P)[k]? with
    | none => rw [hx] at hy; cases hy
    | some x => rw [hx] at hy; exact ⟨x, hx, by rw [hst]; exact (Option.some.inj hy).symm⟩
  have put : ∀ k x, (rawL fl P)[k]? = some x → (codL fl P)[k]? = some (aimI st (O.length + 1) x) := fun k x hx => by
    unfold codL
    rw [List.getElem?_map, hrl, hx, hst]; rfl
  have rawO : ∀ k x, O[k]? = some x → (rawL fl P)[k]? = some x := fun k x hx => by
    unfold rawL
    rw [← hO, List.getElem?_append_left (List.getElem?_eq_some_iff.1 hx).1]; exact hx
  have rawE : (rawL fl P)[O.length]? = some (i0 22) := by
    unfold rawL
    rw [← hO, List.getElem?_append_right (Nat.le_refl _), Nat.sub_self]; rfl
  have parts : ∀ k x, (rawL fl P)[k]? = some x → (k = O.length ∧ x = i0 22) ∨ (k < O.length ∧ ∃ i S r, i < P.length ∧ P[i]? = some S ∧ k = (outTo fl P i).length + r ∧ (stmI fl i (outTo fl P i).length S)[r]? = some x) := fun k x hx => by
    rcases Nat.lt_or_ge k O.length with q | q
    · unfold rawL at hx
      rw [← hO, List.getElem?_append_left q] at hx
      exact .inr ⟨q, out_in (hO ▸ hx)⟩
    · have hk : k < (rawL fl P).length := (List.getElem?_eq_some_iff.1 hx).1
      obtain rfl : k = O.length := by omega
      rw [rawE] at hx
      exact .inl ⟨rfl, (Option.some.inj hx).symm⟩
  have two : ∀ i S, P[i]? = some S → (outTo fl P i).length + 2 ≤ (outTo fl P (i + 1)).length ∧ (outTo fl P (i + 1)).length ≤ O.length := fun i S hS => by
    have hi : i < P.length := (List.getElem?_eq_some_iff.1 hS).1
    have h1 := out_next (fl := fl) hS
    have h2 := ways_len fl i S
    have h3 := out_mono (fl := fl) (P := P) (i + 1) P.length hi
    rw [← hO] at h3
    exact ⟨by omega, h3⟩
  have stE : ∀ i s, st[i]? = some s → ∃ S, P[i]? = some S ∧ s = (outTo fl P i).length := fun i s hs => by
    have hi : i < P.length := by have := (List.getElem?_eq_some_iff.1 hs).1; omega
    rw [hsg i hi] at hs
    exact ⟨P[i]'hi, List.getElem?_eq_getElem _, (Option.some.inj hs).symm⟩
  have nextD : ∀ i S, P[i]? = some S → st.getD (i + 1) ((codL fl P).length - 1) = (outTo fl P (i + 1)).length := fun i S hS => by
    have hi : i < P.length := (List.getElem?_eq_some_iff.1 hS).1
    rw [List.getD_eq_getElem?_getD]
    rcases Nat.lt_or_ge (i + 1) P.length with q | q
    · rw [hsg (i + 1) q]; rfl
    · rw [List.getElem?_eq_none (by omega), hcl, hO, show i + 1 = P.length by omega]; rfl
  have stepAt : ∀ i S, P[i]? = some S → (codL fl P)[(outTo fl P i).length]? = some (stepI i (((outTo fl P i).length + (bodyI i S).length + (waysI fl i S).length : Nat) : Int)) := fun i S hS => by
    have hi : i < P.length := (List.getElem?_eq_some_iff.1 hS).1
    have h0 := out_at (r := 0) hi hS (show (stmI fl i (outTo fl P i).length S)[0]? = some _ from rfl)
    rw [← hO, Nat.add_zero] at h0
    exact put _ _ (rawO _ _ h0)
  have uniq : ∀ i j S T r, P[i]? = some S → P[j]? = some T → (outTo fl P i).length = (outTo fl P j).length + r → (stmI fl j (outTo fl P j).length T)[r]? ≠ none → i = j ∧ r = 0 := fun i j S T r hS hT e hr => by
    have hrl2 : r < 1 + (bodyI j T).length + (waysI fl j T).length := by
      rcases Nat.lt_or_ge r (1 + (bodyI j T).length + (waysI fl j T).length) with q | q
      · exact q
      · exact absurd (List.getElem?_eq_none (by unfold stmI; rw [List.length_cons, List.length_append]; omega)) hr
    have hj := out_next (fl := fl) hT
    rcases Nat.lt_trichotomy i j with q | q | q
    · have h1 := out_mono (fl := fl) (P := P) (i + 1) j q
      have h2 := (two i S hS).1
      omega
    · subst q; exact ⟨rfl, by omega⟩
    · have h1 := out_mono (fl := fl) (P := P) (j + 1) i q
      omega
  have hops : ∀ x : IN, (aimI st (O.length + 1) x).op = x.op := fun x => (aim_op _ _ x).1
  rw [← hst]
  refine ⟨hsl, by omega, by have := hR.len; rw [← hO] at hol; omega, hR.len, ⟨_, by rw [hcl]; exact put _ _ rawE, by rw [hops]; rfl⟩, ?_, ?_, ?_, ?_, ?_, ?_, ?_, ?_⟩
  · intro i s hs
    obtain ⟨S, hS, rfl⟩ := stE i s hs
    have := two i S hS
    exact ⟨by omega, _, stepAt i S hS, rfl, rfl⟩
  · intro i s s' hs hs'
    obtain ⟨S, hS, rfl⟩ := stE i s hs
    obtain ⟨S', hS', rfl⟩ := stE (i + 1) s' hs'
    have := two i S hS
    omega
  · intro h0
    rw [hcl, hO, h0]; rfl
  · intro h0
    rw [hsg 0 h0]; rfl
  · intro k y hy h1
    obtain ⟨x, hx, rfl⟩ := get k y hy
    rw [hops] at h1
    rcases parts k x hx with ⟨-, rfl⟩ | ⟨-, i, S, r, hi, hS, hk, hr⟩
    · cases h1
    · rcases stm_kind hr with ⟨rfl, rfl⟩ | q | q
      · exact ⟨i, by rw [hsg i hi, hk]; rfl⟩
      · exact absurd h1 q.1
      · omega
  · intro i s hs
    obtain ⟨S, hS, rfl⟩ := stE i s hs
    have hi : i < P.length := (List.getElem?_eq_some_iff.1 hS).1
    have hw := ways_len fl i S
    have hn := out_next (fl := fl) hS
    refine ⟨_, (outTo fl P i).length + (bodyI i S).length + (waysI fl i S).length, stepAt i S hS, rfl, by omega, by rw [nextD i S hS]; omega, ?_⟩
    obtain ⟨y, hy⟩ : ∃ y, (stmI fl i (outTo fl P i).length S)[(bodyI i S).length + (waysI fl i S).length]? = some y := ⟨_, List.getElem?_eq_getElem (by unfold stmI; rw [List.length_cons, List.length_append]; omega)⟩
    have h9 := out_at hi hS hy
    rw [← hO] at h9
    refine ⟨aimI st (O.length + 1) y, ?_, ?_⟩
    · have := put _ _ (rawO _ _ h9)
      rwa [← Nat.add_assoc] at this
    · rw [hops]
      rcases stm_kind hy with ⟨q, -⟩ | q | q
      · omega
      · omega
      · exact q.1
  · intro k y hy h19
    obtain ⟨x, hx, rfl⟩ := get k y hy
    rw [hops] at h19
    obtain ⟨m, hm, hml⟩ := hraw x (List.mem_of_getElem? hx) h19
    have e : aimI st (O.length + 1) x = ⟨x.op, x.t, x.n, ((st.getD x.tg.toNat (O.length + 1 - 1) : Nat) : Int)⟩ := if_pos h19
    refine ⟨st.getD x.tg.toNat (O.length + 1 - 1), by rw [e], ?_⟩
    rw [hm, Int.toNat_natCast, List.getD_eq_getElem?_getD]
    rcases Nat.lt_or_ge m P.length with q | q
    · rw [hsg m q]
      exact .inr ⟨m, by rw [hsg m q]; rfl⟩
    · rw [List.getElem?_eq_none (by omega)]
      exact .inl (by rw [hcl]; rfl)
  · intro k y hy h19
    obtain ⟨x, hx, rfl⟩ := get k y hy
    rw [hops] at h19
    rcases parts k x hx with ⟨-, rfl⟩ | ⟨hk0, i, S, r, hi, hS, hk, hr⟩
    · exact absurd h19 (by decide : ¬ (22 : Int) < 19)
    · have hn := out_next (fl := fl) hS
      have h2 := two i S hS
      have hw := ways_len fl i S
      have hrr : r < (bodyI i S).length + (waysI fl i S).length := by
        rcases stm_kind hr with ⟨rfl, -⟩ | q | q
        · omega
        · exact q.2.2
        · omega
      refine ⟨by omega, by omega, fun j hj => ?_⟩
      obtain ⟨T, hT, e⟩ := stE j _ hj
      have := uniq j i T S (r + 1) hT hS (by omega) (fun q => by
        have := List.getElem?_eq_none_iff.1 q
        unfold stmI at this
        rw [List.length_cons, List.length_append] at this
        omega)
      omega
end Go.Proofs.YtpclpjcemeckgaaDoor
