/- The stack is even, plain. -/
import Derived.Test.YtpclpjcemeckgaaDoorCdG
namespace Go.Proofs.YtpclpjcemeckgaaDoor
open Go.RowKit

/-- What an instruction does to how many texts and places there are. -/
def DStep (x : IN) (p q : Nat × Nat) : Prop :=
  ((x.op = 2 ∨ x.op = 3) ∧ q.1 = p.1 + 1 ∧ q.2 = p.2) ∨
  ((x.op = 4 ∨ x.op = 5) ∧ 1 ≤ p.1 ∧ q.1 = p.1 ∧ q.2 = p.2) ∨
  (x.op = 6 ∧ 2 ≤ p.1 ∧ q.1 = p.1 - 1 ∧ q.2 = p.2) ∨
  ((x.op = 7 ∨ x.op = 8) ∧ (∃ m : Nat, x.n = (m : Int) ∧ m ≤ p.1 ∧ q.1 = p.1 - m + 1) ∧ q.2 = p.2) ∨
  (x.op = 9 ∧ q.1 = p.1 ∧ q.2 = p.2 + 1) ∨
  ((x.op = 10 ∨ x.op = 11) ∧ 1 ≤ p.1 ∧ q.1 = p.1 - 1 ∧ q.2 = p.2 + 1) ∨
  (x.op = 12 ∧ 1 ≤ p.2 ∧ q.1 = p.1 + 1 ∧ q.2 = p.2) ∨
  ((x.op = 13 ∨ x.op = 17) ∧ 1 ≤ p.1 ∧ q.1 = p.1 - 1 ∧ q.2 = p.2) ∨
  (x.op = 14 ∧ 1 ≤ p.1 ∧ q.1 = p.1 + 1 ∧ q.2 = p.2) ∨
  (x.op = 15 ∧ 3 ≤ p.1 ∧ q.1 = p.1 - 2 ∧ q.2 = p.2) ∨
  (x.op = 16 ∧ 1 ≤ p.1 ∧ 1 ≤ p.2 ∧ q.1 = p.1 - 1 ∧ q.2 = p.2 - 1) ∨
  ((x.op = 1 ∨ x.op = 18) ∧ q = p) ∨
  ((19 ≤ x.op ∧ x.op ≤ 22) ∧ p = (0, 0) ∧ q = (0, 0))
def DRun : List IN → Nat × Nat → Nat × Nat → Prop
  | [], p, q => p = q
  | x :: l, p, q => ∃ r, DStep x p r ∧ DRun l r q
theorem DRun.app : ∀ {a b : List IN} {p q r : Nat × Nat}, DRun a p q → DRun b q r → DRun (a ++ b) p r
  | [], b, p, q, r, h, k => by have h : p = q := h; subst h; exact k
  | x :: a, b, p, q, r, ⟨s, h1, h2⟩, k => ⟨s, h1, DRun.app h2 k⟩
theorem DRun.one {x : IN} {p q : Nat × Nat} (h : DStep x p q) : DRun [x] p q := ⟨q, h, rfl⟩
theorem kids_run {T : PT} (h : ∀ i, i < T.len → ∀ t s, DRun (T.kid i).cod (t, s) (t + 1, s)) (t s : Nat) : ∀ m, m ≤ T.len → DRun (kidI T m) (t, s) (t + m, s)
  | 0, _ => rfl
  | m + 1, hm => by
    rw [kidI_succ]
    exact (kids_run h t s m (by omega)).app (h m (by omega) (t + m) s)
theorem cod_run : ∀ T : PT, T.badX = 0 → ∀ t s, DRun T.cod (t, s) (t + 1, s) := PT.ind fun T ih hb t s => by
  have hE := badX_err hb
  have hk := errX_kind hE
  have hl := errX_kids hE
  have hkid := fun t => kids_run (fun i hi => ih i hi (badX_kid hb i hi)) t s T.len (Nat.le_refl _)
  rw [T.cod_eq]
  by_cases h7 : T.k = 7
  · have hn : negI T = [iT 2 tNul] := by unfold negI; rw [if_pos h7]
    have e1 : T.len = 1 := by
      unfold leastX mostX at hl
      (repeat (first | rw [if_pos (by omega)] at hl | rw [if_neg (by omega)] at hl))
      omega
    have hla : lastI T = iN 6 10 := by unfold lastI; rw [if_neg (by omega), if_neg (by omega), if_neg (by omega), if_neg (by omega), if_neg (by omega), if_neg (by omega), if_pos h7]
    rw [hn, hla]
    have k1 := hkid (t + 1)
    rw [e1] at k1 ⊢
    refine (DRun.app (DRun.one (x := iT 2 tNul) (p := (t, s)) (q := (t + 1, s)) (.inl ⟨.inl rfl, rfl, rfl⟩)) k1).app (DRun.one (x := iN 6 10) (.inr (.inr (.inl ⟨rfl, ?_, ?_, rfl⟩))))
    · show 2 ≤ t + 1 + 1; omega
    · show t + 1 = t + 1 + 1 - 1; omega
  · have hn : negI T = [] := by unfold negI; rw [if_neg h7]
    rw [hn, List.nil_append]
    refine (hkid t).app (DRun.one ?_)
    unfold leastX mostX at hl
    by_cases h1 : T.k = 1
    · (repeat (first | rw [if_pos (by omega)] at hl | rw [if_neg (by omega)] at hl))
      rw [show lastI T = iT 2 T.t by unfold lastI; rw [if_pos h1]]
      exact .inl ⟨.inl rfl, by show t + 1 = t + T.len + 1; omega, rfl⟩
    by_cases h2 : T.k = 2
    · (repeat (first | rw [if_pos (by omega)] at hl | rw [if_neg (by omega)] at hl))
      rw [show lastI T = iT 2 (tenText T.n) by unfold lastI; rw [if_neg h1, if_pos h2]]
      exact .inl ⟨.inl rfl, by show t + 1 = t + T.len + 1; omega, rfl⟩
    by_cases h3 : T.k = 3
    · (repeat (first | rw [if_pos (by omega)] at hl | rw [if_neg (by omega)] at hl))
      rw [show lastI T = iT 3 T.nm by unfold lastI; rw [if_neg h1, if_neg h2, if_pos h3]]
      exact .inl ⟨.inr rfl, by show t + 1 = t + T.len + 1; omega, rfl⟩
    by_cases h4 : T.k = 4
    · (repeat (first | rw [if_pos (by omega)] at hl | rw [if_neg (by omega)] at hl))
      rw [show lastI T = iT 4 T.nm by unfold lastI; rw [if_neg h1, if_neg h2, if_neg h3, if_pos h4]]
      exact .inr (.inl ⟨.inl rfl, by show 1 ≤ t + T.len; omega, by show t + 1 = t + T.len; omega, rfl⟩)
    by_cases h5 : T.k = 5
    · (repeat (first | rw [if_pos (by omega)] at hl | rw [if_neg (by omega)] at hl))
      rw [show lastI T = i0 5 by unfold lastI; rw [if_neg h1, if_neg h2, if_neg h3, if_neg h4, if_pos h5]]
      exact .inr (.inl ⟨.inr rfl, by show 1 ≤ t + T.len; omega, by show t + 1 = t + T.len; omega, rfl⟩)
    by_cases h6 : T.k = 6
    · rw [show lastI T = ⟨callOp T.nm, T.nm, (T.len : Int), 0⟩ by unfold lastI; rw [if_neg h1, if_neg h2, if_neg h3, if_neg h4, if_neg h5, if_pos h6]]
      refine .inr (.inr (.inr (.inl ⟨?_, ⟨T.len, rfl, by show T.len ≤ t + T.len; omega, by show t + 1 = t + T.len - T.len + 1; omega⟩, rfl⟩)))
      show callOp T.nm = 7 ∨ callOp T.nm = 8
      unfold callOp
      split
      · exact .inl rfl
      · exact .inr rfl
    · (repeat (first | rw [if_pos (by omega)] at hl | rw [if_neg (by omega)] at hl))
      rw [show lastI T = iN 6 T.k by unfold lastI; rw [if_neg h1, if_neg h2, if_neg h3, if_neg h4, if_neg h5, if_neg h6, if_neg h7]]
      exact .inr (.inr (.inl ⟨rfl, by show 2 ≤ t + T.len; omega, by show t + 1 = t + T.len - 1; omega, rfl⟩))
theorem plc_run {T : PT} (hb : T.badX = 0) (hp : isPl T.k = true) (t s : Nat) : DRun (plcI T) (t, s) (t, s + 1) := by
  have hE := badX_err hb
  have hl := errX_kids hE
  have hkid := kids_run (fun i hi => cod_run (T.kid i) (badX_kid hb i hi)) t s T.len (Nat.le_refl _)
  have hk : T.k = 3 ∨ T.k = 4 ∨ T.k = 5 := by unfold isPl at hp; simpa [or_assoc] using hp
  unfold plcI plcE
  unfold leastX mostX at hl
  refine hkid.app ?_
  rcases hk with h | h | h
  · (repeat (first | rw [if_pos (by omega)] at hl | rw [if_neg (by omega)] at hl))
    rw [if_pos h]
    exact DRun.one (.inr (.inr (.inr (.inr (.inl ⟨rfl, by show t = t + T.len; omega, rfl⟩)))))
  · (repeat (first | rw [if_pos (by omega)] at hl | rw [if_neg (by omega)] at hl))
    rw [if_neg (by omega), if_pos h]
    exact DRun.one (.inr (.inr (.inr (.inr (.inr (.inl ⟨.inl rfl, by show 1 ≤ t + T.len; omega, by show t = t + T.len - 1; omega, rfl⟩))))))
  · (repeat (first | rw [if_pos (by omega)] at hl | rw [if_neg (by omega)] at hl))
    rw [if_neg (by omega), if_neg (by omega), if_pos h]
    exact DRun.one (.inr (.inr (.inr (.inr (.inr (.inl ⟨.inr rfl, by show 1 ≤ t + T.len; omega, by show t = t + T.len - 1; omega, rfl⟩))))))
theorem body_run {S : SV} (hR : SR S) (i : Nat) : DRun (bodyI i S) (0, 0) (0, 0) := by
  unfold bodyI
  by_cases k2 : S.k = 2
  · rw [if_pos k2]
    exact (cod_run S.va (hR.va (by omega)).1 0 0).app (DRun.one (.inr (.inr (.inr (.inr (.inr (.inr (.inr (.inl ⟨.inr rfl, Nat.le_refl 1, rfl, rfl⟩)))))))))
  rw [if_neg k2]
  by_cases k4 : S.k = 4
  · rw [if_pos k4]
    exact (cod_run S.va (hR.va (by omega)).1 0 0).app (DRun.one (.inr (.inr (.inr (.inr (.inr (.inr (.inr (.inl ⟨.inl rfl, Nat.le_refl 1, rfl, rfl⟩)))))))))
  rw [if_neg k4]
  by_cases k3 : S.k = 3
  · rw [if_pos k3]
    have ht := hR.tg (by omega)
    exact ((plc_run ht.1 ht.2.2 0 0).app (cod_run S.va (hR.va (by omega)).1 0 1)).app (DRun.one (.inr (.inr (.inr (.inr (.inr (.inr (.inr (.inr (.inr (.inr (.inl ⟨rfl, Nat.le_refl 1, Nat.le_refl 1, rfl, rfl⟩))))))))))))
  rw [if_neg k3]
  by_cases k5 : S.k = 5
  · rw [if_pos k5]
    have ht := hR.tg (by omega)
    have h1 : DRun (plcI S.tg ++ [i0 12] ++ [iN 14 (i : Int)]) (0, 0) (2, 1) := ((plc_run ht.1 ht.2.2 0 0).app (DRun.one (q := (1, 1)) (.inr (.inr (.inr (.inr (.inr (.inr (.inl ⟨rfl, Nat.le_refl 1, rfl, rfl⟩))))))))).app (DRun.one (.inr (.inr (.inr (.inr (.inr (.inr (.inr (.inr (.inl ⟨rfl, Nat.le_refl 1, rfl, rfl⟩))))))))))
    have h2 : DRun [i0 15] (3, 1) (1, 1) := DRun.one (.inr (.inr (.inr (.inr (.inr (.inr (.inr (.inr (.inr (.inl ⟨rfl, Nat.le_refl 3, rfl, rfl⟩))))))))))
    have h3 : DRun [i0 16] (1, 1) (0, 0) := DRun.one (.inr (.inr (.inr (.inr (.inr (.inr (.inr (.inr (.inr (.inr (.inl ⟨rfl, Nat.le_refl 1, Nat.le_refl 1, rfl, rfl⟩)))))))))))
    exact ((h1.app (cod_run S.va (hR.va (by omega)).1 2 1)).app h2).app h3
  rw [if_neg k5]
  split
  · exact DRun.one (.inr (.inr (.inr (.inr (.inr (.inr (.inr (.inr (.inr (.inr (.inr (.inl ⟨.inr rfl, rfl⟩))))))))))))
  · exact rfl
theorem all_ways : ∀ {l : List IN}, (∀ x ∈ l, 19 ≤ x.op ∧ x.op ≤ 22) → DRun l (0, 0) (0, 0)
  | [], _ => rfl
  | x :: _, h => ⟨(0, 0), .inr (.inr (.inr (.inr (.inr (.inr (.inr (.inr (.inr (.inr (.inr (.inr ⟨h x (List.mem_cons_self ..), rfl, rfl⟩))))))))))), all_ways fun y hy => h y (List.mem_cons_of_mem _ hy)⟩
theorem stm_run {fl : ByteArray → Option Int} {S : SV} (hR : SR S) (i s : Nat) : DRun (stmI fl i s S) (0, 0) (0, 0) :=
  ⟨(0, 0), .inr (.inr (.inr (.inr (.inr (.inr (.inr (.inr (.inr (.inr (.inr (.inl ⟨.inl rfl, rfl⟩))))))))))), (body_run hR i).app (all_ways fun x hx => by
    obtain ⟨t, -, rfl⟩ := ways_mem hx
    exact ⟨(way_op fl i t).1, (way_op fl i t).2.1⟩)⟩
theorem out_run {fl : ByteArray → Option Int} {P : List SV} (hL : ∀ (i : Nat) (S : SV), P[i]? = some S → SR S) : ∀ k, k ≤ P.length → DRun (outTo fl P k) (0, 0) (0, 0)
  | 0, _ => rfl
  | k + 1, hk => by
    obtain ⟨S, hS⟩ : ∃ S, P[k]? = some S := ⟨P[k]'(by omega), List.getElem?_eq_getElem _⟩
    unfold outTo
    rw [stmAt_at hS]
    exact (out_run (fl := fl) hL k (by omega)).app (stm_run (hL k S hS) k _)
theorem aim_op (sts : List Nat) (N : Nat) (x : IN) : (aimI sts N x).op = x.op ∧ (aimI sts N x).n = x.n := by unfold aimI; split <;> exact ⟨rfl, rfl⟩
theorem DStep.aim {sts : List Nat} {N : Nat} {x : IN} {p q : Nat × Nat} (h : DStep x p q) : DStep (aimI sts N x) p q := by
  unfold DStep at h ⊢
  rw [(aim_op sts N x).1, (aim_op sts N x).2]; exact h
theorem DRun.aim {sts : List Nat} {N : Nat} : ∀ {l : List IN} {p q : Nat × Nat}, DRun l p q → DRun (l.map (aimI sts N)) p q
  | [], _, _, h => h
  | _ :: _, _, _, ⟨r, h1, h2⟩ => ⟨r, h1.aim, DRun.aim h2⟩
theorem cod_even {P : List SV} (h : (lookS P).er = 0) : DRun (codL (labF P) P) (0, 0) (0, 0) := by
  have hL : ∀ (i : Nat) (S : SV), P[i]? = some S → SR S := fun i S hS => sv_right ((look_right h).own i S hS)
  exact DRun.aim ((out_run hL P.length (Nat.le_refl _)).app (all_ways fun x hx => by
    have : x = i0 22 := by simpa using hx
    rw [this]
    exact ⟨(by decide : (19 : Int) ≤ 22), (by decide : (22 : Int) ≤ 22)⟩))
theorem DStep.grow {x : IN} {p q : Nat × Nat} (h : DStep x p q) : q.1 ≤ p.1 + 1 ∧ q.2 ≤ p.2 + 1 := by
  unfold DStep at h
  rcases h with h | h | h | ⟨_, ⟨m, _, _, h⟩, h2⟩ | h | h | h | h | h | h | h | ⟨_, rfl⟩ | ⟨_, rfl, rfl⟩ <;> (first | omega | simp)
theorem DRun.at_ {l : List IN} {k : Nat} {x : IN} {p q : Nat × Nat} (h : DRun (l.drop k) p q) (hx : l[k]? = some x) : ∃ r, DStep x p r ∧ DRun (l.drop (k + 1)) r q := by
  have hk : k < l.length := (List.getElem?_eq_some_iff.1 hx).1
  have hd : l.drop k = x :: l.drop (k + 1) := by
    rw [List.drop_eq_getElem_cons hk]
    congr 1
    rw [List.getElem?_eq_getElem hk] at hx
    exact Option.some.inj hx
  rw [hd] at h
  exact h
end Go.Proofs.YtpclpjcemeckgaaDoor
