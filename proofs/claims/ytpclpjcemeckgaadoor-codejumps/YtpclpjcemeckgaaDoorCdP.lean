/- Programs turned into instructions, plain. -/
import Derived.Test.YtpclpjcemeckgaaDoorCkP
import Derived.Test.YtpclpjcemeckgaaDoorNumPr
namespace Go.Proofs.YtpclpjcemeckgaaDoor
open Go.RowKit

/-- An instruction. -/
structure IN where
  op : Int
  t : ByteArray
  n : Int
  tg : Int
def iC (x : IN) : List Value := [.int .i64 x.op, .string x.t, .int .i64 x.n, .int .i64 x.tg]
def i0 (op : Int) : IN := ⟨op, ByteArray.empty, 0, 0⟩
def iN (op n : Int) : IN := ⟨op, ByteArray.empty, n, 0⟩
def iT (op : Int) (t : ByteArray) : IN := ⟨op, t, 0, 0⟩
def callOp (s : ByteArray) : Int := if 0 ≤ blt s then 7 else 8
/-- The instruction behind those of an expression's kids. -/
def lastI (T : PT) : IN :=
  if T.k = 1 then iT 2 T.t
  else if T.k = 2 then iT 2 (tenText T.n)
  else if T.k = 3 then iT 3 T.nm
  else if T.k = 4 then iT 4 T.nm
  else if T.k = 5 then i0 5
  else if T.k = 6 then ⟨callOp T.nm, T.nm, (T.len : Int), 0⟩
  else if T.k = 7 then iN 6 10
  else iN 6 T.k
def tNul : ByteArray := ⟨#[48]⟩
def negI (T : PT) : List IN := if T.k = 7 then [iT 2 tNul] else []
/-- What puts an expression's text on the stack. -/
def PT.cod : PT → List IN
  | .node k t n nm xa b o len cap kids => negI (.node k t n nm xa b o len cap kids) ++ flatTo (kf len [] fun i => PT.cod (kids i)) len ++ [lastI (.node k t n nm xa b o len cap kids)]
def kidI (T : PT) (m : Nat) : List IN := flatTo (fun i => (T.kid i).cod) m
theorem PT.cod_eq (T : PT) : T.cod = negI T ++ kidI T T.len ++ [lastI T] := by
  obtain ⟨k, t, n, nm, xa, b, o, len, cap, kids⟩ := T
  have h := flatTo_congr (f := kf len [] fun i => PT.cod (kids i)) (g := fun i => ((PT.node k t n nm xa b o len cap kids).kid i).cod) len fun i hi => by rw [kf_at hi, PT.kid_at (T := .node k t n nm xa b o len cap kids) hi]
  show negI _ ++ flatTo (kf len [] fun i => PT.cod (kids i)) len ++ [lastI _] = _
  rw [h]
  rfl
theorem kidI_succ (T : PT) (m : Nat) : kidI T (m + 1) = kidI T m ++ (T.kid m).cod := rfl
theorem negI_len (T : PT) : (negI T).length ≤ 1 := by unfold negI; split <;> simp
theorem flat_len_le {α : Type} {f : Nat → List α} {g : Nat → Nat} : ∀ n, (∀ i, i < n → (f i).length ≤ g i) → (flatTo f n).length ≤ sumTo g n
  | 0, _ => Nat.le_refl _
  | n + 1, h => by
    have h1 := flat_len_le n fun i hi => h i (by omega)
    have h2 := h n (by omega)
    rw [flatTo, sumTo, List.length_append]; omega
theorem sumTo_two (f : Nat → Nat) : ∀ n, sumTo (fun i => 2 * f i) n = 2 * sumTo f n
  | 0 => rfl
  | n + 1 => by rw [sumTo, sumTo, sumTo_two f n]; omega
theorem PT.cod_len : ∀ T : PT, T.cod.length ≤ 2 * T.cnt := PT.ind fun T ih => by
  have h1 : (kidI T T.len).length ≤ sumTo (fun i => 2 * (T.kid i).cnt) T.len := flat_len_le T.len fun i hi => ih i hi
  rw [sumTo_two] at h1
  have h2 := negI_len T
  rw [T.cod_eq, T.cnt_eq, List.length_append, List.length_append]
  simp only [List.length_cons, List.length_nil]
  omega
theorem kidI_len (T : PT) {m : Nat} (h : m ≤ T.len) : (kidI T m).length + 2 ≤ 2 * T.cnt := by
  have h1 : (kidI T m).length ≤ sumTo (fun i => 2 * (T.kid i).cnt) m := flat_len_le m fun i _ => (T.kid i).cod_len
  rw [sumTo_two] at h1
  have h2 := sumTo_le (fun i => (T.kid i).cnt) h
  rw [T.cnt_eq]
  omega
/-- What puts an expression's place on the places. -/
def plcE (T : PT) : List IN := if T.k = 3 then [iT 9 T.nm] else if T.k = 4 then [iT 10 T.nm] else if T.k = 5 then [i0 11] else []
def plcI (T : PT) : List IN := kidI T T.len ++ plcE T
theorem plcI_len (T : PT) : (plcI T).length ≤ 2 * T.cnt := by
  have h := kidI_len T (Nat.le_refl _)
  have : (plcE T).length ≤ 1 := by unfold plcE; (repeat' split) <;> simp
  unfold plcI; rw [List.length_append]; omega
/-- What a statement does. -/
def bodyI (i : Nat) (S : SV) : List IN :=
  if S.k = 2 then S.va.cod ++ [i0 17]
  else if S.k = 4 then S.va.cod ++ [iN 13 (i : Int)]
  else if S.k = 3 then plcI S.tg ++ S.va.cod ++ [i0 16]
  else if S.k = 5 then plcI S.tg ++ [i0 12] ++ [iN 14 (i : Int)] ++ S.va.cod ++ [i0 15] ++ [i0 16]
  else if S.k = 6 then [iN 18 (i : Int)]
  else []
/-- How it goes on at a label: a jump leads to a statement's number. -/
def wayI (fl : ByteArray → Option Int) (i : Nat) (t : ByteArray) : IN :=
  if t = tEnd then i0 22 else if t = tRet then i0 20 else if t = tFre then i0 21
  else if t.toList.isEmpty = true then ⟨19, ByteArray.empty, 0, ((i + 1 : Nat) : Int)⟩ else ⟨19, ByteArray.empty, 0, (fl t).getD 0⟩
def waysI (fl : ByteArray → Option Int) (i : Nat) (S : SV) : List IN :=
  if S.al.toList.isEmpty = false then [wayI fl i S.al] else [wayI fl i S.ye] ++ (if (S.no.toList == S.ye.toList) = true then [] else [wayI fl i S.no])
def stepI (i : Nat) (tg : Int) : IN := ⟨1, ByteArray.empty, (i : Int), tg⟩
/-- All of a statement, which begins at a place. -/
def stmI (fl : ByteArray → Option Int) (i s : Nat) (S : SV) : List IN := stepI i ((s + (bodyI i S).length + (waysI fl i S).length : Nat) : Int) :: (bodyI i S ++ waysI fl i S)
def stmAt (fl : ByteArray → Option Int) (P : List SV) (i s : Nat) : List IN := match P[i]? with | some S => stmI fl i s S | none => []
/-- The instructions of the first statements; where they begin. -/
def outTo (fl : ByteArray → Option Int) (P : List SV) : Nat → List IN
  | 0 => []
  | k + 1 => outTo fl P k ++ stmAt fl P k (outTo fl P k).length
def stsTo (fl : ByteArray → Option Int) (P : List SV) : Nat → List Nat
  | 0 => []
  | k + 1 => stsTo fl P k ++ [(outTo fl P k).length]
/-- Jumps lead to where statements begin. -/
def aimI (sts : List Nat) (N : Nat) (x : IN) : IN := if x.op = 19 then ⟨x.op, x.t, x.n, ((sts.getD x.tg.toNat (N - 1) : Nat) : Int)⟩ else x
def rawL (fl : ByteArray → Option Int) (P : List SV) : List IN := outTo fl P P.length ++ [i0 22]
def codL (fl : ByteArray → Option Int) (P : List SV) : List IN := (rawL fl P).map (aimI (stsTo fl P P.length) (rawL fl P).length)
/-- At which statement a label stands. -/
def labS1 (P : List SV) (k : Nat) (f : ByteArray → Option Int) : ByteArray → Option Int := match P[k]? with
  | some S => if S.lab.toList.isEmpty = true then f else putF f S.lab (k : Int)
  | none => f
def labTo (P : List SV) : Nat → ByteArray → Option Int
  | 0 => fun _ => none
  | k + 1 => labS1 P k (labTo P k)
theorem labS1_at {P : List SV} {k : Nat} {S : SV} (h : P[k]? = some S) (f : ByteArray → Option Int) : labS1 P k f = if S.lab.toList.isEmpty = true then f else putF f S.lab (k : Int) := by unfold labS1; rw [h]
def labF (P : List SV) : ByteArray → Option Int := labTo P P.length
theorem lab_good (P : List SV) : ∀ k, k ≤ P.length → ∀ t x, labTo P k t = some x → ∃ n : Nat, x = (n : Int) ∧ n < k
  | 0, _, t, x, h => by cases h
  | k + 1, hk, t, x, h => by
    have ih := lab_good P k (by omega)
    have up : ∀ x, labTo P k t = some x → ∃ n : Nat, x = (n : Int) ∧ n < k + 1 := fun x q => by obtain ⟨n, e, hn⟩ := ih t x q; exact ⟨n, e, by omega⟩
    obtain ⟨S, hS⟩ : ∃ S, P[k]? = some S := ⟨P[k]'(by omega), List.getElem?_eq_getElem _⟩
    have h : labS1 P k (labTo P k) t = some x := h
    rw [labS1_at hS] at h
    split at h
    · exact up x h
    · unfold putF at h
      split at h
      · injection h with h; exact ⟨k, h.symm, by omega⟩
      · exact up x h
theorem lab_num (P : List SV) (hP : P.length ≤ 1000) (t : ByteArray) : ∃ m : Nat, (labF P t).getD 0 = (m : Int) ∧ m ≤ 1000 := by
  cases hf : labF P t with
  | none => exact ⟨0, rfl, by omega⟩
  | some x =>
    obtain ⟨m, rfl, hm⟩ := lab_good P P.length (Nat.le_refl _) t x hf
    exact ⟨m, rfl, by omega⟩

/-- What the checker has let by. -/
theorem rnd_er {step : CS → Int → SV → CS} {l : List SV} {i : Nat} {c : CS} (h : (rnd step l i c).er = 0) : c.er = 0 := by
  by_cases h0 : c.er = 0
  · exact h0
  · rw [rnd_stop _ _ _ h0] at h; exact h
theorem rnd_each {step : CS → Int → SV → CS} {G : CS → Prop} (hG : ∀ c i S, (step c i S).er = 0 → G c → G (step c i S)) :
    ∀ (l : List SV) (i : Nat) (c : CS), (rnd step l i c).er = 0 → G c → G (rnd step l i c) ∧ ∀ j S, l[j]? = some S → ∃ c', G c' ∧ (step c' ((i + j : Nat) : Int) S).er = 0
  | [], i, c, h, hg => ⟨hg, fun j S hS => by simp at hS⟩
  | A :: l, i, c, h, hg => by
    have h0 := rnd_er h
    have e1 : rnd step (A :: l) i c = rnd step l (i + 1) (step c (i : Int) A) := if_pos h0
    rw [e1] at h ⊢
    have h1 := rnd_er h
    have ih := rnd_each hG l (i + 1) _ h (hG c _ A h1 hg)
    refine ⟨ih.1, fun j S hS => ?_⟩
    cases j with
    | zero =>
      have : A = S := by simpa using hS
      subst this
      exact ⟨c, hg, h1⟩
    | succ j =>
      obtain ⟨c', g, e⟩ := ih.2 j S (by simpa using hS)
      exact ⟨c', g, by rwa [show i + (j + 1) = i + 1 + j by omega]⟩
structure Right (P : List SV) : Prop where
  len : P.length ≤ 1000
  fl : (lookS P).fl = labF P
  own : ∀ (i : Nat) (S : SV), P[i]? = some S → S.wrong = 0
  lab : ∀ (i : Nat) (S : SV), P[i]? = some S → ∀ t ∈ [S.al, S.ye, S.no], t.toList.isEmpty = false → lout t = false → (labF P t).isSome = true
theorem learn_fl {c : CS} {i : Nat} {S : SV} (h : (c.learn (i : Int) S).er = 0) : (c.learn (i : Int) S).fl = if S.lab.toList.isEmpty = true then c.fl else putF c.fl S.lab (i : Int) := by
  have h2 := defS_ok (show ((c.labS (i : Int) S).defS (i : Int) S).er = 0 from h)
  have h1 := labS_ok h2.1
  have e1 : (c.learn (i : Int) S).fl = (c.labS (i : Int) S).fl := by
    show ((c.labS (i : Int) S).defS (i : Int) S).fl = _
    rw [h2.2]
    split <;> rfl
  rw [e1, h1.2]
  split <;> rfl
theorem drop_at {P : List SV} {i : Nat} {S : SV} {l : List SV} (h : P.drop i = S :: l) : P[i]? = some S ∧ P.drop (i + 1) = l := by
  have hi : i < P.length := by
    rcases Nat.lt_or_ge i P.length with q | q
    · exact q
    · rw [List.drop_eq_nil_of_le q] at h; cases h
  rw [List.drop_eq_getElem_cons hi] at h
  injection h with h1 h2
  exact ⟨by rw [List.getElem?_eq_getElem hi, h1], h2⟩
theorem rnd_learn {P : List SV} : ∀ (l : List SV) (i : Nat) (c : CS), P.drop i = l → c.fl = labTo P i → (rnd CS.learn l i c).er = 0 → i ≤ P.length → (rnd CS.learn l i c).fl = labF P
  | [], i, c, hd, hf, h, hi => by
    have : i = P.length := by
      have := congrArg List.length hd
      simp at this; omega
    subst this
    exact hf
  | S :: l, i, c, hd, hf, h, hi => by
    have h0 := rnd_er h
    have e1 : rnd CS.learn (S :: l) i c = rnd CS.learn l (i + 1) (c.learn (i : Int) S) := if_pos h0
    rw [e1] at h ⊢
    have hS := drop_at hd
    refine rnd_learn l (i + 1) _ hS.2 ?_ h (by have := (List.getElem?_eq_some_iff.1 hS.1).1; omega)
    rw [learn_fl (rnd_er h), hf]
    exact (labS1_at hS.1 _).symm
theorem look_right {P : List SV} (h : (lookS P).er = 0) : Right P := by
  have h2 : (look2 P).er = 0 := rnd_er h
  have h1 : (look1 P).er = 0 := rnd_er h2
  have h00 : (CS.start P).er = 0 := rnd_er h1
  have hst := tellIf_ok (show (CS.tellIf _ _ 5 0).er = 0 from h00) (by decide)
  have f1 : (look1 P).fl = fun _ => none := by
    have hk := rnd_keep (step := CS.alone) (G := fun _ c => c.fl = (fun _ => none)) P 0 (CS.start P) (fun j S c _ h _ => h) (fun _ _ _ _ h => h) (by unfold CS.start CS.tellIf; split <;> rfl)
    exact hk
  have f2 : (look2 P).fl = labF P := rnd_learn P 0 (look1 P) rfl f1 h2 (Nat.zero_le _)
  have f3 := rnd_each (step := CS.follow P) (G := fun c => c.fl = labF P) (fun c i S _ hc => by rw [(follow_fl P c i S).1]; exact hc) P 0 (look2 P) h f2
  have f0 := rnd_each (step := CS.alone) (G := fun _ => True) (fun _ _ _ _ _ => trivial) P 0 (CS.start P) h1 trivial
  refine ⟨by have := of_decide_eq_false hst.2.2; omega, f3.1, fun i S hS => ?_, fun i S hS t ht he hl => ?_⟩
  · obtain ⟨c, -, hc⟩ := f0.2 i S hS
    exact (tell_ok hc).2.2
  · obtain ⟨c, hg, hc⟩ := f3.2 i S hS
    have := (follow_ok hc).2.2.1 t ht
    unfold lbB at this
    rw [hg, he, hl] at this
    simpa using this
end Go.Proofs.YtpclpjcemeckgaaDoor
