/- The checker, plain: what is wrong with a program, what is come to; what is not come to makes no difference. -/
import Derived.Test.YtpphjddljngkmaaDoorStCP
import Derived.Test.YtpphjddljngkmaaDoorCkEP
import Derived.Test.YtpphjddljngkmaaDoorCkBP
import Derived.Test.YtpphjddljngkmaaDoorCkNP
namespace Go.Proofs.YtpphjddljngkmaaDoor
open Go.RowKit

/-- What a checker knows. -/
structure CS where
  er : Int
  at_ : Int
  fl : ByteArray → Option Int
  ff : ByteArray → Option Int
def CS.tell (c : CS) (e i : Int) : CS := ⟨tE c.er e, tA c.er e c.at_ i, c.fl, c.ff⟩
def CS.alone (c : CS) (i : Int) (S : SV) : CS := c.tell S.wrong i
/-- Is a label none that can be had? -/
def SV.labB (S : SV) (fl : ByteArray → Option Int) : Bool := lout S.lab || (fl S.lab).isSome
def putF (f : ByteArray → Option Int) (s : ByteArray) (x : Int) : ByteArray → Option Int := fun t => if t = s then some x else f t
def CS.tellIf (c : CS) (b : Bool) (e i : Int) : CS := if b = true then c.tell e i else c
def CS.withL (c : CS) (s : ByteArray) (i : Int) : CS := ⟨c.er, c.at_, putF c.fl s i, c.ff⟩
def CS.withF (c : CS) (s : ByteArray) (i : Int) : CS := ⟨c.er, c.at_, c.fl, putF c.ff s i⟩
def CS.labS (c : CS) (i : Int) (S : SV) : CS := if S.lab.toList.isEmpty = true then c else (c.tellIf (S.labB c.fl) 7 i).withL S.lab i
/-- Is a function none that can be had? -/
def SV.defB (S : SV) (ff : ByteArray → Option Int) : Bool := !decide (blt S.nm = -1) || (ff S.nm).isSome || S.clE
def CS.defS (c : CS) (i : Int) (S : SV) : CS := if S.k = 7 then (c.tellIf (S.defB c.ff) 7 i).withF S.nm i else c
def CS.learn (c : CS) (i : Int) (S : SV) : CS := (c.labS i S).defS i S
/-- Does a label lead to nothing? -/
def lbB (fl : ByteArray → Option Int) (t : ByteArray) : Bool := !t.toList.isEmpty && !lout t && !(fl t).isSome
/-- How many parameters a function has. -/
def parN (P : List SV) (x : Int) : Nat := match P[x.toNat]? with | some S => S.ps.l.length | none => 0
def wCall (P : List SV) (ff : ByteArray → Option Int) (T : PT) : Int :=
  if blt T.nm ≠ -1 then (if (T.len : Int) = blt T.nm then 0 else 5)
  else match ff T.nm with
    | none => 7
    | some x => if parN P x < T.len then 5 else 0
def CS.folC (P : List SV) (i : Int) (c : CS) (T : PT) : CS := c.tell (wCall P c.ff T) i
def CS.folL (i : Int) (c : CS) (t : ByteArray) : CS := c.tellIf (lbB c.fl t) 6 i
def CS.folD (i : Int) (c : CS) (S : SV) : CS := c.tellIf (decide (S.k = 7) && !(c.fl S.en).isSome) 6 i
def CS.follow (P : List SV) (c : CS) (i : Int) (S : SV) : CS := (callsL S.exs).foldl (CS.folC P i) (([S.al, S.ye, S.no].foldl (CS.folL i) c).folD i S)
/-- A round over a program, up to the first fault. -/
def rnd (step : CS → Int → SV → CS) : List SV → Nat → CS → CS
  | [], _, c => c
  | S :: l, i, c => if c.er = 0 then rnd step l (i + 1) (step c (i : Int) S) else c
def CS.start (P : List SV) : CS := (⟨0, 0, fun _ => none, fun _ => none⟩ : CS).tellIf (decide (1000 < P.length)) 5 0
def look1 (P : List SV) : CS := rnd CS.alone P 0 (CS.start P)
def look2 (P : List SV) : CS := rnd CS.learn P 0 (look1 P)
def lookS (P : List SV) : CS := rnd (CS.follow P) P 0 (look2 P)
theorem tell_er (c : CS) (e i : Int) (h : c.er ≠ 0) : c.tell e i = c := by
  obtain ⟨er, a, fl, ff⟩ := c
  show (⟨tE er e, tA er e a i, fl, ff⟩ : CS) = _
  rw [tE, tA, if_neg h, if_neg (fun q => h q.1)]
theorem tell_zero (c : CS) (i : Int) : c.tell 0 i = c := by
  obtain ⟨er, a, fl, ff⟩ := c
  show (⟨tE er 0, tA er 0 a i, fl, ff⟩ : CS) = _
  by_cases h : er = 0
  · rw [tE, tA, if_pos h, if_neg (fun q => q.2 rfl), h]
  · rw [tE, tA, if_neg h, if_neg (fun q => q.2 rfl)]
/-- Who tells nothing is as it was. -/
theorem tell_ok {c : CS} {e i : Int} (h : (c.tell e i).er = 0) : c.tell e i = c ∧ c.er = 0 ∧ e = 0 := by
  by_cases h0 : c.er = 0
  · have h1 : tE c.er e = 0 := h
    rw [tE, if_pos h0] at h1
    subst h1
    exact ⟨tell_zero c i, h0, rfl⟩
  · rw [tell_er c e i h0] at h
    exact absurd h h0
theorem tellIf_ok {c : CS} {b : Bool} {e i : Int} (h : (c.tellIf b e i).er = 0) (he : e ≠ 0) : c.tellIf b e i = c ∧ c.er = 0 ∧ b = false := by
  unfold CS.tellIf at h ⊢
  cases b
  · rw [if_neg (by decide)] at h ⊢
    exact ⟨rfl, h, rfl⟩
  · rw [if_pos rfl] at h ⊢
    exact absurd (tell_ok h).2.2 he
theorem rnd_stop {step : CS → Int → SV → CS} (l : List SV) (i : Nat) (c : CS) (h : c.er ≠ 0) : rnd step l i c = c := by
  cases l with
  | nil => rfl
  | cons S l => exact if_neg h
/-- What stays through a round stays. -/
theorem rnd_keep {step : CS → Int → SV → CS} {G : Nat → CS → Prop} : ∀ (l : List SV) (i : Nat) (c : CS), (∀ j S c, l[j]? = some S → G (i + j) c → c.er = 0 → G (i + j + 1) (step c ((i + j : Nat) : Int) S)) → (∀ j k c, j ≤ k → G j c → G k c) → G i c → G (i + l.length) (rnd step l i c)
  | [], i, c, _, _, h => h
  | S :: l, i, c, hs, hm, h => by
    by_cases h0 : c.er = 0
    · have e1 : rnd step (S :: l) i c = rnd step l (i + 1) (step c (i : Int) S) := if_pos h0
      rw [e1]
      have := rnd_keep (step := step) (G := G) l (i + 1) (step c (i : Int) S) (fun j A c hA hc he => by
        have := hs (j + 1) A c (by simpa using hA) (by rwa [show i + (j + 1) = i + 1 + j by omega]) he
        rwa [show i + (j + 1) = i + 1 + j by omega] at this) hm (hs 0 S c rfl h h0)
      rw [List.length_cons, show i + (l.length + 1) = i + 1 + l.length by omega]
      exact this
    · rw [rnd_stop _ _ _ h0]
      exact hm _ _ _ (by omega) h
/-- Labels stand at statements, functions at those that define. -/
structure Good (P : List SV) (m : Nat) (c : CS) : Prop where
  lab : ∀ t x, c.fl t = some x → ∃ n : Nat, x = (n : Int) ∧ n < m
  fun_ : ∀ t x, c.ff t = some x → ∃ (n : Nat) (S : SV), x = (n : Int) ∧ n < m ∧ P[n]? = some S ∧ S.k = 7
theorem Good.mono {P : List SV} {m m' : Nat} {c : CS} (h : Good P m c) (hm : m ≤ m') : Good P m' c :=
  ⟨fun t x q => by obtain ⟨n, e, hn⟩ := h.lab t x q; exact ⟨n, e, by omega⟩, fun t x q => by obtain ⟨n, S, e, hn, r⟩ := h.fun_ t x q; exact ⟨n, S, e, by omega, r⟩⟩
theorem Good.of {P : List SV} {m : Nat} {c c' : CS} (h : Good P m c) (h1 : c'.fl = c.fl) (h2 : c'.ff = c.ff) : Good P m c' := ⟨by rw [h1]; exact h.lab, by rw [h2]; exact h.fun_⟩
theorem tellIf_fl (c : CS) (b : Bool) (e i : Int) : (c.tellIf b e i).fl = c.fl ∧ (c.tellIf b e i).ff = c.ff := by unfold CS.tellIf; split <;> exact ⟨rfl, rfl⟩
theorem Good.learn {P : List SV} {m : Nat} {c : CS} {S : SV} (h : Good P m c) (hS : P[m]? = some S) : Good P (m + 1) (c.learn (m : Int) S) := by
  have h1 : Good P (m + 1) (c.labS (m : Int) S) := by
    unfold CS.labS
    split
    · exact h.mono (by omega)
    · refine ⟨fun t x q => ?_, fun t x q => ?_⟩
      · have q : putF _ S.lab (m : Int) t = some x := q
        unfold putF at q
        split at q
        · injection q with q; exact ⟨m, q.symm, by omega⟩
        · rw [(tellIf_fl c _ _ _).1] at q; exact (h.mono (Nat.le_succ m)).lab t x q
      · have q : (c.tellIf (S.labB c.fl) 7 (m : Int)).ff t = some x := q
        rw [(tellIf_fl c _ _ _).2] at q
        exact (h.mono (Nat.le_succ m)).fun_ t x q
  unfold CS.learn CS.defS
  split
  · rename_i hk
    refine ⟨fun t x q => ?_, fun t x q => ?_⟩
    · have q : ((c.labS (m : Int) S).tellIf (S.defB (c.labS (m : Int) S).ff) 7 (m : Int)).fl t = some x := q
      rw [(tellIf_fl _ _ _ _).1] at q
      exact h1.lab t x q
    · have q : putF _ S.nm (m : Int) t = some x := q
      unfold putF at q
      split at q
      · injection q with q; exact ⟨m, S, q.symm, by omega, hS, hk⟩
      · rw [(tellIf_fl _ _ _ _).2] at q; exact h1.fun_ t x q
  · exact h1
theorem foldl_fl {α : Type} {f : CS → α → CS} (hf : ∀ c x, (f c x).fl = c.fl ∧ (f c x).ff = c.ff) : ∀ (l : List α) (c : CS), (l.foldl f c).fl = c.fl ∧ (l.foldl f c).ff = c.ff
  | [], _ => ⟨rfl, rfl⟩
  | y :: l, c => ⟨(foldl_fl hf l (f c y)).1.trans (hf c y).1, (foldl_fl hf l (f c y)).2.trans (hf c y).2⟩
theorem follow_fl (P : List SV) (c : CS) (i : Int) (S : SV) : (c.follow P i S).fl = c.fl ∧ (c.follow P i S).ff = c.ff := by
  unfold CS.follow
  have h1 := foldl_fl (f := CS.folC P i) (fun c x => ⟨rfl, rfl⟩) (callsL S.exs) (([S.al, S.ye, S.no].foldl (CS.folL i) c).folD i S)
  have h2 := tellIf_fl ([S.al, S.ye, S.no].foldl (CS.folL i) c) (decide (S.k = 7) && !(([S.al, S.ye, S.no].foldl (CS.folL i) c).fl S.en).isSome) 6 i
  have h3 := foldl_fl (f := CS.folL i) (fun c x => tellIf_fl c _ _ _) [S.al, S.ye, S.no] c
  exact ⟨h1.1.trans (h2.1.trans h3.1), h1.2.trans (h2.2.trans h3.2)⟩
theorem good_look2 (P : List SV) : Good P P.length (look2 P) := by
  have h1 : Good P 0 (look1 P) := by
    have h := rnd_keep (step := CS.alone) (G := fun _ c => c.fl = (fun _ => none) ∧ c.ff = (fun _ => none)) P 0 (CS.start P) (fun j S c _ h _ => h) (fun _ _ _ _ h => h) (by unfold CS.start CS.tellIf; split <;> exact ⟨rfl, rfl⟩)
    exact ⟨fun t x q => (by rw [show (look1 P).fl = _ from h.1] at q; cases q), fun t x q => (by rw [show (look1 P).ff = _ from h.2] at q; cases q)⟩
  have h2 := rnd_keep (step := CS.learn) (G := fun m c => Good P m c) P 0 (look1 P) (fun j S c hS h _ => by
    rw [Nat.zero_add] at h ⊢
    exact h.learn hS) (fun _ _ _ hm h => h.mono hm) h1
  rwa [Nat.zero_add] at h2
theorem good_lookS (P : List SV) : Good P P.length (lookS P) := by
  have h := rnd_keep (step := CS.follow P) (G := fun _ c => Good P P.length c) P 0 (look2 P) (fun j S c _ h _ => h.of (follow_fl P c _ S).1 (follow_fl P c _ S).2) (fun _ _ _ _ h => h) (good_look2 P)
  exact h
/-- Where a label leads from a statement. -/
def leadN (fl : ByteArray → Option Int) (i : Nat) (t : ByteArray) : List Nat := if t.toList.isEmpty = true then [i + 1] else if lout t = true then [] else [((fl t).getD 0).toNat]
/-- Where a function begins. -/
def entN (P : List SV) (c : CS) (T : PT) : List Nat := match c.ff T.nm with
  | none => []
  | some x => match P[x.toNat]? with | some D => [((c.fl D.en).getD 0).toNat] | none => []
def canF (k : Int) : Bool := !decide (k = 1) && !decide (k = 6) && !decide (k = 7)
def SV.goN (S : SV) (fl : ByteArray → Option Int) (i : Nat) : List Nat := if S.al.toList.isEmpty = false then leadN fl i S.al else leadN fl i S.ye ++ (if canF S.k = true then leadN fl i S.no else [])
def SV.nxt (S : SV) (P : List SV) (c : CS) (i : Nat) : List Nat := S.goN c.fl i ++ (callsL S.exs).flatMap (entN P c)
/-- What is come to, and from where it is still to go on. -/
def comeN (q : List Bool × List Nat) (x : Nat) : List Bool × List Nat := if q.1[x]? = some false then (q.1.set x true, q.2 ++ [x]) else q
def nxtAt (P : List SV) (c : CS) (i : Nat) : List Nat := match P[i]? with | some S => S.nxt P c i | none => []
def walkN (nx : Nat → List Nat) : Nat → List Bool × List Nat → List Bool
  | 0, q => q.1
  | f + 1, q => match q.2.getLast? with
    | none => q.1
    | some i => walkN nx f ((nx i).foldl comeN (q.1, q.2.dropLast))
def fals (l : List Bool) : Nat := (l.filter (!·)).length
def reachS (P : List SV) (c : CS) : List Bool := walkN (nxtAt P c) (2 * P.length + 1) (comeN (List.replicate P.length false, []) 0)
theorem fals_set {l : List Bool} {x : Nat} (h : l[x]? = some false) : fals (l.set x true) + 1 = fals l := by
  induction l generalizing x with
  | nil => simp at h
  | cons b l ih =>
    cases x with
    | zero =>
      have : b = false := by simpa using h
      subst this
      simp [fals]
    | succ x =>
      have := ih (x := x) (by simpa using h)
      unfold fals at this ⊢
      rw [List.set_cons_succ, List.filter_cons, List.filter_cons]
      cases b <;> simp <;> omega
theorem come_fals (q : List Bool × List Nat) (x : Nat) : 2 * fals (comeN q x).1 + (comeN q x).2.length ≤ 2 * fals q.1 + q.2.length := by
  unfold comeN
  split
  · rename_i h
    have := fals_set h
    simp only [List.length_append, List.length_cons, List.length_nil]
    omega
  · exact Nat.le_refl _
theorem comes_fals : ∀ (l : List Nat) (q : List Bool × List Nat), 2 * fals (l.foldl comeN q).1 + (l.foldl comeN q).2.length ≤ 2 * fals q.1 + q.2.length
  | [], _ => Nat.le_refl _
  | x :: l, q => Nat.le_trans (comes_fals l (comeN q x)) (come_fals q x)
/-- Once come to, always come to; the length stays; what is open is come to. -/
structure Mo (q q' : List Bool × List Nat) : Prop where
  len : q'.1.length = q.1.length
  up : ∀ i : Nat, q.1[i]? = some true → q'.1[i]? = some true
theorem Mo.refl (q : List Bool × List Nat) : Mo q q := ⟨rfl, fun _ h => h⟩
theorem Mo.trans {a b c : List Bool × List Nat} (h : Mo a b) (k : Mo b c) : Mo a c := ⟨k.len.trans h.len, fun i q => k.up i (h.up i q)⟩
theorem Mo.come (q : List Bool × List Nat) (x : Nat) : Mo q (comeN q x) := by
  unfold comeN
  split
  · refine ⟨by simp, fun i hi => ?_⟩
    show (q.1.set x true)[i]? = some true
    rw [List.getElem?_set]
    split
    · rename_i e
      subst e
      split
      · rfl
      · rename_i hx; rw [List.getElem?_eq_none (by omega)] at hi; cases hi
    · exact hi
  · exact Mo.refl q
theorem Mo.comes : ∀ (l : List Nat) (q : List Bool × List Nat), Mo q (l.foldl comeN q)
  | [], q => Mo.refl q
  | x :: l, q => (Mo.come q x).trans (Mo.comes l _)
def OpenIn (q : List Bool × List Nat) : Prop := ∀ i ∈ q.2, q.1[i]? = some true
theorem OpenIn.come {q : List Bool × List Nat} (h : OpenIn q) (x : Nat) : OpenIn (comeN q x) := by
  intro i hi
  have hm := Mo.come q x
  by_cases hx : q.1[x]? = some false
  · have e : comeN q x = (q.1.set x true, q.2 ++ [x]) := if_pos hx
    rw [e] at hi
    rcases List.mem_append.1 hi with hi | hi
    · exact hm.up i (h i hi)
    · have : i = x := by simpa using hi
      subst this
      rw [e]
      show (q.1.set i true)[i]? = some true
      rw [List.getElem?_set, if_pos rfl, if_pos (List.getElem?_eq_some_iff.1 hx).1]
  · have e : comeN q x = q := if_neg hx
    rw [e] at hi ⊢
    exact h i hi
theorem OpenIn.comes : ∀ (l : List Nat) {q : List Bool × List Nat}, OpenIn q → OpenIn (l.foldl comeN q)
  | [], _, h => h
  | x :: l, _, h => OpenIn.comes l (h.come x)
theorem OpenIn.drop {q : List Bool × List Nat} (h : OpenIn q) : OpenIn (q.1, q.2.dropLast) := fun i hi => h i (List.dropLast_subset _ hi)
theorem walk_up (nx : Nat → List Nat) : ∀ (f : Nat) (q : List Bool × List Nat), (walkN nx f q).length = q.1.length ∧ ∀ i : Nat, q.1[i]? = some true → (walkN nx f q)[i]? = some true
  | 0, q => ⟨rfl, fun _ h => h⟩
  | f + 1, q => by
    unfold walkN
    cases q.2.getLast? with
    | none => exact ⟨rfl, fun _ h => h⟩
    | some i =>
      have h1 := walk_up nx f ((nx i).foldl comeN (q.1, q.2.dropLast))
      have h2 := Mo.comes (nx i) (q.1, q.2.dropLast)
      exact ⟨h1.1.trans h2.len, fun j hj => h1.2 j (h2.up j hj)⟩
theorem reach_len (P : List SV) (c : CS) : (reachS P c).length = P.length := by
  unfold reachS
  rw [(walk_up _ _ _).1, (Mo.come _ 0).len]
  simp
theorem reach_zero {P : List SV} {c : CS} (h : 0 < P.length) : (reachS P c)[0]? = some true := by
  unfold reachS
  apply (walk_up _ _ _).2
  unfold comeN
  have e : (List.replicate P.length false)[0]? = some false := by rw [List.getElem?_replicate, if_pos h]
  rw [if_pos e]
  show ((List.replicate P.length false).set 0 true)[0]? = some true
  rw [List.getElem?_set, if_pos rfl, if_pos (by simpa using h)]
end Go.Proofs.YtpphjddljngkmaaDoor
