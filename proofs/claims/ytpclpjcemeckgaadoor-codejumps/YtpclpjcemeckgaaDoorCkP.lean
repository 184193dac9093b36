/- The checker, plain: what is wrong with a program, what is come to; what is not come to makes no difference. -/
import Derived.Test.YtpclpjcemeckgaaDoorStC
import Derived.Test.YtpclpjcemeckgaaDoorCkE
import Derived.Test.YtpclpjcemeckgaaDoorCkB
import Derived.Test.YtpclpjcemeckgaaDoorCkN
namespace Go.Proofs.YtpclpjcemeckgaaDoor
open Go.RowKit

/-- What a checker knows. -/
structure CS where
  er : Int
  at_ : Int
  fl : ByteArray → Option Int
  ff : ByteArray → Option Int
def CS.tell (c : CS) (e i : Int) : CS := ⟨tE c.er e, tA c.er e c.at_ i, c.fl, c.ff⟩
def CS.alone (c : CS) (i : Int) (S : SV) : CS := c.tell S.wrong i
/-- Is a label none that can be had? -/
def SV.labB (S : SV) (fl : ByteArray → Option Int) : Bool := lout S.lab || (fl S.lab).isSome
def putF (f : ByteArray → Option Int) (s : ByteArray) (x : Int) : ByteArray → Option Int := fun t => if t = s then some x else f t
def CS.tellIf (c : CS) (b : Bool) (e i : Int) : CS := if b = true then c.tell e i else c
def CS.withL (c : CS) (s : ByteArray) (i : Int) : CS := ⟨c.er, c.at_, putF c.fl s i, c.ff⟩
def CS.withF (c : CS) (s : ByteArray) (i : Int) : CS := ⟨c.er, c.at_, c.fl, putF c.ff s i⟩
def CS.labS (c : CS) (i : Int) (S : SV) : CS := if S.lab.toList.isEmpty = true then c else (c.tellIf (S.labB c.fl) 7 i).withL S.lab i
/-- Is a function none that can be had? -/
def SV.defB (S : SV) (ff : ByteArray → Option Int) : Bool := !decide (blt S.nm = -1) || (ff S.nm).isSome || S.clE
def CS.defS (c : CS) (i : Int) (S : SV) : CS := if S.k = 7 then (c.tellIf (S.defB c.ff) 7 i).withF S.nm i else c
def CS.learn (c : CS) (i : Int) (S : SV) : CS := (c.labS i S).defS i S
/-- Does a label lead to nothing? -/
def lbB (fl : ByteArray → Option Int) (t : ByteArray) : Bool := !t.toList.isEmpty && !lout t && !(fl t).isSome
/-- How many parameters a function has. -/
def parN (P : List SV) (x : Int) : Nat := match P[x.toNat]? with | some S => S.ps.l.length | none => 0
def wCall (P : List SV) (ff : ByteArray → Option Int) (T : PT) : Int :=
  if blt T.nm ≠ -1 then (if (T.len : Int) = blt T.nm then 0 else 5)
  else match ff T.nm with
    | none => 7
    | some x => if parN P x < T.len then 5 else 0
def CS.folC (P : List SV) (i : Int) (c : CS) (T : PT) : CS := c.tell (wCall P c.ff T) i
def CS.folL (i : Int) (c : CS) (t : ByteArray) : CS := c.tellIf (lbB c.fl t) 6 i
def CS.folD (i : Int) (c : CS) (S : SV) : CS := c.tellIf (decide (S.k = 7) && !(c.fl S.en).isSome) 6 i
def CS.follow (P : List SV) (c : CS) (i : Int) (S : SV) : CS := (callsL S.exs).foldl (CS.folC P i) (([S.al, S.ye, S.no].foldl (CS.folL i) c).folD i S)
/-- A round over a program, up to the first fault. -/
def rnd (step : CS → Int → SV → CS) : List SV → Nat → CS → CS
  | [], _, c => c
  | S :: l, i, c => if c.er = 0 then rnd step l (i + 1) (step c (i : Int) S) else c
def CS.start (P : List SV) : CS := (⟨0, 0, fun _ => none, fun _ => none⟩ : CS).tellIf (decide (1000 < P.length)) 5 0
def look1 (P : List SV) : CS := rnd CS.alone P 0 (CS.start P)
def look2 (P : List SV) : CS := rnd CS.learn P 0 (look1 P)
def lookS (P : List SV) : CS := rnd (CS.follow P) P 0 (look2 P)

theorem tell_er (c : CS) (e i : Int) (h : c.er ≠ 0) : c.tell e i = c := by
  obtain ⟨er, a, fl, ff⟩ := c
  show (⟨tE er e, tA er e a i, fl, ff⟩ : CS) = _
  rw [tE, tA, if_neg h, if_neg (fun q => h q.1)]
theorem tell_zero (c : CS) (i : Int) : c.tell 0 i = c := by
  obtain ⟨er, a, fl, ff⟩ := c
  show (⟨tE er 0, tA er 0 a i, fl, ff⟩ : CS) = _
  by_cases h : er = 0
  · rw [tE, tA, if_pos h, if_neg (fun q => q.2 rfl), h]
  · rw [tE, tA, if_neg h, if_neg (fun q => q.2 rfl)]
/-- Who tells nothing is as it was. -/
theorem tell_ok {c : CS} {e i : Int} (h : (c.tell e i).er = 0) : c.tell e i = c ∧ c.er = 0 ∧ e = 0 := by
  by_cases h0 : c.er = 0
  · have h1 : tE c.er e = 0 := h
    rw [tE, if_pos h0] at h1
    subst h1
    exact ⟨tell_zero c i, h0, rfl⟩
  · rw [tell_er c e i h0] at h
    exact absurd h h0
theorem tellIf_ok {c : CS} {b : Bool} {e i : Int} (h : (c.tellIf b e i).er = 0) (he : e ≠ 0) : c.tellIf b e i = c ∧ c.er = 0 ∧ b = false := by
  unfold CS.tellIf at h ⊢
  cases b
  · rw [if_neg (by decide)] at h ⊢
    exact ⟨rfl, h, rfl⟩
  · rw [if_pos rfl] at h ⊢
    exact absurd (tell_ok h).2.2 he
theorem labS_ok {c : CS} {i : Int} {S : SV} (h : (c.labS i S).er = 0) : c.er = 0 ∧ (c.labS i S = if S.lab.toList.isEmpty = true then c else c.withL S.lab i) := by
  unfold CS.labS at h ⊢
  split at h
  · rename_i q; rw [if_pos q, if_pos q]; exact ⟨h, rfl⟩
  · rename_i q
    have h1 := tellIf_ok (show (c.tellIf (S.labB c.fl) 7 i).er = 0 from h) (by decide)
    rw [if_neg q, if_neg q, h1.1]
    exact ⟨h1.2.1, rfl⟩
theorem defS_ok {c : CS} {i : Int} {S : SV} (h : (c.defS i S).er = 0) : c.er = 0 ∧ (c.defS i S = if S.k = 7 then c.withF S.nm i else c) := by
  unfold CS.defS at h ⊢
  split at h
  · rename_i q
    have h1 := tellIf_ok (show (c.tellIf (S.defB c.ff) 7 i).er = 0 from h) (by decide)
    rw [if_pos q, if_pos q, h1.1]
    exact ⟨h1.2.1, rfl⟩
  · rename_i q; rw [if_neg q, if_neg q]; exact ⟨h, rfl⟩
theorem foldl_ok {α : Type} {f : CS → α → CS} (hf : ∀ c x, (f c x).er = 0 → f c x = c ∧ c.er = 0) : ∀ (l : List α) (c : CS), (l.foldl f c).er = 0 → l.foldl f c = c ∧ c.er = 0 ∧ ∀ x ∈ l, f c x = c
  | [], c, h => ⟨rfl, h, fun x hx => by cases hx⟩
  | y :: l, c, h => by
    have ih := foldl_ok hf l (f c y) h
    have h1 := hf c y ih.2.1
    rw [h1.1] at ih
    refine ⟨by rw [List.foldl_cons, h1.1]; exact ih.1, h1.2, fun x hx => ?_⟩
    rcases List.mem_cons.1 hx with rfl | hx
    · exact h1.1
    · exact ih.2.2 x hx
theorem foldl_same {α : Type} {f : CS → α → CS} {c : CS} : ∀ (l : List α), (∀ x ∈ l, f c x = c) → l.foldl f c = c
  | [], _ => rfl
  | y :: l, h => by rw [List.foldl_cons, h y (List.mem_cons_self ..)]; exact foldl_same l fun x hx => h x (List.mem_cons_of_mem _ hx)
theorem follow_ok {P : List SV} {c : CS} {i : Int} {S : SV} (h : (c.follow P i S).er = 0) : c.follow P i S = c ∧ c.er = 0 ∧ (∀ t ∈ [S.al, S.ye, S.no], lbB c.fl t = false) ∧ (S.k = 7 → (c.fl S.en).isSome = true) ∧ ∀ T ∈ callsL S.exs, wCall P c.ff T = 0 := by
  unfold CS.follow at h ⊢
  have h1 := foldl_ok (f := CS.folC P i) (fun c x h => ⟨(tell_ok h).1, (tell_ok h).2.1⟩) _ _ h
  have h2 := tellIf_ok (show (CS.folD i _ S).er = 0 from h1.2.1) (by decide)
  have h3 := foldl_ok (f := CS.folL i) (fun c x h => ⟨(tellIf_ok h (by decide)).1, (tellIf_ok h (by decide)).2.1⟩) _ _ h2.2.1
  have e2 : (([S.al, S.ye, S.no].foldl (CS.folL i) c).folD i S) = c := by
    rw [CS.folD, h2.1]; exact h3.1
  rw [e2] at h1 h
  rw [h3.1] at h2
  have h0 := h3.2.1
  rw [e2]
  refine ⟨h1.1, h0, fun t ht => ?_, fun hk => ?_, fun T hT => ?_⟩
  · have q := h3.2.2 t ht
    exact (tellIf_ok (show (c.tellIf (lbB c.fl t) 6 i).er = 0 by rw [show c.tellIf (lbB c.fl t) 6 i = c from q]; exact h0) (by decide)).2.2
  · have q := h2.2.2
    rw [decide_eq_true hk, Bool.true_and] at q
    simpa using q
  · have q := h1.2.2 T hT
    exact (tell_ok (show (c.tell (wCall P c.ff T) i).er = 0 by rw [show c.tell (wCall P c.ff T) i = c from q]; exact h0)).2.2
theorem rnd_stop {step : CS → Int → SV → CS} (l : List SV) (i : Nat) (c : CS) (h : c.er ≠ 0) : rnd step l i c = c := by
  cases l with
  | nil => rfl
  | cons S l => exact if_neg h
/-- Rounds over two programs that differ where it makes no difference. -/
theorem rnd_two {step step' : CS → Int → SV → CS} {R : Nat → SV → SV → Prop} {G : CS → Prop} (hG : ∀ c i S, G c → (step c i S).er = 0 → G (step c i S))
    (hs : ∀ c (i : Nat) S S', G c → R i S S' → c.er = 0 → (step c (i : Int) S).er = 0 → step' c (i : Int) S' = step c (i : Int) S) :
    ∀ (l l' : List SV) (i : Nat) (c : CS), l.length = l'.length → (∀ j S S', l[j]? = some S → l'[j]? = some S' → R (i + j) S S') → G c → (rnd step l i c).er = 0 → rnd step' l' i c = rnd step l i c
  | [], [], i, c, _, _, _, _ => rfl
  | [], _ :: _, i, c, hl, _, _, _ => by simp at hl
  | _ :: _, [], i, c, hl, _, _, _ => by simp at hl
  | S :: l, S' :: l', i, c, hl, hR, hg, h => by
    by_cases h0 : c.er = 0
    · have e1 : rnd step (S :: l) i c = rnd step l (i + 1) (step c (i : Int) S) := if_pos h0
      have e2 : rnd step' (S' :: l') i c = rnd step' l' (i + 1) (step' c (i : Int) S') := if_pos h0
      rw [e1] at h ⊢
      rw [e2]
      by_cases h1 : (step c (i : Int) S).er = 0
      · rw [hs c i S S' hg (hR 0 S S' rfl rfl) h0 h1]
        exact rnd_two hG hs l l' (i + 1) _ (by simpa using hl) (fun j A A' hA hA' => by
          have := hR (j + 1) A A' (by simpa using hA) (by simpa using hA')
          rwa [show i + 1 + j = i + (j + 1) by omega]) (hG c i S hg h1) h
      · rw [rnd_stop _ _ _ h1] at h
        exact absurd h h1
    · rw [rnd_stop _ _ _ h0] at h
      exact absurd h h0
/-- What stays through a round stays. -/
theorem rnd_keep {step : CS → Int → SV → CS} {G : Nat → CS → Prop} : ∀ (l : List SV) (i : Nat) (c : CS), (∀ j S c, l[j]? = some S → G (i + j) c → c.er = 0 → G (i + j + 1) (step c ((i + j : Nat) : Int) S)) → (∀ j k c, j ≤ k → G j c → G k c) → G i c → G (i + l.length) (rnd step l i c)
  | [], i, c, _, _, h => h
  | S :: l, i, c, hs, hm, h => by
    by_cases h0 : c.er = 0
    · have e1 : rnd step (S :: l) i c = rnd step l (i + 1) (step c (i : Int) S) := if_pos h0
      rw [e1]
      have := rnd_keep (step := step) (G := G) l (i + 1) (step c (i : Int) S) (fun j A c hA hc he => by
        have := hs (j + 1) A c (by simpa using hA) (by rwa [show i + (j + 1) = i + 1 + j by omega]) he
        rwa [show i + (j + 1) = i + 1 + j by omega] at this) hm (hs 0 S c rfl h h0)
      rw [List.length_cons, show i + (l.length + 1) = i + 1 + l.length by omega]
      exact this
    · rw [rnd_stop _ _ _ h0]
      exact hm _ _ _ (by omega) h
/-- Labels stand at statements, functions at those that define. -/
structure Good (P : List SV) (m : Nat) (c : CS) : Prop where
  lab : ∀ t x, c.fl t = some x → ∃ n : Nat, x = (n : Int) ∧ n < m
  fun_ : ∀ t x, c.ff t = some x → ∃ (n : Nat) (S : SV), x = (n : Int) ∧ n < m ∧ P[n]? = some S ∧ S.k = 7
theorem Good.mono {P : List SV} {m m' : Nat} {c : CS} (h : Good P m c) (hm : m ≤ m') : Good P m' c :=
  ⟨fun t x q => by obtain ⟨n, e, hn⟩ := h.lab t x q; exact ⟨n, e, by omega⟩, fun t x q => by obtain ⟨n, S, e, hn, r⟩ := h.fun_ t x q; exact ⟨n, S, e, by omega, r⟩⟩
theorem Good.of {P : List SV} {m : Nat} {c c' : CS} (h : Good P m c) (h1 : c'.fl = c.fl) (h2 : c'.ff = c.ff) : Good P m c' := ⟨by rw [h1]; exact h.lab, by rw [h2]; exact h.fun_⟩
theorem tellIf_fl (c : CS) (b : Bool) (e i : Int) : (c.tellIf b e i).fl = c.fl ∧ (c.tellIf b e i).ff = c.ff := by unfold CS.tellIf; split <;> exact ⟨rfl, rfl⟩
theorem Good.learn {P : List SV} {m : Nat} {c : CS} {S : SV} (h : Good P m c) (hS : P[m]? = some S) : Good P (m + 1) (c.learn (m : Int) S) := by
  have h1 : Good P (m + 1) (c.labS (m : Int) S) := by
    unfold CS.labS
    split
    · exact h.mono (by omega)
    · refine ⟨fun t x q => ?_, fun t x q => ?_⟩
      · have q : putF _ S.lab (m : Int) t = some x := q
        unfold putF at q
        split at q
        · injection q with q; exact ⟨m, q.symm, by omega⟩
        · rw [(tellIf_fl c _ _ _).1] at q; exact (h.mono (Nat.le_succ m)).lab t x q
      · have q : (c.tellIf (S.labB c.fl) 7 (m : Int)).ff t = some x := q
        rw [(tellIf_fl c _ _ _).2] at q
        exact (h.mono (Nat.le_succ m)).fun_ t x q
  unfold CS.learn CS.defS
  split
  · rename_i hk
    refine ⟨fun t x q => ?_, fun t x q => ?_⟩
    · have q : ((c.labS (m : Int) S).tellIf (S.defB (c.labS (m : Int) S).ff) 7 (m : Int)).fl t = some x := q
      rw [(tellIf_fl _ _ _ _).1] at q
      exact h1.lab t x q
    · have q : putF _ S.nm (m : Int) t = some x := q
      unfold putF at q
      split at q
      · injection q with q; exact ⟨m, S, q.symm, by omega, hS, hk⟩
      · rw [(tellIf_fl _ _ _ _).2] at q; exact h1.fun_ t x q
  · exact h1
theorem foldl_fl {α : Type} {f : CS → α → CS} (hf : ∀ c x, (f c x).fl = c.fl ∧ (f c x).ff = c.ff) : ∀ (l : List α) (c : CS), (l.foldl f c).fl = c.fl ∧ (l.foldl f c).ff = c.ff
  | [], _ => ⟨rfl, rfl⟩
  | y :: l, c => ⟨(foldl_fl hf l (f c y)).1.trans (hf c y).1, (foldl_fl hf l (f c y)).2.trans (hf c y).2⟩
theorem follow_fl (P : List SV) (c : CS) (i : Int) (S : SV) : (c.follow P i S).fl = c.fl ∧ (c.follow P i S).ff = c.ff := by
  unfold CS.follow
  have h1 := foldl_fl (f := CS.folC P i) (fun c x => ⟨rfl, rfl⟩) (callsL S.exs) (([S.al, S.ye, S.no].foldl (CS.folL i) c).folD i S)
  have h2 := tellIf_fl ([S.al, S.ye, S.no].foldl (CS.folL i) c) (decide (S.k = 7) && !(([S.al, S.ye, S.no].foldl (CS.folL i) c).fl S.en).isSome) 6 i
  have h3 := foldl_fl (f := CS.folL i) (fun c x => tellIf_fl c _ _ _) [S.al, S.ye, S.no] c
  exact ⟨h1.1.trans (h2.1.trans h3.1), h1.2.trans (h2.2.trans h3.2)⟩
theorem good_look2 (P : List SV) : Good P P.length (look2 P) := by
  have h1 : Good P 0 (look1 P) := by
    have h := rnd_keep (step := CS.alone) (G := fun _ c => c.fl = (fun _ => none) ∧ c.ff = (fun _ => none)) P 0 (CS.start P) (fun j S c _ h _ => h) (fun _ _ _ _ h => h) (by unfold CS.start CS.tellIf; split <;> exact ⟨rfl, rfl⟩)
    exact ⟨fun t x q => (by rw [show (look1 P).fl = _ from h.1] at q; cases q), fun t x q => (by rw [show (look1 P).ff = _ from h.2] at q; cases q)⟩
  have h2 := rnd_keep (step := CS.learn) (G := fun m c => Good P m c) P 0 (look1 P) (fun j S c hS h _ => by
    rw [Nat.zero_add] at h ⊢
    exact h.learn hS) (fun _ _ _ hm h => h.mono hm) h1
  rwa [Nat.zero_add] at h2
theorem good_lookS (P : List SV) : Good P P.length (lookS P) := by
  have h := rnd_keep (step := CS.follow P) (G := fun _ c => Good P P.length c) P 0 (look2 P) (fun j S c _ h _ => h.of (follow_fl P c _ S).1 (follow_fl P c _ S).2) (fun _ _ _ _ h => h) (good_look2 P)
  exact h
/-- Empty, but for its label. -/
def zNL : NL := ⟨none, 0, 0, 0, []⟩
def SV.emp (S : SV) : SV := ⟨S.lab, 1, PT.nul, PT.nul, PT.nul, ByteArray.empty, ByteArray.empty, zNL, zNL, ByteArray.empty, ByteArray.empty, ByteArray.empty⟩
/-- One stands for another where it makes no difference. -/
def Swap (_i : Nat) (S S' : SV) : Prop := S' = S ∨ (S' = S.emp ∧ S.k ≠ 7)
theorem noE : ByteArray.empty.toList.isEmpty = true := by rw [ByteArray.toList_eq]; rfl
theorem okE : okL ByteArray.empty = true := by unfold okL; rw [noE]; rfl
theorem emp_wrong {S : SV} (h : S.wrong = 0) : S.emp.wrong = 0 := by
  unfold SV.wrong at h ⊢
  split at h
  · rename_i q
    have q1 : okL S.lab = true := by
      have := List.all_eq_true.1 q S.lab (by simp [SV.lbl])
      exact this
    have e : S.emp.lbl.all okL = true := by
      show (okL S.lab && (okL ByteArray.empty && (okL ByteArray.empty && (okL ByteArray.empty && true)))) = true
      rw [q1, okE]; rfl
    rw [if_pos e, if_neg (fun r => by have r1 : ByteArray.empty.toList.isEmpty = false := r.1; rw [noE] at r1; cases r1)]
    rfl
  · cases h
theorem look_swap {P P' : List SV} (hl : P.length = P'.length) (hP : ∀ j S S', P[j]? = some S → P'[j]? = some S' → Swap j S S') (h : (lookS P).er = 0) : lookS P' = lookS P := by
  have hP0 : ∀ j S S', P[j]? = some S → P'[j]? = some S' → Swap (0 + j) S S' := fun j S S' a b => by rw [Nat.zero_add]; exact hP j S S' a b
  have keep : ∀ {step : CS → Int → SV → CS} {c : CS}, (rnd step P 0 c).er = 0 → c.er = 0 := fun {step c} q => by
    by_cases h0 : c.er = 0
    · exact h0
    · rw [rnd_stop _ _ _ h0] at q; exact q
  have h2 : (look2 P).er = 0 := keep h
  have h1 : (look1 P).er = 0 := keep h2
  have e0 : CS.start P' = CS.start P := by unfold CS.start; rw [hl]
  have e1 : look1 P' = look1 P := by
    unfold look1
    rw [e0]
    refine rnd_two (R := Swap) (G := fun _ => True) (fun _ _ _ _ _ => trivial) (fun c i S S' _ hR h0 hw => ?_) P P' 0 _ hl hP0 trivial h1
    rcases hR with rfl | ⟨rfl, -⟩
    · rfl
    · have q := tell_ok (show (c.tell S.wrong i).er = 0 from hw)
      show c.tell S.emp.wrong i = c.tell S.wrong i
      rw [q.2.2, emp_wrong q.2.2]
  have e2 : look2 P' = look2 P := by
    unfold look2
    rw [e1]
    refine rnd_two (R := Swap) (G := fun _ => True) (fun _ _ _ _ _ => trivial) (fun c i S S' _ hR h0 hw => ?_) P P' 0 _ hl hP0 trivial h2
    rcases hR with rfl | ⟨rfl, hk⟩
    · rfl
    · show (c.labS i S.emp).defS i S.emp = (c.labS i S).defS i S
      unfold CS.defS
      rw [if_neg hk, if_neg (show ¬ S.emp.k = 7 by show ¬ (1 : Int) = 7; decide)]
      rfl
  unfold lookS
  rw [e2]
  refine rnd_two (R := Swap) (G := fun c => c.fl = (look2 P).fl ∧ c.ff = (look2 P).ff) (fun c i S hc hq => ?_) (fun c i S S' hc hR h0 hw => ?_) P P' 0 _ hl hP0 ⟨rfl, rfl⟩ h
  · rw [(follow_fl P c i S).1, (follow_fl P c i S).2]; exact hc
  · have q := follow_ok hw
    rw [q.1]
    rcases hR with rfl | ⟨rfl, hk⟩
    · have eC : ∀ T ∈ callsL S'.exs, wCall P' c.ff T = 0 := fun T hT => by
        have := q.2.2.2.2 T hT
        rw [← this]
        unfold wCall
        split
        · rfl
        · cases hf : c.ff T.nm with
          | none => rfl
          | some x =>
            have hx : (look2 P).ff T.nm = some x := by rw [← hc.2]; exact hf
            obtain ⟨n, A, rfl, hn, hA, hA7⟩ := (good_look2 P).fun_ _ _ hx
            have hA' : P'[n]? = some A := by
              obtain ⟨A', hA'⟩ : ∃ A', P'[n]? = some A' := ⟨P'[n]'(by omega), List.getElem?_eq_getElem _⟩
              rcases hP n A A' hA hA' with rfl | ⟨-, hk⟩
              · exact hA'
              · exact absurd hA7 hk
            have : parN P' (n : Int) = parN P (n : Int) := by unfold parN; rw [Int.toNat_natCast, hA, hA']
            simp only [this]
      unfold CS.follow
      have s1 : [S'.al, S'.ye, S'.no].foldl (CS.folL i) c = c := foldl_same _ fun t ht => by unfold CS.folL CS.tellIf; rw [q.2.2.1 t ht]; rfl
      have s2 : c.folD i S' = c := by
        unfold CS.folD CS.tellIf
        rw [if_neg]
        intro r
        rw [Bool.and_eq_true] at r
        rw [q.2.2.2.1 (of_decide_eq_true r.1)] at r
        cases r.2
      rw [s1, s2]
      exact foldl_same _ fun T hT => by unfold CS.folC; rw [eC T hT]; exact tell_zero c _
    · unfold CS.follow
      have s1 : [S.emp.al, S.emp.ye, S.emp.no].foldl (CS.folL i) c = c := foldl_same _ fun t ht => by
        have : t = ByteArray.empty := by
          rcases List.mem_cons.1 ht with rfl | ht
          · rfl
          · rcases List.mem_cons.1 ht with rfl | ht
            · rfl
            · rcases List.mem_cons.1 ht with rfl | ht
              · rfl
              · cases ht
        rw [this]
        unfold CS.folL lbB CS.tellIf
        rw [noE]
        rfl
      have s2 : c.folD i S.emp = c := by
        unfold CS.folD CS.tellIf
        rw [show decide (S.emp.k = 7) = false from decide_eq_false (show ¬ (1 : Int) = 7 by decide)]
        rfl
      have s3 : S.emp.exs = [] := by
        unfold SV.exs
        rw [if_neg (show ¬ (S.emp.k = 2 ∨ S.emp.k = 4) from (by decide : ¬ ((1 : Int) = 2 ∨ (1 : Int) = 4))), if_neg (show ¬ (S.emp.k = 3 ∨ S.emp.k = 5) from (by decide : ¬ ((1 : Int) = 3 ∨ (1 : Int) = 5)))]
      rw [s1, s2, s3]
      rfl

/-- Where a label leads from a statement. -/
def leadN (fl : ByteArray → Option Int) (i : Nat) (t : ByteArray) : List Nat := if t.toList.isEmpty = true then [i + 1] else if lout t = true then [] else [((fl t).getD 0).toNat]
/-- Where a function begins. -/
def entN (P : List SV) (c : CS) (T : PT) : List Nat := match c.ff T.nm with
  | none => []
  | some x => match P[x.toNat]? with | some D => [((c.fl D.en).getD 0).toNat] | none => []
def canF (k : Int) : Bool := !decide (k = 1) && !decide (k = 6) && !decide (k = 7)
def SV.goN (S : SV) (fl : ByteArray → Option Int) (i : Nat) : List Nat := if S.al.toList.isEmpty = false then leadN fl i S.al else leadN fl i S.ye ++ (if canF S.k = true then leadN fl i S.no else [])
def SV.nxt (S : SV) (P : List SV) (c : CS) (i : Nat) : List Nat := S.goN c.fl i ++ (callsL S.exs).flatMap (entN P c)
/-- What is come to, and from where it is still to go on. -/
def comeN (q : List Bool × List Nat) (x : Nat) : List Bool × List Nat := if q.1[x]? = some false then (q.1.set x true, q.2 ++ [x]) else q
def nxtAt (P : List SV) (c : CS) (i : Nat) : List Nat := match P[i]? with | some S => S.nxt P c i | none => []
def walkN (nx : Nat → List Nat) : Nat → List Bool × List Nat → List Bool
  | 0, q => q.1
  | f + 1, q => match q.2.getLast? with
    | none => q.1
    | some i => walkN nx f ((nx i).foldl comeN (q.1, q.2.dropLast))
def fals (l : List Bool) : Nat := (l.filter (!·)).length
def reachS (P : List SV) (c : CS) : List Bool := walkN (nxtAt P c) (2 * P.length + 1) (comeN (List.replicate P.length false, []) 0)
theorem fals_set {l : List Bool} {x : Nat} (h : l[x]? = some false) : fals (l.set x true) + 1 = fals l := by
  induction l generalizing x with
  | nil => simp at h
  | cons b l ih =>
    cases x with
    | zero =>
      have : b = false := by simpa using h
      subst this
      simp [fals]
    | succ x =>
      have := ih (x := x) (by simpa using h)
      unfold fals at this ⊢
      rw [List.set_cons_succ, List.filter_cons, List.filter_cons]
      cases b <;> simp <;> omega
theorem come_fals (q : List Bool × List Nat) (x : Nat) : 2 * fals (comeN q x).1 + (comeN q x).2.length ≤ 2 * fals q.1 + q.2.length := by
  unfold comeN
  split
  · rename_i h
    have := fals_set h
    simp only [List.length_append, List.length_cons, List.length_nil]
    omega
  · exact Nat.le_refl _
theorem comes_fals : ∀ (l : List Nat) (q : List Bool × List Nat), 2 * fals (l.foldl comeN q).1 + (l.foldl comeN q).2.length ≤ 2 * fals q.1 + q.2.length
  | [], _ => Nat.le_refl _
  | x :: l, q => Nat.le_trans (comes_fals l (comeN q x)) (come_fals q x)
/-- Once come to, always come to; the length stays; what is open is come to. -/
structure Mo (q q' : List Bool × List Nat) : Prop where
  len : q'.1.length = q.1.length
  up : ∀ i : Nat, q.1[i]? = some true → q'.1[i]? = some true
theorem Mo.refl (q : List Bool × List Nat) : Mo q q := ⟨rfl, fun _ h => h⟩
theorem Mo.trans {a b c : List Bool × List Nat} (h : Mo a b) (k : Mo b c) : Mo a c := ⟨k.len.trans h.len, fun i q => k.up i (h.up i q)⟩
theorem Mo.come (q : List Bool × List Nat) (x : Nat) : Mo q (comeN q x) := by
  unfold comeN
  split
  · refine ⟨by simp, fun i hi => ?_⟩
    show (q.1.set x true)[i]? = some true
    rw [List.getElem?_set]
    split
    · rename_i e
      subst e
      split
      · rfl
      · rename_i hx; rw [List.getElem?_eq_none (by omega)] at hi; cases hi
    · exact hi
  · exact Mo.refl q
theorem Mo.comes : ∀ (l : List Nat) (q : List Bool × List Nat), Mo q (l.foldl comeN q)
  | [], q => Mo.refl q
  | x :: l, q => (Mo.come q x).trans (Mo.comes l _)
def OpenIn (q : List Bool × List Nat) : Prop := ∀ i ∈ q.2, q.1[i]? = some true
theorem OpenIn.come {q : List Bool × List Nat} (h : OpenIn q) (x : Nat) : OpenIn (comeN q x) := by
  intro i hi
  have hm := Mo.come q x
  by_cases hx : q.1[x]? = some false
  · have e : comeN q x = (q.1.set x true, q.2 ++ [x]) := if_pos hx
    rw [e] at hi
    rcases List.mem_append.1 hi with hi | hi
    · exact hm.up i (h i hi)
    · have : i = x := by simpa using hi
      subst this
      rw [e]
      show (q.1.set i true)[i]? = some true
      rw [List.getElem?_set, if_pos rfl, if_pos (List.getElem?_eq_some_iff.1 hx).1]
  · have e : comeN q x = q := if_neg hx
    rw [e] at hi ⊢
    exact h i hi
theorem OpenIn.comes : ∀ (l : List Nat) {q : List Bool × List Nat}, OpenIn q → OpenIn (l.foldl comeN q)
  | [], _, h => h
  | x :: l, _, h => OpenIn.comes l (h.come x)
theorem OpenIn.drop {q : List Bool × List Nat} (h : OpenIn q) : OpenIn (q.1, q.2.dropLast) := fun i hi => h i (List.dropLast_subset _ hi)
theorem walk_up (nx : Nat → List Nat) : ∀ (f : Nat) (q : List Bool × List Nat), (walkN nx f q).length = q.1.length ∧ ∀ i : Nat, q.1[i]? = some true → (walkN nx f q)[i]? = some true
  | 0, q => ⟨rfl, fun _ h => h⟩
  | f + 1, q => by
    unfold walkN
    cases q.2.getLast? with
    | none => exact ⟨rfl, fun _ h => h⟩
    | some i =>
      have h1 := walk_up nx f ((nx i).foldl comeN (q.1, q.2.dropLast))
      have h2 := Mo.comes (nx i) (q.1, q.2.dropLast)
      exact ⟨h1.1.trans h2.len, fun j hj => h1.2 j (h2.up j hj)⟩
/-- Who leads from what is come to as another one comes to the same. -/
theorem walk_same {nx nx' : Nat → List Nat} : ∀ (f : Nat) (q : List Bool × List Nat), OpenIn q → (∀ i : Nat, (walkN nx f q)[i]? = some true → nx' i = nx i) → walkN nx' f q = walkN nx f q
  | 0, q, _, _ => rfl
  | f + 1, q, ho, h => by
    unfold walkN at h ⊢
    cases hq : q.2.getLast? with
    | none => rfl
    | some i =>
      rw [hq] at h
      simp only at h ⊢
      have hi : q.1[i]? = some true := ho i (List.mem_of_getLast? hq)
      have h2 := Mo.comes (nx i) (q.1, q.2.dropLast)
      have h1 := (walk_up nx f ((nx i).foldl comeN (q.1, q.2.dropLast))).2 i (h2.up i hi)
      rw [h i h1]
      exact walk_same f _ (ho.drop.comes (nx i)) h
theorem reach_len (P : List SV) (c : CS) : (reachS P c).length = P.length := by
  unfold reachS
  rw [(walk_up _ _ _).1, (Mo.come _ 0).len]
  simp
theorem reach_zero {P : List SV} {c : CS} (h : 0 < P.length) : (reachS P c)[0]? = some true := by
  unfold reachS
  apply (walk_up _ _ _).2
  unfold comeN
  have e : (List.replicate P.length false)[0]? = some false := by rw [List.getElem?_replicate, if_pos h]
  rw [if_pos e]
  show ((List.replicate P.length false).set 0 true)[0]? = some true
  rw [List.getElem?_set, if_pos rfl, if_pos (by simpa using h)]
/-- What is not come to makes no difference. -/
theorem reach_swap {P P' : List SV} (hl : P.length = P'.length) (hP : ∀ j S S', P[j]? = some S → P'[j]? = some S' → Swap j S S') (h : (lookS P).er = 0) (hr : ∀ (j : Nat) S S', P[j]? = some S → P'[j]? = some S' → (reachS P (lookS P))[j]? = some true → S' = S) : reachS P' (lookS P') = reachS P (lookS P) := by
  rw [look_swap hl hP h]
  have hr' := hr
  unfold reachS at hr ⊢
  rw [← hl]
  refine walk_same _ _ (OpenIn.come (fun i hi => by cases hi) 0) fun i hi => ?_
  unfold nxtAt
  have hg := good_lookS P
  cases hS : P[i]? with
  | none => rw [List.getElem?_eq_none (by have := List.getElem?_eq_none_iff.1 hS; omega)]
  | some S =>
    obtain ⟨S', hS'⟩ : ∃ S', P'[i]? = some S' := ⟨P'[i]'(by have := (List.getElem?_eq_some_iff.1 hS).1; omega), List.getElem?_eq_getElem _⟩
    rw [hS']
    have e := hr i S S' hS hS' hi
    subst e
    show _ ++ (callsL S'.exs).flatMap (entN P' _) = _ ++ (callsL S'.exs).flatMap (entN P _)
    congr 1
    refine congrArg (fun f => (callsL S'.exs).flatMap f) (funext fun T => ?_)
    unfold entN
    cases hf : (lookS P).ff T.nm with
    | none => rfl
    | some x =>
      obtain ⟨n, A, rfl, hn, hA, hA7⟩ := hg.fun_ _ _ hf
      have hA' : P'[n]? = some A := by
        obtain ⟨A', hA'⟩ : ∃ A', P'[n]? = some A' := ⟨P'[n]'(by omega), List.getElem?_eq_getElem _⟩
        rcases hP n A A' hA hA' with rfl | ⟨-, hk⟩
        · exact hA'
        · exact absurd hA7 hk
      simp only [Int.toNat_natCast, hA, hA']
end Go.Proofs.YtpclpjcemeckgaaDoor
