/- The checker: a statement's expressions; each call among expressions. The checker, plain: what is wrong with a program, what is come to; what is not come to makes no difference. -/
import Derived.Test.YtpkmamgleofimaaGreatDoorStBM
import Derived.Test.YtpkmamgleofimaaGreatDoorStCP
import Derived.Test.YtpkmamgleofimaaGreatDoorCkBM
namespace Go.Proofs.YtpkmamgleofimaaGreatDoor
open Go.RowKit

def KE (w w' : World) : Prop := ∀ (k : Nat) (r : Array Value), w.heap[k]? = some (Obj.cells r 42 (0, 0)) → w'.heap[k]? = some (Obj.cells r 42 (0, 0))
def isCal (T : PT) : Bool := decide (T.k = 6)
def cllsTo (T : PT) (k : Nat) : List PT := (flatTo (fun i => (T.kid i).all) k).filter isCal
def PT.clls (T : PT) : List PT := cllsTo T T.len
theorem clls_step (T : PT) (k : Nat) : cllsTo T (k + 1) = cllsTo T k ++ ((if isCal (T.kid k) = true then [T.kid k] else []) ++ (T.kid k).clls) := by
  unfold PT.clls cllsTo
  rw [flatTo, List.filter_append]
  congr 1
  rw [PT.all_eq, List.filter_cons]
  split <;> rfl
theorem clls_yes {σ : Type} {f : σ → PT → σ} {T : PT} {k : Nat} (h : (T.kid k).k = 6) (s : σ) : (cllsTo T (k + 1)).foldl f s = (T.kid k).clls.foldl f (f ((cllsTo T k).foldl f s) (T.kid k)) := by
  rw [clls_step, if_pos (show isCal (T.kid k) = true from decide_eq_true h), List.foldl_append, List.foldl_append]; rfl
theorem clls_no {σ : Type} {f : σ → PT → σ} {T : PT} {k : Nat} (h : (T.kid k).k ≠ 6) (s : σ) : (cllsTo T (k + 1)).foldl f s = (T.kid k).clls.foldl f ((cllsTo T k).foldl f s) := by
  rw [clls_step, if_neg (by unfold isCal; rw [decide_eq_false h]; decide), List.foldl_append, List.nil_append]
def EachSaysF {σ : Type} (I : σ → World → Prop) (f : σ → PT → σ) (p q : Value) (T : PT) : Prop := ∀ s w, (∀ s w, I s w → T.In w) → I s w →
    Calls Tryz.prog 46 #[.slice T.xa T.len T.cap, .func (.func 48) #[] #[p, q]] w fun e w' => e = .returned (.tuple #[]) ∧ I (T.clls.foldl f s) w'
set_option maxRecDepth 100000 in
set_option maxHeartbeats 1000000 in
theorem each_stepF {σ : Type} (I : σ → World → Prop) (f : σ → PT → σ) (p q : Value) (hal : ∀ s w o, I s w → I s (World.alloc w o))
    (hdo : ∀ s w T, I s w → T.In w → T.k = 6 → Calls Tryz.prog 48 #[pv T, p, q] w fun e w' => e = .returned (.tuple #[]) ∧ I (f s T) w' ∧ KE w w') (T : PT) (ih : ∀ i, i < T.len → EachSaysF I f p q (T.kid i)) : EachSaysF I f p q T := by
  intro s w hin hI
  have hT := hin s w hI
  have hmax := hT.max
  unfold maxLen at hmax
  have HD := hide (And.intro hT (And.intro hin ih))
  have HDO := hide hdo
  have HAL := hide hal
  have HI0 := hide hI
  have HF : Hid (T.clls.foldl f s = (cllsTo T T.len).foldl f s) := hide (rfl)
  generalize T.clls.foldl f s = R at *
  clear hT hin ih hdo hal hI
  go_enter Tryz.func46, Tryz.ntmps46
  go_wp2_with fail
  go_loopw [8] (fun i wr => ∃ k : Nat, k ≤ T.len ∧ i = .int .i64 (k : Int) ∧ Hid (I ((cllsTo T k).foldl f s) wr)) (fun i _ => T.len - (intOf i).toNat)
  case atStart => exact ⟨0, by omega, rfl, unhide HI0⟩
  case round =>
    obtain ⟨k, hk, rfl, HI⟩ := hrel
    rcases Nat.lt_or_ge k T.len with hkt | hkt
    · obtain ⟨-, hin, ih⟩ := unhide HD
      have hT := hin _ _ (unhide HI)
      obtain ⟨k0, k1, k2, k3, k4⟩ := hT.cells hkt
      unfold PT.kv at k4
      have hia := kidx_at hT hkt
      have HIH := hide (fun s w => ih k hkt s w (fun s w q => (hin s w q).kids hkt))
      have HX := hide (fun s w (q : I s w) => (hin s w q).kids hkt)
      have hn := unhide HAL _ _ (.cells #[.int .i64 (T.kid k).k, .string (T.kid k).t, .int .i64 (T.kid k).n, .string (T.kid k).nm, .slice (T.kid k).xa (T.kid k).len (T.kid k).cap] 42) (unhide HI)
      have HN := hide hn
      have HS1 := hide (fun h => clls_yes (f := f) (T := T) (k := k) h s)
      have HS0 := hide (fun h => clls_no (f := f) (T := T) (k := k) h s)
      generalize (cllsTo T k).foldl f s = s1 at *
      clear hT hin ih hn
      by_cases h6 : (T.kid k).k = 6
      · have HD6 := hide (unhide HDO s1 _ (T.kid k) (unhide HN) (unhide HX _ _ (unhide HN)) h6)
        have q6 : ((T.kid k).k == 6) = true := bt h6
        have HE := hide (unhide HS1 h6)
        unfold pv at HD6
        clear h6 HS1 HS0
        go_wp2_with fail
        refine (unhide HD6).mono ?_
        rintro e w2 ⟨rfl, hI2, hK2⟩
        have c4 : w2.cell? ⟨wr.heap.size, 4, none⟩ = some (.slice (T.kid k).xa (T.kid k).len (T.kid k).cap) := cr (hK2 _ _ (at_new rfl))
        have HI2 := hide hI2
        clear hI2 hK2 k0 k1 k2 k3 k4
        go_wp2_with fail
        refine (unhide HIH _ _ (unhide HI2)).mono ?_
        rintro e w3 ⟨rfl, hI3⟩
        have HI3 := hide hI3
        clear hI3
        go_wp2_with fail
        exact ⟨⟨k + 1, by omega, by go_num, by rw [unhide HE]; exact unhide HI3⟩, by simp [intOf]; omega⟩
      · have q6 : ((T.kid k).k == 6) = false := bn h6
        have HE := hide (unhide HS0 h6)
        clear h6 HS1 HS0
        go_wp2_with fail
        refine (unhide HIH s1 _ (unhide HN)).mono ?_
        rintro e w2 ⟨rfl, hI2⟩
        have HI2 := hide hI2
        clear hI2
        go_wp2_with fail
        exact ⟨⟨k + 1, by omega, by go_num, by rw [unhide HE]; exact unhide HI2⟩, by simp [intOf]; omega⟩
    · obtain rfl : k = T.len := by omega
      go_wp2_with fail
      go_end0
      exact ⟨rfl, by rw [unhide HF]; exact unhide HI⟩
theorem each_anyF {σ : Type} (I : σ → World → Prop) (f : σ → PT → σ) (p q : Value) (hal : ∀ s w o, I s w → I s (World.alloc w o))
    (hdo : ∀ s w T, I s w → T.In w → T.k = 6 → Calls Tryz.prog 48 #[pv T, p, q] w fun e w' => e = .returned (.tuple #[]) ∧ I (f s T) w' ∧ KE w w') : ∀ T : PT, EachSaysF I f p q T := PT.ind (each_stepF I f p q hal hdo)
def SV.exs (S : SV) : List PT := if S.k = 2 ∨ S.k = 4 then [S.va] else if S.k = 3 ∨ S.k = 5 then [S.tg, S.va] else []
def callsL (l : List PT) : List PT := (l.flatMap PT.all).filter isCal
def lsT0 : PT := .node 0 ByteArray.empty 0 ByteArray.empty none 0 0 0 0 fun i => i.elim0
def lsT1 (g : Nat) (a : PT) : PT := .node 0 ByteArray.empty 0 ByteArray.empty (some ⟨g, 0, none⟩) g 0 1 1 fun _ => a
def lsT2 (g : Nat) (a b : PT) : PT := .node 0 ByteArray.empty 0 ByteArray.empty (some ⟨g, 0, none⟩) g 0 2 2 fun i => if i.val = 0 then a else b
theorem lsT1_clls (g : Nat) (a : PT) : (lsT1 g a).clls = callsL [a] := by
  show (([] ++ a.all).filter isCal) = (([a].flatMap PT.all).filter isCal)
  rw [List.nil_append, List.flatMap_cons, List.flatMap_nil, List.append_nil]
theorem lsT2_clls (g : Nat) (a b : PT) : (lsT2 g a b).clls = callsL [a, b] := by
  show ((([] ++ a.all) ++ b.all).filter isCal) = (([a, b].flatMap PT.all).filter isCal)
  rw [List.nil_append, List.flatMap_cons, List.flatMap_cons, List.flatMap_nil, List.append_nil]
theorem lsT0_in (w : World) : lsT0.In w := ⟨by decide, by decide, by decide, by decide, by decide, by decide, fun h => absurd h (by decide), fun i => i.elim0⟩
theorem lsT1_in {w : World} {g : Nat} {a : PT} {e : TypeId} {m : Nat × Nat} (hr : w.heap[g]? = some (.cells #[.int .i64 a.k, .string a.t, .int .i64 a.n, .string a.nm, .slice a.xa a.len a.cap] e m)) (ha : a.In w) : (lsT1 g a).In w :=
  ⟨by decide, by decide, by decide, by decide, by decide, by decide, fun _ => rfl, fun i => by
    obtain ⟨i, hi⟩ := i
    obtain rfl : i = 0 := by omega
    exact ⟨⟨(cell_of_row _ _ _ _ _ _ hr).trans rfl, (cell_of_row _ _ _ _ _ _ hr).trans rfl, (cell_of_row _ _ _ _ _ _ hr).trans rfl, (cell_of_row _ _ _ _ _ _ hr).trans rfl, (cell_of_row _ _ _ _ _ _ hr).trans rfl⟩, ha⟩⟩
theorem lsT2_in {w : World} {g : Nat} {a b : PT} {e : TypeId} {m : Nat × Nat} (hr : w.heap[g]? = some (.cells #[.int .i64 a.k, .string a.t, .int .i64 a.n, .string a.nm, .slice a.xa a.len a.cap, .int .i64 b.k, .string b.t, .int .i64 b.n, .string b.nm, .slice b.xa b.len b.cap] e m)) (ha : a.In w) (hb : b.In w) : (lsT2 g a b).In w :=
  ⟨by decide, by decide, by decide, by decide, by decide, by decide, fun _ => rfl, fun i => by
    obtain ⟨i, hi⟩ := i
    have : i = 0 ∨ i = 1 := by omega
    rcases this with rfl | rfl
    · exact ⟨⟨(cell_of_row _ _ _ _ _ _ hr).trans rfl, (cell_of_row _ _ _ _ _ _ hr).trans rfl, (cell_of_row _ _ _ _ _ _ hr).trans rfl, (cell_of_row _ _ _ _ _ _ hr).trans rfl, (cell_of_row _ _ _ _ _ _ hr).trans rfl⟩, ha⟩
    · exact ⟨⟨(cell_of_row _ _ _ _ _ _ hr).trans rfl, (cell_of_row _ _ _ _ _ _ hr).trans rfl, (cell_of_row _ _ _ _ _ _ hr).trans rfl, (cell_of_row _ _ _ _ _ _ hr).trans rfl, (cell_of_row _ _ _ _ _ _ hr).trans rfl⟩, hb⟩⟩
def ExPost (S : SV) (w : World) (e : Ending) (w' : World) : Prop := ∃ T : PT, e = .returned (.slice T.xa T.len T.cap) ∧ T.clls = callsL S.exs ∧ Below w.heap.size w w' ∧ ∀ W, KE w' W → S.In W → T.In W
set_option maxRecDepth 100000 in
set_option maxHeartbeats 4000000 in
theorem exprs_any (S : SV) (w : World) : Calls Tryz.prog 47 #[S.v] w (ExPost S w) := by
  have HE : Hid (S.exs = if S.k = 2 ∨ S.k = 4 then [S.va] else if S.k = 3 ∨ S.k = 5 then [S.tg, S.va] else []) := hide (rfl)
  unfold SV.v SV.cells NL.v
  obtain ⟨w1, hw1⟩ : ∃ w1, w1 = w.alloc (.cells #[.string S.lab, .int .i64 S.k, .int .i64 S.tg.k, .string S.tg.t, .int .i64 S.tg.n, .string S.tg.nm, .slice S.tg.xa S.tg.len S.tg.cap, .int .i64 S.va.k, .string S.va.t, .int .i64 S.va.n, .string S.va.nm, .slice S.va.xa S.va.len S.va.cap, .int .i64 S.pa.k, .string S.pa.t, .int .i64 S.pa.n, .string S.pa.nm, .slice S.pa.xa S.pa.len S.pa.cap, .string S.nm, .string S.en, .slice S.ps.xa S.ps.l.length S.ps.cap, .slice S.ls.xa S.ls.l.length S.ls.cap, .string S.al, .string S.ye, .string S.no] 47) := ⟨_, rfl⟩
  have hb1 : Below w.heap.size w w1 := by rw [hw1]; exact ba _
  have HRW := hide hw1
  have HB1 := hide hb1
  have HZ1 : Hid (w.heap.size + 1 = w1.heap.size) := hide (by rw [hw1, World.size_alloc])
  clear hw1 hb1
  by_cases h2 : S.k = 2
  · have HX : Hid (S.exs = [S.va]) := hide (by rw [unhide HE, if_pos (.inl h2)])
    have q2 : (S.k == 2) = true := bt h2
    clear h2 HE
    go_enter Tryz.func47, Tryz.ntmps47
    go_wp2_with fail
    go_ret
    rw [show w.alloc (.cells #[.string S.lab, .int .i64 S.k, .int .i64 S.tg.k, .string S.tg.t, .int .i64 S.tg.n, .string S.tg.nm, .slice S.tg.xa S.tg.len S.tg.cap, .int .i64 S.va.k, .string S.va.t, .int .i64 S.va.n, .string S.va.nm, .slice S.va.xa S.va.len S.va.cap, .int .i64 S.pa.k, .string S.pa.t, .int .i64 S.pa.n, .string S.pa.nm, .slice S.pa.xa S.pa.len S.pa.cap, .string S.nm, .string S.en, .slice S.ps.xa S.ps.l.length S.ps.cap, .slice S.ls.xa S.ls.l.length S.ls.cap, .string S.al, .string S.ye, .string S.no] 47) = w1 from (unhide HRW).symm]
    exact ⟨lsT1 (w.heap.size + 1) S.va, rfl, by rw [unhide HX]; exact lsT1_clls _ _, bnext (unhide HB1) (ba _), fun W hK hI => lsT1_in (hK _ _ (at_new (unhide HZ1))) hI.va⟩
  · have q2 : (S.k == 2) = false := bn h2
    by_cases h4 : S.k = 4
    · have HX : Hid (S.exs = [S.va]) := hide (by rw [unhide HE, if_pos (.inr h4)])
      have q4 : (S.k == 4) = true := bt h4
      clear h2 h4 HE
      go_enter Tryz.func47, Tryz.ntmps47
      go_wp2_with fail
      go_ret
      rw [show w.alloc (.cells #[.string S.lab, .int .i64 S.k, .int .i64 S.tg.k, .string S.tg.t, .int .i64 S.tg.n, .string S.tg.nm, .slice S.tg.xa S.tg.len S.tg.cap, .int .i64 S.va.k, .string S.va.t, .int .i64 S.va.n, .string S.va.nm, .slice S.va.xa S.va.len S.va.cap, .int .i64 S.pa.k, .string S.pa.t, .int .i64 S.pa.n, .string S.pa.nm, .slice S.pa.xa S.pa.len S.pa.cap, .string S.nm, .string S.en, .slice S.ps.xa S.ps.l.length S.ps.cap, .slice S.ls.xa S.ls.l.length S.ls.cap, .string S.al, .string S.ye, .string S.no] 47) = w1 from (unhide HRW).symm]
      exact ⟨lsT1 (w.heap.size + 1) S.va, rfl, by rw [unhide HX]; exact lsT1_clls _ _, bnext (unhide HB1) (ba _), fun W hK hI => lsT1_in (hK _ _ (at_new (unhide HZ1))) hI.va⟩
    · have q4 : (S.k == 4) = false := bn h4
      by_cases h3 : S.k = 3
      · have HX : Hid (S.exs = [S.tg, S.va]) := hide (by rw [unhide HE, if_neg (by simp [h2, h4]), if_pos (.inl h3)])
        have q3 : (S.k == 3) = true := bt h3
        clear h2 h3 h4 HE
        go_enter Tryz.func47, Tryz.ntmps47
        go_wp2_with fail
        go_ret
        rw [show w.alloc (.cells #[.string S.lab, .int .i64 S.k, .int .i64 S.tg.k, .string S.tg.t, .int .i64 S.tg.n, .string S.tg.nm, .slice S.tg.xa S.tg.len S.tg.cap, .int .i64 S.va.k, .string S.va.t, .int .i64 S.va.n, .string S.va.nm, .slice S.va.xa S.va.len S.va.cap, .int .i64 S.pa.k, .string S.pa.t, .int .i64 S.pa.n, .string S.pa.nm, .slice S.pa.xa S.pa.len S.pa.cap, .string S.nm, .string S.en, .slice S.ps.xa S.ps.l.length S.ps.cap, .slice S.ls.xa S.ls.l.length S.ls.cap, .string S.al, .string S.ye, .string S.no] 47) = w1 from (unhide HRW).symm]
        exact ⟨lsT2 (w.heap.size + 1) S.tg S.va, rfl, by rw [unhide HX]; exact lsT2_clls _ _ _, bnext (unhide HB1) (ba _), fun W hK hI => lsT2_in (hK _ _ (at_new (unhide HZ1))) hI.tg hI.va⟩
      · have q3 : (S.k == 3) = false := bn h3
        by_cases h5 : S.k = 5
        · have HX : Hid (S.exs = [S.tg, S.va]) := hide (by rw [unhide HE, if_neg (by simp [h2, h4]), if_pos (.inr h5)])
          have q5 : (S.k == 5) = true := bt h5
          clear h2 h3 h4 h5 HE
          go_enter Tryz.func47, Tryz.ntmps47
          go_wp2_with fail
          go_ret
          rw [show w.alloc (.cells #[.string S.lab, .int .i64 S.k, .int .i64 S.tg.k, .string S.tg.t, .int .i64 S.tg.n, .string S.tg.nm, .slice S.tg.xa S.tg.len S.tg.cap, .int .i64 S.va.k, .string S.va.t, .int .i64 S.va.n, .string S.va.nm, .slice S.va.xa S.va.len S.va.cap, .int .i64 S.pa.k, .string S.pa.t, .int .i64 S.pa.n, .string S.pa.nm, .slice S.pa.xa S.pa.len S.pa.cap, .string S.nm, .string S.en, .slice S.ps.xa S.ps.l.length S.ps.cap, .slice S.ls.xa S.ls.l.length S.ls.cap, .string S.al, .string S.ye, .string S.no] 47) = w1 from (unhide HRW).symm]
          exact ⟨lsT2 (w.heap.size + 1) S.tg S.va, rfl, by rw [unhide HX]; exact lsT2_clls _ _ _, bnext (unhide HB1) (ba _), fun W hK hI => lsT2_in (hK _ _ (at_new (unhide HZ1))) hI.tg hI.va⟩
        · have HX : Hid (S.exs = []) := hide (by rw [unhide HE, if_neg (by simp [h2, h4]), if_neg (by simp [h3, h5])])
          have q5 : (S.k == 5) = false := bn h5
          clear h2 h3 h4 h5 HE
          go_enter Tryz.func47, Tryz.ntmps47
          go_wp2_with fail
          go_ret
          rw [show w.alloc (.cells #[.string S.lab, .int .i64 S.k, .int .i64 S.tg.k, .string S.tg.t, .int .i64 S.tg.n, .string S.tg.nm, .slice S.tg.xa S.tg.len S.tg.cap, .int .i64 S.va.k, .string S.va.t, .int .i64 S.va.n, .string S.va.nm, .slice S.va.xa S.va.len S.va.cap, .int .i64 S.pa.k, .string S.pa.t, .int .i64 S.pa.n, .string S.pa.nm, .slice S.pa.xa S.pa.len S.pa.cap, .string S.nm, .string S.en, .slice S.ps.xa S.ps.l.length S.ps.cap, .slice S.ls.xa S.ls.l.length S.ls.cap, .string S.al, .string S.ye, .string S.no] 47) = w1 from (unhide HRW).symm]
          exact ⟨lsT0, rfl, by rw [unhide HX]; rfl, unhide HB1, fun W _ _ => lsT0_in W⟩
end Go.Proofs.YtpkmamgleofimaaGreatDoor

namespace Go.Proofs.YtpkmamgleofimaaGreatDoor
open Go.RowKit

structure CS where
  er : Int
  at_ : Int
  fl : ByteArray → Option Int
  ff : ByteArray → Option Int
def CS.tell (c : CS) (e i : Int) : CS := ⟨tE c.er e, tA c.er e c.at_ i, c.fl, c.ff⟩
def CS.alone (c : CS) (i : Int) (S : SV) : CS := c.tell S.wrong i
def SV.labB (S : SV) (fl : ByteArray → Option Int) : Bool := lout S.lab || (fl S.lab).isSome
def putF (f : ByteArray → Option Int) (s : ByteArray) (x : Int) : ByteArray → Option Int := fun t => if t = s then some x else f t
def CS.tellIf (c : CS) (b : Bool) (e i : Int) : CS := if b = true then c.tell e i else c
def CS.withL (c : CS) (s : ByteArray) (i : Int) : CS := ⟨c.er, c.at_, putF c.fl s i, c.ff⟩
def CS.withF (c : CS) (s : ByteArray) (i : Int) : CS := ⟨c.er, c.at_, c.fl, putF c.ff s i⟩
def CS.labS (c : CS) (i : Int) (S : SV) : CS := if S.lab.toList.isEmpty = true then c else (c.tellIf (S.labB c.fl) 7 i).withL S.lab i
def SV.defB (S : SV) (ff : ByteArray → Option Int) : Bool := !decide (blt S.nm = -1) || (ff S.nm).isSome || S.clE
def CS.defS (c : CS) (i : Int) (S : SV) : CS := if S.k = 7 then (c.tellIf (S.defB c.ff) 7 i).withF S.nm i else c
def CS.learn (c : CS) (i : Int) (S : SV) : CS := (c.labS i S).defS i S
def lbB (fl : ByteArray → Option Int) (t : ByteArray) : Bool := !t.toList.isEmpty && !lout t && !(fl t).isSome
def parN (P : List SV) (x : Int) : Nat := match P[x.toNat]? with | some S => S.ps.l.length | none => 0
def wCall (P : List SV) (ff : ByteArray → Option Int) (T : PT) : Int :=
  if blt T.nm ≠ -1 then (if (T.len : Int) = blt T.nm then 0 else 5)
  else match ff T.nm with
    | none => 7
    | some x => if parN P x < T.len then 5 else 0
def CS.folC (P : List SV) (i : Int) (c : CS) (T : PT) : CS := c.tell (wCall P c.ff T) i
def CS.folL (i : Int) (c : CS) (t : ByteArray) : CS := c.tellIf (lbB c.fl t) 6 i
def CS.folD (i : Int) (c : CS) (S : SV) : CS := c.tellIf (decide (S.k = 7) && !(c.fl S.en).isSome) 6 i
def CS.follow (P : List SV) (c : CS) (i : Int) (S : SV) : CS := (callsL S.exs).foldl (CS.folC P i) (([S.al, S.ye, S.no].foldl (CS.folL i) c).folD i S)
def rnd (step : CS → Int → SV → CS) : List SV → Nat → CS → CS
  | [], _, c => c
  | S :: l, i, c => if c.er = 0 then rnd step l (i + 1) (step c (i : Int) S) else c
def CS.start (P : List SV) : CS := (⟨0, 0, fun _ => none, fun _ => none⟩ : CS).tellIf (decide (1000 < P.length)) 5 0
def look1 (P : List SV) : CS := rnd CS.alone P 0 (CS.start P)
def look2 (P : List SV) : CS := rnd CS.learn P 0 (look1 P)
def lookS (P : List SV) : CS := rnd (CS.follow P) P 0 (look2 P)
theorem tell_er (c : CS) (e i : Int) (h : c.er ≠ 0) : c.tell e i = c := by
  obtain ⟨er, a, fl, ff⟩ := c
  show (⟨tE er e, tA er e a i, fl, ff⟩ : CS) = _
  rw [tE, tA, if_neg h, if_neg (fun q => h q.1)]
theorem tell_zero (c : CS) (i : Int) : c.tell 0 i = c := by
  obtain ⟨er, a, fl, ff⟩ := c
  show (⟨tE er 0, tA er 0 a i, fl, ff⟩ : CS) = _
  by_cases h : er = 0
  · rw [tE, tA, if_pos h, if_neg (fun q => q.2 rfl), h]
  · rw [tE, tA, if_neg h, if_neg (fun q => q.2 rfl)]
theorem tell_ok {c : CS} {e i : Int} (h : (c.tell e i).er = 0) : c.tell e i = c ∧ c.er = 0 ∧ e = 0 := by
  by_cases h0 : c.er = 0
  · have h1 : tE c.er e = 0 := h
    rw [tE, if_pos h0] at h1
    subst h1
    exact ⟨tell_zero c i, h0, rfl⟩
  · rw [tell_er c e i h0] at h
    exact absurd h h0
theorem tellIf_ok {c : CS} {b : Bool} {e i : Int} (h : (c.tellIf b e i).er = 0) (he : e ≠ 0) : c.tellIf b e i = c ∧ c.er = 0 ∧ b = false := by
  unfold CS.tellIf at h ⊢
  cases b
  · rw [if_neg (by decide)] at h ⊢
    exact ⟨rfl, h, rfl⟩
  · rw [if_pos rfl] at h ⊢
    exact absurd (tell_ok h).2.2 he
theorem rnd_stop {step : CS → Int → SV → CS} (l : List SV) (i : Nat) (c : CS) (h : c.er ≠ 0) : rnd step l i c = c := by
  cases l with
  | nil => rfl
  | cons S l => exact if_neg h
theorem rnd_keep {step : CS → Int → SV → CS} {G : Nat → CS → Prop} : ∀ (l : List SV) (i : Nat) (c : CS), (∀ j S c, l[j]? = some S → G (i + j) c → c.er = 0 → G (i + j + 1) (step c ((i + j : Nat) : Int) S)) → (∀ j k c, j ≤ k → G j c → G k c) → G i c → G (i + l.length) (rnd step l i c)
  | [], i, c, _, _, h => h
  | S :: l, i, c, hs, hm, h => by
    by_cases h0 : c.er = 0
    · have e1 : rnd step (S :: l) i c = rnd step l (i + 1) (step c (i : Int) S) := if_pos h0
      rw [e1]
      have := rnd_keep (step := step) (G := G) l (i + 1) (step c (i : Int) S) (fun j A c hA hc he => by
        have := hs (j + 1) A c (by simpa using hA) (by rwa [show i + (j + 1) = i + 1 + j by omega]) he
        rwa [show i + (j + 1) = i + 1 + j by omega] at this) hm (hs 0 S c rfl h h0)
      rw [List.length_cons, show i + (l.length + 1) = i + 1 + l.length by omega]
      exact this
    · rw [rnd_stop _ _ _ h0]
      exact hm _ _ _ (by omega) h
structure Good (P : List SV) (m : Nat) (c : CS) : Prop where
  lab : ∀ t x, c.fl t = some x → ∃ n : Nat, x = (n : Int) ∧ n < m
  fun_ : ∀ t x, c.ff t = some x → ∃ (n : Nat) (S : SV), x = (n : Int) ∧ n < m ∧ P[n]? = some S ∧ S.k = 7
theorem Good.mono {P : List SV} {m m' : Nat} {c : CS} (h : Good P m c) (hm : m ≤ m') : Good P m' c :=
  ⟨fun t x q => by obtain ⟨n, e, hn⟩ := h.lab t x q; exact ⟨n, e, by omega⟩, fun t x q => by obtain ⟨n, S, e, hn, r⟩ := h.fun_ t x q; exact ⟨n, S, e, by omega, r⟩⟩
theorem Good.of {P : List SV} {m : Nat} {c c' : CS} (h : Good P m c) (h1 : c'.fl = c.fl) (h2 : c'.ff = c.ff) : Good P m c' := ⟨by rw [h1]; exact h.lab, by rw [h2]; exact h.fun_⟩
theorem tellIf_fl (c : CS) (b : Bool) (e i : Int) : (c.tellIf b e i).fl = c.fl ∧ (c.tellIf b e i).ff = c.ff := by unfold CS.tellIf; split <;> exact ⟨rfl, rfl⟩
theorem Good.learn {P : List SV} {m : Nat} {c : CS} {S : SV} (h : Good P m c) (hS : P[m]? = some S) : Good P (m + 1) (c.learn (m : Int) S) := by
  have h1 : Good P (m + 1) (c.labS (m : Int) S) := by
    unfold CS.labS
    split
    · exact h.mono (by omega)
    · refine ⟨fun t x q => ?_, fun t x q => ?_⟩
      · have q : putF _ S.lab (m : Int) t = some x := q
        unfold putF at q
        split at q
        · injection q with q; exact ⟨m, q.symm, by omega⟩
        · rw [(tellIf_fl c _ _ _).1] at q; exact (h.mono (Nat.le_succ m)).lab t x q
      · have q : (c.tellIf (S.labB c.fl) 7 (m : Int)).ff t = some x := q
        rw [(tellIf_fl c _ _ _).2] at q
        exact (h.mono (Nat.le_succ m)).fun_ t x q
  unfold CS.learn CS.defS
  split
  · rename_i hk
    refine ⟨fun t x q => ?_, fun t x q => ?_⟩
    · have q : ((c.labS (m : Int) S).tellIf (S.defB (c.labS (m : Int) S).ff) 7 (m : Int)).fl t = some x := q
      rw [(tellIf_fl _ _ _ _).1] at q
      exact h1.lab t x q
    · have q : putF _ S.nm (m : Int) t = some x := q
      unfold putF at q
      split at q
      · injection q with q; exact ⟨m, S, q.symm, by omega, hS, hk⟩
      · rw [(tellIf_fl _ _ _ _).2] at q; exact h1.fun_ t x q
  · exact h1
theorem foldl_fl {α : Type} {f : CS → α → CS} (hf : ∀ c x, (f c x).fl = c.fl ∧ (f c x).ff = c.ff) : ∀ (l : List α) (c : CS), (l.foldl f c).fl = c.fl ∧ (l.foldl f c).ff = c.ff
  | [], _ => ⟨rfl, rfl⟩
  | y :: l, c => ⟨(foldl_fl hf l (f c y)).1.trans (hf c y).1, (foldl_fl hf l (f c y)).2.trans (hf c y).2⟩
theorem follow_fl (P : List SV) (c : CS) (i : Int) (S : SV) : (c.follow P i S).fl = c.fl ∧ (c.follow P i S).ff = c.ff := by
  unfold CS.follow
  have h1 := foldl_fl (f := CS.folC P i) (fun c x => ⟨rfl, rfl⟩) (callsL S.exs) (([S.al, S.ye, S.no].foldl (CS.folL i) c).folD i S)
  have h2 := tellIf_fl ([S.al, S.ye, S.no].foldl (CS.folL i) c) (decide (S.k = 7) && !(([S.al, S.ye, S.no].foldl (CS.folL i) c).fl S.en).isSome) 6 i
  have h3 := foldl_fl (f := CS.folL i) (fun c x => tellIf_fl c _ _ _) [S.al, S.ye, S.no] c
  exact ⟨h1.1.trans (h2.1.trans h3.1), h1.2.trans (h2.2.trans h3.2)⟩
theorem good_look2 (P : List SV) : Good P P.length (look2 P) := by
  have h1 : Good P 0 (look1 P) := by
    have h := rnd_keep (step := CS.alone) (G := fun _ c => c.fl = (fun _ => none) ∧ c.ff = (fun _ => none)) P 0 (CS.start P) (fun j S c _ h _ => h) (fun _ _ _ _ h => h) (by unfold CS.start CS.tellIf; split <;> exact ⟨rfl, rfl⟩)
    exact ⟨fun t x q => (by rw [show (look1 P).fl = _ from h.1] at q; cases q), fun t x q => (by rw [show (look1 P).ff = _ from h.2] at q; cases q)⟩
  have h2 := rnd_keep (step := CS.learn) (G := fun m c => Good P m c) P 0 (look1 P) (fun j S c hS h _ => by
    rw [Nat.zero_add] at h ⊢
    exact h.learn hS) (fun _ _ _ hm h => h.mono hm) h1
  rwa [Nat.zero_add] at h2
end Go.Proofs.YtpkmamgleofimaaGreatDoor
