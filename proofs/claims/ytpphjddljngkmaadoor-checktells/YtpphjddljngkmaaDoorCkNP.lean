/- The checker: a statement's expressions; each call among expressions. -/
import Derived.Test.YtpphjddljngkmaaDoorStBM
namespace Go.Proofs.YtpphjddljngkmaaDoor
open Go.RowKit

/-- Blocks of expressions are as they were. -/
def KE (w w' : World) : Prop := ∀ (k : Nat) (r : Array Value), w.heap[k]? = some (Obj.cells r 43 (0, 0)) → w'.heap[k]? = some (Obj.cells r 43 (0, 0))
def isCal (T : PT) : Bool := decide (T.k = 6)
/-- The calls below a node. -/
def cllsTo (T : PT) (k : Nat) : List PT := (flatTo (fun i => (T.kid i).all) k).filter isCal
def PT.clls (T : PT) : List PT := cllsTo T T.len
theorem clls_step (T : PT) (k : Nat) : cllsTo T (k + 1) = cllsTo T k ++ ((if isCal (T.kid k) = true then [T.kid k] else []) ++ (T.kid k).clls) := by
  unfold PT.clls cllsTo
  rw [flatTo, List.filter_append]
  congr 1
  rw [PT.all_eq, List.filter_cons]
  split <;> rfl
theorem clls_yes {σ : Type} {f : σ → PT → σ} {T : PT} {k : Nat} (h : (T.kid k).k = 6) (s : σ) : (cllsTo T (k + 1)).foldl f s = (T.kid k).clls.foldl f (f ((cllsTo T k).foldl f s) (T.kid k)) := by
  rw [clls_step, if_pos (show isCal (T.kid k) = true from decide_eq_true h), List.foldl_append, List.foldl_append]; rfl
theorem clls_no {σ : Type} {f : σ → PT → σ} {T : PT} {k : Nat} (h : (T.kid k).k ≠ 6) (s : σ) : (cllsTo T (k + 1)).foldl f s = (T.kid k).clls.foldl f ((cllsTo T k).foldl f s) := by
  rw [clls_step, if_neg (by unfold isCal; rw [decide_eq_false h]; decide), List.foldl_append, List.nil_append]
def EachSaysF {σ : Type} (I : σ → World → Prop) (f : σ → PT → σ) (p q : Value) (T : PT) : Prop := ∀ s w, (∀ s w, I s w → T.In w) → I s w →
    Calls Tryd.prog 37 #[.slice T.xa T.len T.cap, .func (.func 39) #[] #[p, q]] w fun e w' => e = .returned (.tuple #[]) ∧ I (T.clls.foldl f s) w'
set_option maxRecDepth 100000 in
set_option maxHeartbeats 1000000 in
theorem each_stepF {σ : Type} (I : σ → World → Prop) (f : σ → PT → σ) (p q : Value) (hal : ∀ s w o, I s w → I s (World.alloc w o))
    (hdo : ∀ s w T, I s w → T.In w → T.k = 6 → Calls Tryd.prog 39 #[pv T, p, q] w fun e w' => e = .returned (.tuple #[]) ∧ I (f s T) w' ∧ KE w w') (T : PT) (ih : ∀ i, i < T.len → EachSaysF I f p q (T.kid i)) : EachSaysF I f p q T := by
  intro s w hin hI
  have hT := hin s w hI
  have hmax := hT.max
  unfold maxLen at hmax
  have HD := hide (And.intro hT (And.intro hin ih))
  have HDO := hide hdo
  have HAL := hide hal
  have HI0 := hide hI
  have HF : Hid (T.clls.foldl f s = (cllsTo T T.len).foldl f s) := hide (rfl)
  generalize T.clls.foldl f s = R at *
  clear hT hin ih hdo hal hI
  go_enter Tryd.func37, Tryd.ntmps37
  go_wp2_with fail
  go_loopw [8] (fun i wr => ∃ k : Nat, k ≤ T.len ∧ i = .int .i64 (k : Int) ∧ Hid (I ((cllsTo T k).foldl f s) wr)) (fun i _ => T.len - (intOf i).toNat)
  case atStart => exact ⟨0, by omega, rfl, unhide HI0⟩
  case round =>
    obtain ⟨k, hk, rfl, HI⟩ := hrel
    rcases Nat.lt_or_ge k T.len with hkt | hkt
    · obtain ⟨-, hin, ih⟩ := unhide HD
      have hT := hin _ _ (unhide HI)
      obtain ⟨k0, k1, k2, k3, k4⟩ := hT.cells hkt
      unfold PT.kv at k4
      have hia := kidx_at hT hkt
      have HIH := hide (fun s w => ih k hkt s w (fun s w q => (hin s w q).kids hkt))
      have HX := hide (fun s w (q : I s w) => (hin s w q).kids hkt)
      have hn := unhide HAL _ _ (.cells #[.int .i64 (T.kid k).k, .string (T.kid k).t, .int .i64 (T.kid k).n, .string (T.kid k).nm, .slice (T.kid k).xa (T.kid k).len (T.kid k).cap] 43) (unhide HI)
      have HN := hide hn
      have HS1 := hide (fun h => clls_yes (f := f) (T := T) (k := k) h s)
      have HS0 := hide (fun h => clls_no (f := f) (T := T) (k := k) h s)
      generalize (cllsTo T k).foldl f s = s1 at *
      clear hT hin ih hn
      by_cases h6 : (T.kid k).k = 6
      · have HD6 := hide (unhide HDO s1 _ (T.kid k) (unhide HN) (unhide HX _ _ (unhide HN)) h6)
        have q6 : ((T.kid k).k == 6) = true := bt h6
        have HE := hide (unhide HS1 h6)
        unfold pv at HD6
        clear h6 HS1 HS0
        go_wp2_with fail
        refine (unhide HD6).mono ?_
        rintro e w2 ⟨rfl, hI2, hK2⟩
        have c4 : w2.cell? ⟨wr.heap.size, 4, none⟩ = some (.slice (T.kid k).xa (T.kid k).len (T.kid k).cap) := cr (hK2 _ _ (at_new rfl))
        have HI2 := hide hI2
        clear hI2 hK2 k0 k1 k2 k3 k4
        go_wp2_with fail
        refine (unhide HIH _ _ (unhide HI2)).mono ?_
        rintro e w3 ⟨rfl, hI3⟩
        have HI3 := hide hI3
        clear hI3
        go_wp2_with fail
        exact ⟨⟨k + 1, by omega, by go_num, by rw [unhide HE]; exact unhide HI3⟩, by simp [intOf]; omega⟩
      · have q6 : ((T.kid k).k == 6) = false := bn h6
        have HE := hide (unhide HS0 h6)
        clear h6 HS1 HS0
        go_wp2_with fail
        refine (unhide HIH s1 _ (unhide HN)).mono ?_
        rintro e w2 ⟨rfl, hI2⟩
        have HI2 := hide hI2
        clear hI2
        go_wp2_with fail
        exact ⟨⟨k + 1, by omega, by go_num, by rw [unhide HE]; exact unhide HI2⟩, by simp [intOf]; omega⟩
    · obtain rfl : k = T.len := by omega
      go_wp2_with fail
      go_end0
      exact ⟨rfl, by rw [unhide HF]; exact unhide HI⟩
theorem each_anyF {σ : Type} (I : σ → World → Prop) (f : σ → PT → σ) (p q : Value) (hal : ∀ s w o, I s w → I s (World.alloc w o))
    (hdo : ∀ s w T, I s w → T.In w → T.k = 6 → Calls Tryd.prog 39 #[pv T, p, q] w fun e w' => e = .returned (.tuple #[]) ∧ I (f s T) w' ∧ KE w w') : ∀ T : PT, EachSaysF I f p q T := PT.ind (each_stepF I f p q hal hdo)
def EachSaysE {σ : Type} (I : σ → World → Prop) (f : σ → PT → σ) (p : Value) (T : PT) : Prop := ∀ s w, (∀ s w, I s w → T.In w) → I s w →
    Calls Tryd.prog 37 #[.slice T.xa T.len T.cap, .func (.func 48) #[p] #[]] w fun e w' => e = .returned (.tuple #[]) ∧ I (T.clls.foldl f s) w'
set_option maxRecDepth 100000 in
set_option maxHeartbeats 1000000 in
theorem each_stepE {σ : Type} (I : σ → World → Prop) (f : σ → PT → σ) (p : Value) (hal : ∀ s w o, I s w → I s (World.alloc w o))
    (hdo : ∀ s w T, I s w → T.In w → T.k = 6 → Calls Tryd.prog 48 #[p, pv T] w fun e w' => e = .returned (.tuple #[]) ∧ I (f s T) w' ∧ KE w w') (T : PT) (ih : ∀ i, i < T.len → EachSaysE I f p (T.kid i)) : EachSaysE I f p T := by
  intro s w hin hI
  have hT := hin s w hI
  have hmax := hT.max
  unfold maxLen at hmax
  have HD := hide (And.intro hT (And.intro hin ih))
  have HDO := hide hdo
  have HAL := hide hal
  have HI0 := hide hI
  have HF : Hid (T.clls.foldl f s = (cllsTo T T.len).foldl f s) := hide (rfl)
  generalize T.clls.foldl f s = R at *
  clear hT hin ih hdo hal hI
  go_enter Tryd.func37, Tryd.ntmps37
  go_wp2_with fail
  go_loopw [8] (fun i wr => ∃ k : Nat, k ≤ T.len ∧ i = .int .i64 (k : Int) ∧ Hid (I ((cllsTo T k).foldl f s) wr)) (fun i _ => T.len - (intOf i).toNat)
  case atStart => exact ⟨0, by omega, rfl, unhide HI0⟩
  case round =>
    obtain ⟨k, hk, rfl, HI⟩ := hrel
    rcases Nat.lt_or_ge k T.len with hkt | hkt
    · obtain ⟨-, hin, ih⟩ := unhide HD
      have hT := hin _ _ (unhide HI)
      obtain ⟨k0, k1, k2, k3, k4⟩ := hT.cells hkt
      unfold PT.kv at k4
      have hia := kidx_at hT hkt
      have HIH := hide (fun s w => ih k hkt s w (fun s w q => (hin s w q).kids hkt))
      have HX := hide (fun s w (q : I s w) => (hin s w q).kids hkt)
      have hn := unhide HAL _ _ (.cells #[.int .i64 (T.kid k).k, .string (T.kid k).t, .int .i64 (T.kid k).n, .string (T.kid k).nm, .slice (T.kid k).xa (T.kid k).len (T.kid k).cap] 43) (unhide HI)
      have HN := hide hn
      have HS1 := hide (fun h => clls_yes (f := f) (T := T) (k := k) h s)
      have HS0 := hide (fun h => clls_no (f := f) (T := T) (k := k) h s)
      generalize (cllsTo T k).foldl f s = s1 at *
      clear hT hin ih hn
      by_cases h6 : (T.kid k).k = 6
      · have HD6 := hide (unhide HDO s1 _ (T.kid k) (unhide HN) (unhide HX _ _ (unhide HN)) h6)
        have q6 : ((T.kid k).k == 6) = true := bt h6
        have HE := hide (unhide HS1 h6)
        unfold pv at HD6
        clear h6 HS1 HS0
        go_wp2_with fail
        refine (unhide HD6).mono ?_
        rintro e w2 ⟨rfl, hI2, hK2⟩
        have c4 : w2.cell? ⟨wr.heap.size, 4, none⟩ = some (.slice (T.kid k).xa (T.kid k).len (T.kid k).cap) := cr (hK2 _ _ (at_new rfl))
        have HI2 := hide hI2
        clear hI2 hK2 k0 k1 k2 k3 k4
        go_wp2_with fail
        refine (unhide HIH _ _ (unhide HI2)).mono ?_
        rintro e w3 ⟨rfl, hI3⟩
        have HI3 := hide hI3
        clear hI3
        go_wp2_with fail
        exact ⟨⟨k + 1, by omega, by go_num, by rw [unhide HE]; exact unhide HI3⟩, by simp [intOf]; omega⟩
      · have q6 : ((T.kid k).k == 6) = false := bn h6
        have HE := hide (unhide HS0 h6)
        clear h6 HS1 HS0
        go_wp2_with fail
        refine (unhide HIH s1 _ (unhide HN)).mono ?_
        rintro e w2 ⟨rfl, hI2⟩
        have HI2 := hide hI2
        clear hI2
        go_wp2_with fail
        exact ⟨⟨k + 1, by omega, by go_num, by rw [unhide HE]; exact unhide HI2⟩, by simp [intOf]; omega⟩
    · obtain rfl : k = T.len := by omega
      go_wp2_with fail
      go_end0
      exact ⟨rfl, by rw [unhide HF]; exact unhide HI⟩
theorem each_anyE {σ : Type} (I : σ → World → Prop) (f : σ → PT → σ) (p : Value) (hal : ∀ s w o, I s w → I s (World.alloc w o))
    (hdo : ∀ s w T, I s w → T.In w → T.k = 6 → Calls Tryd.prog 48 #[p, pv T] w fun e w' => e = .returned (.tuple #[]) ∧ I (f s T) w' ∧ KE w w') : ∀ T : PT, EachSaysE I f p T := PT.ind (each_stepE I f p hal hdo)
def SV.exs (S : SV) : List PT := if S.k = 2 ∨ S.k = 4 then [S.va] else if S.k = 3 ∨ S.k = 5 then [S.tg, S.va] else []
def callsL (l : List PT) : List PT := (l.flatMap PT.all).filter isCal
/-- Some expressions, as the kids of a node. -/
def lsT0 : PT := .node 0 ByteArray.empty 0 ByteArray.empty none 0 0 0 0 fun i => i.elim0
def lsT1 (g : Nat) (a : PT) : PT := .node 0 ByteArray.empty 0 ByteArray.empty (some ⟨g, 0, none⟩) g 0 1 1 fun _ => a
def lsT2 (g : Nat) (a b : PT) : PT := .node 0 ByteArray.empty 0 ByteArray.empty (some ⟨g, 0, none⟩) g 0 2 2 fun i => if i.val = 0 then a else b
theorem lsT1_clls (g : Nat) (a : PT) : (lsT1 g a).clls = callsL [a] := by
  show (([] ++ a.all).filter isCal) = (([a].flatMap PT.all).filter isCal)
  rw [List.nil_append, List.flatMap_cons, List.flatMap_nil, List.append_nil]
theorem lsT2_clls (g : Nat) (a b : PT) : (lsT2 g a b).clls = callsL [a, b] := by
  show ((([] ++ a.all) ++ b.all).filter isCal) = (([a, b].flatMap PT.all).filter isCal)
  rw [List.nil_append, List.flatMap_cons, List.flatMap_cons, List.flatMap_nil, List.append_nil]
theorem lsT0_in (w : World) : lsT0.In w := ⟨by decide, by decide, by decide, by decide, by decide, by decide, fun h => absurd h (by decide), fun i => i.elim0⟩
theorem lsT1_in {w : World} {g : Nat} {a : PT} {e : TypeId} {m : Nat × Nat} (hr : w.heap[g]? = some (.cells #[.int .i64 a.k, .string a.t, .int .i64 a.n, .string a.nm, .slice a.xa a.len a.cap] e m)) (ha : a.In w) : (lsT1 g a).In w :=
  ⟨by decide, by decide, by decide, by decide, by decide, by decide, fun _ => rfl, fun i => by
    obtain ⟨i, hi⟩ := i
    obtain rfl : i = 0 := by omega
    exact ⟨⟨(cell_of_row _ _ _ _ _ _ hr).trans rfl, (cell_of_row _ _ _ _ _ _ hr).trans rfl, (cell_of_row _ _ _ _ _ _ hr).trans rfl, (cell_of_row _ _ _ _ _ _ hr).trans rfl, (cell_of_row _ _ _ _ _ _ hr).trans rfl⟩, ha⟩⟩
theorem lsT2_in {w : World} {g : Nat} {a b : PT} {e : TypeId} {m : Nat × Nat} (hr : w.heap[g]? = some (.cells #[.int .i64 a.k, .string a.t, .int .i64 a.n, .string a.nm, .slice a.xa a.len a.cap, .int .i64 b.k, .string b.t, .int .i64 b.n, .string b.nm, .slice b.xa b.len b.cap] e m)) (ha : a.In w) (hb : b.In w) : (lsT2 g a b).In w :=
  ⟨by decide, by decide, by decide, by decide, by decide, by decide, fun _ => rfl, fun i => by
    obtain ⟨i, hi⟩ := i
    have : i = 0 ∨ i = 1 := by omega
    rcases this with rfl | rfl
    · exact ⟨⟨(cell_of_row _ _ _ _ _ _ hr).trans rfl, (cell_of_row _ _ _ _ _ _ hr).trans rfl, (cell_of_row _ _ _ _ _ _ hr).trans rfl, (cell_of_row _ _ _ _ _ _ hr).trans rfl, (cell_of_row _ _ _ _ _ _ hr).trans rfl⟩, ha⟩
    · exact ⟨⟨(cell_of_row _ _ _ _ _ _ hr).trans rfl, (cell_of_row _ _ _ _ _ _ hr).trans rfl, (cell_of_row _ _ _ _ _ _ hr).trans rfl, (cell_of_row _ _ _ _ _ _ hr).trans rfl, (cell_of_row _ _ _ _ _ _ hr).trans rfl⟩, hb⟩⟩
def ExPost (S : SV) (w : World) (e : Ending) (w' : World) : Prop := ∃ T : PT, e = .returned (.slice T.xa T.len T.cap) ∧ T.clls = callsL S.exs ∧ Below w.heap.size w w' ∧ ∀ W, KE w' W → S.In W → T.In W
set_option maxRecDepth 100000 in
set_option maxHeartbeats 4000000 in
theorem exprs_any (S : SV) (w : World) : Calls Tryd.prog 38 #[S.v] w (ExPost S w) := by
  have HE : Hid (S.exs = if S.k = 2 ∨ S.k = 4 then [S.va] else if S.k = 3 ∨ S.k = 5 then [S.tg, S.va] else []) := hide (rfl)
  unfold SV.v SV.cells NL.v
  obtain ⟨w1, hw1⟩ : ∃ w1, w1 = w.alloc (.cells #[.string S.lab, .int .i64 S.k, .int .i64 S.tg.k, .string S.tg.t, .int .i64 S.tg.n, .string S.tg.nm, .slice S.tg.xa S.tg.len S.tg.cap, .int .i64 S.va.k, .string S.va.t, .int .i64 S.va.n, .string S.va.nm, .slice S.va.xa S.va.len S.va.cap, .int .i64 S.pa.k, .string S.pa.t, .int .i64 S.pa.n, .string S.pa.nm, .slice S.pa.xa S.pa.len S.pa.cap, .string S.nm, .string S.en, .slice S.ps.xa S.ps.l.length S.ps.cap, .slice S.ls.xa S.ls.l.length S.ls.cap, .string S.al, .string S.ye, .string S.no] 49) := ⟨_, rfl⟩
  have hb1 : Below w.heap.size w w1 := by rw [hw1]; exact ba _
  have HRW := hide hw1
  have HB1 := hide hb1
  have HZ1 : Hid (w.heap.size + 1 = w1.heap.size) := hide (by rw [hw1, World.size_alloc])
  clear hw1 hb1
  by_cases h2 : S.k = 2
  · have HX : Hid (S.exs = [S.va]) := hide (by rw [unhide HE, if_pos (.inl h2)])
    have q2 : (S.k == 2) = true := bt h2
    clear h2 HE
    go_enter Tryd.func38, Tryd.ntmps38
    go_wp2_with fail
    go_ret
    rw [show w.alloc (.cells #[.string S.lab, .int .i64 S.k, .int .i64 S.tg.k, .string S.tg.t, .int .i64 S.tg.n, .string S.tg.nm, .slice S.tg.xa S.tg.len S.tg.cap, .int .i64 S.va.k, .string S.va.t, .int .i64 S.va.n, .string S.va.nm, .slice S.va.xa S.va.len S.va.cap, .int .i64 S.pa.k, .string S.pa.t, .int .i64 S.pa.n, .string S.pa.nm, .slice S.pa.xa S.pa.len S.pa.cap, .string S.nm, .string S.en, .slice S.ps.xa S.ps.l.length S.ps.cap, .slice S.ls.xa S.ls.l.length S.ls.cap, .string S.al, .string S.ye, .string S.no] 49) = w1 from (unhide HRW).symm]
    exact ⟨lsT1 (w.heap.size + 1) S.va, rfl, by rw [unhide HX]; exact lsT1_clls _ _, bnext (unhide HB1) (ba _), fun W hK hI => lsT1_in (hK _ _ (at_new (unhide HZ1))) hI.va⟩
  · have q2 : (S.k == 2) = false := bn h2
    by_cases h4 : S.k = 4
    · have HX : Hid (S.exs = [S.va]) := hide (by rw [unhide HE, if_pos (.inr h4)])
      have q4 : (S.k == 4) = true := bt h4
      clear h2 h4 HE
      go_enter Tryd.func38, Tryd.ntmps38
      go_wp2_with fail
      go_ret
      rw [show w.alloc (.cells #[.string S.lab, .int .i64 S.k, .int .i64 S.tg.k, .string S.tg.t, .int .i64 S.tg.n, .string S.tg.nm, .slice S.tg.xa S.tg.len S.tg.cap, .int .i64 S.va.k, .string S.va.t, .int .i64 S.va.n, .string S.va.nm, .slice S.va.xa S.va.len S.va.cap, .int .i64 S.pa.k, .string S.pa.t, .int .i64 S.pa.n, .string S.pa.nm, .slice S.pa.xa S.pa.len S.pa.cap, .string S.nm, .string S.en, .slice S.ps.xa S.ps.l.length S.ps.cap, .slice S.ls.xa S.ls.l.length S.ls.cap, .string S.al, .string S.ye, .string S.no] 49) = w1 from (unhide HRW).symm]
      exact ⟨lsT1 (w.heap.size + 1) S.va, rfl, by rw [unhide HX]; exact lsT1_clls _ _, bnext (unhide HB1) (ba _), fun W hK hI => lsT1_in (hK _ _ (at_new (unhide HZ1))) hI.va⟩
    · have q4 : (S.k == 4) = false := bn h4
      by_cases h3 : S.k = 3
      · have HX : Hid (S.exs = [S.tg, S.va]) := hide (by rw [unhide HE, if_neg (by simp [h2, h4]), if_pos (.inl h3)])
        have q3 : (S.k == 3) = true := bt h3
        clear h2 h3 h4 HE
        go_enter Tryd.func38, Tryd.ntmps38
        go_wp2_with fail
        go_ret
        rw [show w.alloc (.cells #[.string S.lab, .int .i64 S.k, .int .i64 S.tg.k, .string S.tg.t, .int .i64 S.tg.n, .string S.tg.nm, .slice S.tg.xa S.tg.len S.tg.cap, .int .i64 S.va.k, .string S.va.t, .int .i64 S.va.n, .string S.va.nm, .slice S.va.xa S.va.len S.va.cap, .int .i64 S.pa.k, .string S.pa.t, .int .i64 S.pa.n, .string S.pa.nm, .slice S.pa.xa S.pa.len S.pa.cap, .string S.nm, .string S.en, .slice S.ps.xa S.ps.l.length S.ps.cap, .slice S.ls.xa S.ls.l.length S.ls.cap, .string S.al, .string S.ye, .string S.no] 49) = w1 from (unhide HRW).symm]
        exact ⟨lsT2 (w.heap.size + 1) S.tg S.va, rfl, by rw [unhide HX]; exact lsT2_clls _ _ _, bnext (unhide HB1) (ba _), fun W hK hI => lsT2_in (hK _ _ (at_new (unhide HZ1))) hI.tg hI.va⟩
      · have q3 : (S.k == 3) = false := bn h3
        by_cases h5 : S.k = 5
        · have HX : Hid (S.exs = [S.tg, S.va]) := hide (by rw [unhide HE, if_neg (by simp [h2, h4]), if_pos (.inr h5)])
          have q5 : (S.k == 5) = true := bt h5
          clear h2 h3 h4 h5 HE
          go_enter Tryd.func38, Tryd.ntmps38
          go_wp2_with fail
          go_ret
          rw [show w.alloc (.cells #[.string S.lab, .int .i64 S.k, .int .i64 S.tg.k, .string S.tg.t, .int .i64 S.tg.n, .string S.tg.nm, .slice S.tg.xa S.tg.len S.tg.cap, .int .i64 S.va.k, .string S.va.t, .int .i64 S.va.n, .string S.va.nm, .slice S.va.xa S.va.len S.va.cap, .int .i64 S.pa.k, .string S.pa.t, .int .i64 S.pa.n, .string S.pa.nm, .slice S.pa.xa S.pa.len S.pa.cap, .string S.nm, .string S.en, .slice S.ps.xa S.ps.l.length S.ps.cap, .slice S.ls.xa S.ls.l.length S.ls.cap, .string S.al, .string S.ye, .string S.no] 49) = w1 from (unhide HRW).symm]
          exact ⟨lsT2 (w.heap.size + 1) S.tg S.va, rfl, by rw [unhide HX]; exact lsT2_clls _ _ _, bnext (unhide HB1) (ba _), fun W hK hI => lsT2_in (hK _ _ (at_new (unhide HZ1))) hI.tg hI.va⟩
        · have HX : Hid (S.exs = []) := hide (by rw [unhide HE, if_neg (by simp [h2, h4]), if_neg (by simp [h3, h5])])
          have q5 : (S.k == 5) = false := bn h5
          clear h2 h3 h4 h5 HE
          go_enter Tryd.func38, Tryd.ntmps38
          go_wp2_with fail
          go_ret
          rw [show w.alloc (.cells #[.string S.lab, .int .i64 S.k, .int .i64 S.tg.k, .string S.tg.t, .int .i64 S.tg.n, .string S.tg.nm, .slice S.tg.xa S.tg.len S.tg.cap, .int .i64 S.va.k, .string S.va.t, .int .i64 S.va.n, .string S.va.nm, .slice S.va.xa S.va.len S.va.cap, .int .i64 S.pa.k, .string S.pa.t, .int .i64 S.pa.n, .string S.pa.nm, .slice S.pa.xa S.pa.len S.pa.cap, .string S.nm, .string S.en, .slice S.ps.xa S.ps.l.length S.ps.cap, .slice S.ls.xa S.ls.l.length S.ls.cap, .string S.al, .string S.ye, .string S.no] 49) = w1 from (unhide HRW).symm]
          exact ⟨lsT0, rfl, by rw [unhide HX]; rfl, unhide HB1, fun W _ _ => lsT0_in W⟩
end Go.Proofs.YtpphjddljngkmaaDoor
