/- What is come to: all of it; Reached. -/
import Derived.Test.YtpphjddljngkmaaDoorCkWP
import Derived.Deep.OwnRows
namespace Go.Proofs.YtpphjddljngkmaaDoor
open Go.RowKit

/-- How far it is to the end: those that are not come to twice, and those from which it is still to go on. -/
def opnAt (w : World) (wb : Nat) : Nat := match w.cell? ⟨wb, 2, none⟩ with | some (.slice _ n _) => n | _ => 0
def isFl (v : Option Value) : Bool := match v with | some (.bool false) => true | _ => false
def flsAt (w : World) (rb N : Nat) : Nat := ((List.range N).filter fun i => isFl (w.cell? ⟨rb, i, none⟩)).length
def mWk (w : World) (wb rb N : Nat) : Nat := 2 * flsAt w rb N + opnAt w wb
theorem fals_range (l : List Bool) : ((List.range l.length).filter fun i => isFl ((l[i]?).map Value.bool)).length = fals l := by
  induction l with
  | nil => rfl
  | cons b l ih =>
    rw [List.length_cons, List.range_succ_eq_map, List.filter_cons, List.filter_map]
    have e : ((List.range l.length).filter ((fun i => isFl (((b :: l)[i]?).map Value.bool)) ∘ Nat.succ)) = (List.range l.length).filter fun i => isFl ((l[i]?).map Value.bool) := by
      congr 1
    rw [e]
    have hf : ∀ b, isFl (Option.map Value.bool (some b)) = !b := fun b => by cases b <;> rfl
    unfold fals at ih ⊢
    rw [List.filter_cons, List.getElem?_cons_zero, hf]
    cases b
    · rw [if_pos (by rfl), if_pos (by rfl), List.length_cons, List.length_cons, List.length_map, ih]
    · rw [if_neg (by decide), if_neg (by decide), List.length_map, ih]
section
variable {B z bl bf n : Nat} {pv : Value} {c : CS} {wb rb N : Nat} {q : List Bool × List Nat} {w w' : World}
theorem WkM.meas (h : WkM B z bl bf n pv c wb rb N q w) : mWk w wb rb N = 2 * fals q.1 + q.2.length := by
  obtain ⟨ov, h1, h2⟩ := h.blk
  obtain ⟨a, cap, rfl, -, -⟩ := h2.len
  have e1 : opnAt w wb = q.2.length := by
    unfold opnAt
    rw [cell_of_row _ _ _ _ _ _ h1]; rfl
  have e2 : flsAt w rb N = fals q.1 := by
    unfold flsAt
    rw [← fals_range q.1, h.len]
    congr 2
    funext i
    rw [cell_of_row _ _ _ _ _ _ h.rch]
    unfold bV
    rw [List.getElem?_toArray, List.getElem?_map]
  unfold mWk
  rw [e1, e2]
/-- The last one is taken. -/
theorem WkM.pop {a : Option Addr} {cap : Nat} (h : WkM B z bl bf n pv c wb rb N q w) (hov : w.heap[wb]? = some (.cells #[.pointer (some ⟨z, 0, none⟩), .slice (some ⟨rb, 0, none⟩) N N, .slice a q.2.length cap] 68 (0, 0))) (hrw : Row w B 3 1 nI (.slice a q.2.length cap) q.2) :
    WkM B z bl bf n pv c wb rb N (q.1, q.2.dropLast) (w.setCell ⟨wb, 2, none⟩ (.slice a (q.2.length - 1) cap)) ∧ Stay B w (w.setCell ⟨wb, 2, none⟩ (.slice a (q.2.length - 1) cap)) := by
  have hwl : wb < w.heap.size := (Array.getElem?_eq_some_iff.1 hov).1
  have ho : ∀ k, k ≠ wb → (w.setCell ⟨wb, 2, none⟩ (.slice a (q.2.length - 1) cap)).heap[k]? = w.heap[k]? := fun k hk => heap_setCell_other w ⟨wb, 2, none⟩ k _ hk
  have hty : ∀ (k : Nat) (r : Array Value) (t : TypeId), w.heap[k]? = some (.cells r t (0, 0)) → t ≠ 68 → (w.setCell ⟨wb, 2, none⟩ (.slice a (q.2.length - 1) cap)).heap[k]? = some (.cells r t (0, 0)) := fun k r t hk h2 => (ho k (row_ne hk hov h2)).trans hk
  have hrow := hrw.take (fun _ => rfl) rfl (Nat.sub_le q.2.length 1)
  rw [← List.dropLast_eq_take] at hrow
  have hl : q.2.dropLast.length = q.2.length - 1 := List.length_dropLast
  refine ⟨⟨h.ck.keep (by rw [h.ck.chk.blk]; exact hty z _ _ h.ck.chk.blk (by decide)) (ho _ (map_ne h.ck.lab hov)) (ho _ (map_ne h.ck.fns hov)), ⟨.slice a (q.2.length - 1) cap, heap_setCell_same w wb 2 _ _ _ hov, hrow.same fun k hk => ho k ?_⟩, hty rb _ _ h.rch (by decide), h.len, h.max, h.low, ?_⟩, ⟨⟨rfl, rfl, rfl, by simp, fun k hk => ho k (by have := h.low; omega)⟩, fun k r hk => hty k r _ hk (by decide), fun k r hk => hty k r _ hk (by decide)⟩⟩
  · obtain ⟨cur, hc⟩ := hrow.type hk
    exact row_ne hc hov (by decide)
  · have := h.few
    show q.2.dropLast.length + fals q.1 ≤ N
    omega
end
theorem fals_rep (n : Nat) : fals (List.replicate n false) = n := by
  unfold fals
  rw [List.filter_replicate_of_pos (by rfl), List.length_replicate]
theorem walk_none {nx : Nat → List Nat} {f : Nat} {q : List Bool × List Nat} (h : q.2 = []) (hf : 0 < f) : walkN nx f q = q.1 := by
  obtain ⟨f', rfl⟩ : ∃ f', f = f' + 1 := ⟨f - 1, by omega⟩
  unfold walkN
  rw [h]; rfl
theorem walk_some {nx : Nat → List Nat} {f : Nat} {q : List Bool × List Nat} {i : Nat} (h : q.2.getLast? = some i) (hf : 0 < f) : walkN nx f q = walkN nx (f - 1) ((nx i).foldl comeN (q.1, q.2.dropLast)) := by
  obtain ⟨f', rfl⟩ : ∃ f', f = f' + 1 := ⟨f - 1, by omega⟩
  rw [walkN, h]; rfl
set_option maxRecDepth 100000 in
set_option maxHeartbeats 4000000 in
theorem comeTo_any {B z bl bf n : Nat} {V : PV} {P : List SV} {c : CS} (w : World) (hE : Env B w V P) (h : CkM B z bl bf n (V.v P.length) c w) (hG : Good P P.length c) (hP : P.length ≤ 1000) :
    Calls Tryd.prog 14 #[.pointer (some ⟨z, 0, none⟩)] w fun e w' => (∃ rb, e = .returned (.slice (some ⟨rb, 0, none⟩) P.length P.length) ∧ w'.heap[rb]? = some (.cells (bV (reachS P c)) 4 (0, 0)) ∧ B ≤ rb) ∧ Below B w w' := by
  have hBw := h.le
  have z4 := h.c4
  unfold PV.v at z4
  have HE := hide hE
  have HG := hide hG
  have HM := hide h
  have hmk := fun W => make_bools P.length (by omega) W
  obtain ⟨w1, hw1⟩ : ∃ w1, w1 = (w.alloc (.cells (bV (List.replicate P.length false)) 4)).alloc (.cells #[.pointer (some ⟨z, 0, none⟩), .slice (some ⟨w.heap.size, 0, none⟩) P.length P.length, .slice none 0 0] 68) := ⟨_, rfl⟩
  have hb1 : Below w.heap.size w w1 := by rw [hw1]; exact ((Below.refl _ _).alloc (Nat.le_refl _) _).alloc (by rw [World.size_alloc]; omega) _
  have hW1 : WkM B z bl bf n (V.v P.length) c (w.heap.size + 1) w.heap.size P.length (List.replicate P.length false, []) w1 := by
    refine ⟨h.later hb1, ⟨.slice none 0 0, by rw [hw1]; exact at_new (by rw [World.size_alloc]), World.ownsRow_nil w1 B _ 1⟩, by rw [hw1]; exact at_old (by rw [World.size_alloc]; omega) (at_new rfl), by simp, hP, ⟨by omega, hBw⟩, ?_⟩
    rw [fals_rep]
    exact Nat.le_of_eq (Nat.zero_add _)
  have HC0 := hide (come_any w1 0 hW1 (by omega))
  have HRW := hide hw1
  have HB1 := hide (hb1.mono hBw)
  have HF0 := hide (show 2 * fals (comeN (List.replicate P.length false, []) 0).1 + (comeN (List.replicate P.length false, []) 0).2.length ≤ 2 * P.length by
    have := come_fals (List.replicate P.length false, []) 0
    rw [fals_rep] at this
    exact this)
  have HO0 := hide (OpenIn.come (q := (List.replicate P.length false, [])) (fun i hi => by cases hi) 0)
  have HRS := hide (show reachS P c = walkN (nxtAt P c) (2 * P.length + 1) (comeN (List.replicate P.length false, []) 0) from rfl)
  generalize reachS P c = RS at *
  generalize comeN (List.replicate P.length false, []) 0 = q0 at *
  clear hE hG h hW1 hb1 hw1
  go_enter Tryd.func14, Tryd.ntmps14
  go_wp2_with fail
  rw [show (w.alloc (.cells (bV (List.replicate P.length false)) 4)).alloc (.cells #[.pointer (some ⟨z, 0, none⟩), .slice (some ⟨w.heap.size, 0, none⟩) P.length P.length, .slice none 0 0] 68) = w1 from (unhide HRW).symm]
  refine (unhide HC0).mono ?_
  rintro e w2 ⟨rfl, hM2, hs2⟩
  have HI0 := hide (show WkM B z bl bf n (V.v P.length) c (w.heap.size + 1) w.heap.size P.length q0 w2 ∧ Below B w w2 from ⟨hM2, (unhide HB1).trans hs2.old⟩)
  clear hM2 hs2 HC0
  go_wp2_with fail
  go_loopw [4] (fun _ wr => ∃ (q : List Bool × List Nat) (f : Nat), Hid (WkM B z bl bf n (V.v P.length) c (w.heap.size + 1) w.heap.size P.length q wr ∧ Below B w wr ∧ OpenIn q ∧ RS = walkN (nxtAt P c) f q ∧ 2 * fals q.1 + q.2.length < f)) (fun _ wr => mWk wr (w.heap.size + 1) w.heap.size P.length)
  case atStart => exact ⟨q0, 2 * P.length + 1, (unhide HI0).1, (unhide HI0).2, unhide HO0, unhide HRS, by have := unhide HF0; omega⟩
  case round =>
    obtain ⟨q, f, HI⟩ := hrel
    have HME := hide (unhide HI).1.meas
    obtain ⟨ov, hov, hrw⟩ := (unhide HI).1.blk
    obtain ⟨a, cap, rfl, han, hcp⟩ := hrw.len
    have c2 : wr.cell? ⟨w.heap.size + 1, 2, none⟩ = some (.slice a q.2.length cap) := by rw [cell_of_row _ _ _ _ _ _ hov]; rfl
    have c1 := (unhide HI).1.c1
    have hfr := frozen_of_row wr (w.heap.size + 1) 2 _ _ hov
    rcases Nat.eq_zero_or_pos q.2.length with h0 | h0
    · have HQ := hide (show RS = q.1 by rw [(unhide HI).2.2.2.1]; exact walk_none (List.eq_nil_of_length_eq_zero h0) (by have := (unhide HI).2.2.2.2; omega))
      have ql : ¬ (0 : Int) < (q.2.length : Int) := by omega
      have HRB := hide (unhide HI).1.rch
      clear hov hrw hcp han h0
      generalize q.2.length = ql2 at *
      go_wp2_with fail
      go_ret
      exact ⟨⟨w.heap.size, rfl, by rw [unhide HQ]; exact unhide HRB, hBw⟩, (unhide HI).2.1⟩
    · have ql : (0 : Int) < (q.2.length : Int) := by omega
      obtain ⟨x, hx⟩ : ∃ x, q.2.getLast? = some x := ⟨q.2.getLast (fun e => by rw [e] at h0; simp at h0), List.getLast?_eq_some_getLast _⟩
      have hxo := (unhide HI).2.2.1 x (List.mem_of_getLast? hx)
      have hxl : x < P.length := by have h1 := (List.getElem?_eq_some_iff.1 hxo).1; have h2 := (unhide HI).1.len; omega
      obtain ⟨S, hS⟩ : ∃ S, P[x]? = some S := ⟨P[x], List.getElem?_eq_getElem _⟩
      obtain ⟨g, cap', hv, -, hcm⟩ := hrw.form (fun e => by rw [e] at h0; simp at h0)
      injection hv with e1 e2 e3
      subst e1 e3
      obtain ⟨k, hk⟩ : ∃ k, q.2.length = k + 1 := ⟨q.2.length - 1, by omega⟩
      have hxk : q.2[k]? = some x := by rw [List.getLast?_eq_getElem?, hk] at hx; exact hx
      have cl := hrw.cell (fun _ => rfl) (i := k) (k := 0) (u := .int .i64 (x : Int)) rfl hxk rfl
      rw [Nat.mul_one, Nat.add_zero] at cl
      have HPOP := hide ((unhide HI).1.pop hov hrw)
      have HWS := hide (walk_some (nx := nxtAt P c) (f := f) hx (by have := (unhide HI).2.2.2.2; omega))
      rw [hk] at c2 HPOP ql hcp
      rw [Nat.add_sub_cancel] at HPOP
      have hmx : k + 1 ≤ 1000 := by have h1 := (unhide HI).1.few; have h2 := (unhide HI).1.max; omega
      have hix := sl_idx (g := g) (o := 0) (cap := cap) (i := k) (n := k + 1) Tryd.underlying55 size_intS (by omega)
      rw [Nat.zero_add] at hix
      have HGO := hide (goOn_any _ x S hS ((unhide HE).next ((unhide HI).2.1.trans (unhide HPOP).2.old)) (unhide HPOP).1 (unhide HG) hP)
      have HLT := hide (show 2 * fals ((nxtAt P c x).foldl comeN (q.1, q.2.dropLast)).1 + ((nxtAt P c x).foldl comeN (q.1, q.2.dropLast)).2.length < mWk wr (w.heap.size + 1) w.heap.size P.length ∧ 2 * fals ((nxtAt P c x).foldl comeN (q.1, q.2.dropLast)).1 + ((nxtAt P c x).foldl comeN (q.1, q.2.dropLast)).2.length < f - 1 by
        have h1 := comes_fals (nxtAt P c x) (q.1, q.2.dropLast)
        have h2 : q.2.dropLast.length = k := by rw [List.length_dropLast, hk]; rfl
        have h3 := unhide HME
        have h4 := (unhide HI).2.2.2.2
        simp only [h2] at h1
        omega)
      have HON := hide (OpenIn.comes (nxtAt P c x) (unhide HI).2.2.1.drop)
      have HBB := hide ((unhide HI).2.1.trans (unhide HPOP).2.old)
      have HRQ := hide (show RS = walkN (nxtAt P c) (f - 1) ((nxtAt P c x).foldl comeN (q.1, q.2.dropLast)) by rw [(unhide HI).2.2.2.1]; exact unhide HWS)
      generalize (nxtAt P c x).foldl comeN (q.1, q.2.dropLast) = qn at *
      clear hov hrw hx hxo hxk h0 hcm han hk hS HPOP HI HWS
      go_wp2_with fail
      refine (unhide HGO).mono ?_
      rintro e w9 ⟨rfl, hM9, hs9⟩
      have HME9 := hide hM9.meas
      have HZ := hide (show WkM B z bl bf n (V.v P.length) c (w.heap.size + 1) w.heap.size P.length qn w9 ∧ Below B w w9 from ⟨hM9, (unhide HBB).trans hs9.old⟩)
      clear hM9 hs9
      go_wp2_with fail
      exact ⟨⟨qn, f - 1, (unhide HZ).1, (unhide HZ).2, unhide HON, unhide HRQ, (unhide HLT).2⟩, by rw [unhide HME9]; exact (unhide HLT).1⟩
theorem res_reach (tmps : Array Value) (w : World) (g : Nat) (fs : Array Value) (hp : tmps.getD 3 undef = .pointer (some ⟨g, 0, none⟩)) (hg : w.heap[g]? = some (.cells fs 25 (0, 0))) (hfs : fs.size = 2) :
    (results Tryd.f8 tmps).run Tryd.prog w = .ok (.tuple #[tmps.getD 2 undef, .agg fs]) w := by
  have hp' : tmps[3]?.getD undef = .pointer (some ⟨g, 0, none⟩) := by simpa using hp
  have hl := run_loadVar_row w g 25 25 fs (0, 0) _ hg Tryd.underlying25 rfl (size_fau.trans (by rw [hfs]))
  simp [results, Tryd.results8, hp', asAddr, hl]
/-- What Reached hands back: the fault, or what is come to. -/
def ReachPost (w : World) (P : List SV) (e : Ending) (w' : World) : Prop :=
  (((lookS P).er ≠ 0 ∧ e = .returned (.tuple #[.slice none 0 0, .agg #[.int .i64 (lookS P).er, .int .i64 (lookS P).at_]])) ∨
    ((lookS P).er = 0 ∧ ∃ rb, e = .returned (.tuple #[.slice (some ⟨rb, 0, none⟩) P.length P.length, .agg #[.int .i64 0, .int .i64 0]]) ∧ w'.heap[rb]? = some (.cells (bV (reachS P (lookS P))) 4 (0, 0)) ∧ w.heap.size ≤ rb)) ∧ Below w.heap.size w w'
set_option maxRecDepth 100000 in
set_option maxHeartbeats 4000000 in
theorem reached_any (w : World) (V : PV) (P : List SV) (hE : Env w.heap.size w V P) : Calls Tryd.prog 8 #[V.v P.length] w (ReachPost w P) := by
  have hk0 := (Below.refl w.heap.size w).alloc (Nat.le_refl _) (.cells #[.int .i64 0, .int .i64 0] 25)
  have HK := hide hk0
  have HLK := hide (look_any (w.alloc (.cells #[.int .i64 0, .int .i64 0] 25)) V P ⟨fun W q => hE.prog W (bnext hk0 q), fun W q => hE.shx W (bnext hk0 q), fun W q => hE.shp W (bnext hk0 q)⟩)
  have HE := hide hE
  clear hE hk0
  go_enter Tryd.func8, Tryd.ntmps8
  go_wp2_with fail
  refine (unhide HLK).mono ?_
  rintro e w2 ⟨z, bl, bf, n, rfl, hM, hb⟩
  have c0 := hM.c0
  have hf0 : w2.heap[w.heap.size]? = some (.cells #[.int .i64 0, .int .i64 0] 25 (0, 0)) := row_below (at_new rfl) hb
  have HF0 := hide hf0
  have HM := hide hM
  have HB := hide (bnext (unhide HK) hb)
  have hzB := hM.oz
  rw [World.size_alloc] at hzB
  by_cases he : (lookS P).er = 0
  · have q0 : ((lookS P).er != 0) = false := by rw [bne, beq_iff_eq.2 he]; rfl
    have HC := hide (comeTo_any w2 ((show Env (w.alloc (.cells #[.int .i64 0, .int .i64 0] 25)).heap.size w2 V P from ⟨fun W q => (unhide HE).prog W ((unhide HB).trans (q.mono (by rw [World.size_alloc]; omega))), fun W q => (unhide HE).shx W ((unhide HB).trans (q.mono (by rw [World.size_alloc]; omega))), fun W q => (unhide HE).shp W ((unhide HB).trans (q.mono (by rw [World.size_alloc]; omega)))⟩)) hM (good_lookS P) (look_len he))
    have HER := hide he
    clear hM hb hf0 he HLK
    go_wp2_with fail
    refine (unhide HC).mono ?_
    rintro e w3 ⟨⟨rb, rfl, hrb, hrB⟩, hb3⟩
    rw [World.size_alloc] at hrB hb3
    have hf3 : w3.heap[w.heap.size]? = some (.cells #[.int .i64 0, .int .i64 0] 25 (0, 0)) := (hb3.block _ (by omega)).trans (unhide HF0)
    have g0 : w3.cell? ⟨w.heap.size, 0, none⟩ = some (.int .i64 0) := by rw [cell_of_row _ _ _ _ _ _ hf3]; rfl
    have g1 : w3.cell? ⟨w.heap.size, 1, none⟩ = some (.int .i64 0) := by rw [cell_of_row _ _ _ _ _ _ hf3]; rfl
    have r0 := frozen_of_row w3 w.heap.size 0 _ _ hf3
    have r1 := frozen_of_row w3 w.heap.size 1 _ _ hf3
    have HF3 := hide (show ((w3.setCell ⟨w.heap.size, 0, none⟩ (.int .i64 0)).setCell ⟨w.heap.size, 1, none⟩ (.int .i64 0)).heap[w.heap.size]? = some (.cells #[.int .i64 0, .int .i64 0] 25 (0, 0)) from heap_setCell_same _ _ 1 _ _ _ (heap_setCell_same _ _ 0 _ _ _ hf3))
    have HRB := hide (show ((w3.setCell ⟨w.heap.size, 0, none⟩ (.int .i64 0)).setCell ⟨w.heap.size, 1, none⟩ (.int .i64 0)).heap[rb]? = some (.cells (bV (reachS P (lookS P))) 4 (0, 0)) from (heap_setCell_other _ ⟨w.heap.size, 1, none⟩ rb _ (by show rb ≠ w.heap.size; omega)).trans ((heap_setCell_other _ ⟨w.heap.size, 0, none⟩ rb _ (by show rb ≠ w.heap.size; omega)).trans hrb))
    have HBZ := hide (below_cell (below_cell ((unhide HB).trans (hb3.mono (by omega))) (Nat.le_refl _) 0 (.int .i64 0)) (Nat.le_refl _) 1 (.int .i64 0))
    clear hf3 hrb hb3
    go_wp2_with fail
    refine bodyPost_ret (res_reach _ _ w.heap.size #[.int .i64 0, .int .i64 0] rfl (unhide HF3) rfl) rfl ?_
    exact ⟨.inr ⟨unhide HER, rb, rfl, unhide HRB, by omega⟩, unhide HBZ⟩
  · have q0 : ((lookS P).er != 0) = true := by rw [bne, beq_eq_false_iff_ne.2 he]; rfl
    have HER := hide he
    have c1 := hM.c1
    have g0 : w2.cell? ⟨w.heap.size, 0, none⟩ = some (.int .i64 0) := by rw [cell_of_row _ _ _ _ _ _ hf0]; rfl
    have g1 : w2.cell? ⟨w.heap.size, 1, none⟩ = some (.int .i64 0) := by rw [cell_of_row _ _ _ _ _ _ hf0]; rfl
    have r0 := frozen_of_row w2 w.heap.size 0 _ _ hf0
    have r1 := frozen_of_row w2 w.heap.size 1 _ _ hf0
    generalize her : (lookS P).er = er at *
    generalize hat2 : (lookS P).at_ = at2 at *
    have HQ := hide (And.intro her hat2)
    clear her hat2
    have HF3 := hide (show ((w2.setCell ⟨w.heap.size, 0, none⟩ (.int .i64 er)).setCell ⟨w.heap.size, 1, none⟩ (.int .i64 at2)).heap[w.heap.size]? = some (.cells #[.int .i64 er, .int .i64 at2] 25 (0, 0)) from heap_setCell_same _ _ 1 _ _ _ (heap_setCell_same _ _ 0 _ _ _ hf0))
    have HBZ := hide (below_cell (below_cell (unhide HB) (Nat.le_refl _) 0 (.int .i64 er)) (Nat.le_refl _) 1 (.int .i64 at2))
    have hzn : ¬ z = w.heap.size := by omega
    have hzn2 : ¬ w.heap.size = z := by omega
    clear hM hb hf0 he HLK HM
    go_wp2_with fail
    go_region
    go_wp2_with fail
    refine bodyPost_ret (res_reach _ _ w.heap.size #[.int .i64 er, .int .i64 at2] rfl (unhide HF3) rfl) rfl ?_
    exact ⟨.inl ⟨by rw [(unhide HQ).1]; exact unhide HER, by rw [(unhide HQ).1, (unhide HQ).2]; rfl⟩, (unhide HBZ).drew⟩
end Go.Proofs.YtpphjddljngkmaaDoor
