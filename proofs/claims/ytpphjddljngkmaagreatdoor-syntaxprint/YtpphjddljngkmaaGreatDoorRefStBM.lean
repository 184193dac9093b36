/- The document's Expr: what is wrong with an expression; and its target. Names appended to names of the call's own, wherever they came from. -/
import Derived.Test.YtpphjddljngkmaaGreatDoorRefExNP
import Derived.Test.YtpphjddljngkmaaGreatDoorStBM
import Derived.Test.YtpphjddljngkmaaGreatDoorStCP
import Derived.Laws.OwnMore
import Derived.Maps.AppendAt
import Derived.Deep.AppendLies
namespace Go.Proofs.YtpphjddljngkmaaGreatDoor
open Go.RowKit

set_option maxRecDepth 100000 in
set_option maxHeartbeats 1000000 in
theorem refTarget_any (T : PT) (w : World) : Calls Tryz.prog 23 #[pv T] w fun e w' => e = .returned (.bool (isPl T.k)) ∧ Below w.heap.size w w' := by
  unfold pv
  obtain ⟨c0, -, -, -, -⟩ := cells5y (W := w.alloc (.cells #[.int .i64 T.k, .string T.t, .int .i64 T.n, .string T.nm, .slice T.xa T.len T.cap] 25)) (at_new rfl)
  by_cases h3 : T.k = 3
  · have HP : Hid (isPl T.k = true) := hide (by unfold isPl; rw [h3]; rfl)
    have q3 : (T.k == 3) = true := bt h3
    clear h3
    go_enter Tryz.func23, Tryz.ntmps23
    go_wp2_with fail
    go_ret
    exact ⟨by rw [unhide HP]; rfl, ba _⟩
  · by_cases h4 : T.k = 4
    · have HP : Hid (isPl T.k = true) := hide (by unfold isPl; rw [h4]; rfl)
      have q3 : (T.k == 3) = false := bn h3
      have q4 : (T.k == 4) = true := bt h4
      clear h3 h4
      go_enter Tryz.func23, Tryz.ntmps23
      go_wp2_with fail
      go_ret
      exact ⟨by rw [unhide HP]; rfl, ba _⟩
    · by_cases h5 : T.k = 5
      · have HP : Hid (isPl T.k = true) := hide (by unfold isPl; rw [h5]; rfl)
        have q3 : (T.k == 3) = false := bn h3
        have q4 : (T.k == 4) = false := bn h4
        have q5 : (T.k == 5) = true := bt h5
        clear h3 h4 h5
        go_enter Tryz.func23, Tryz.ntmps23
        go_wp2_with fail
        go_ret
        exact ⟨by rw [unhide HP]; rfl, ba _⟩
      · have HP : Hid (isPl T.k = false) := hide (by unfold isPl; rw [decide_eq_false h3, decide_eq_false h4, decide_eq_false h5]; rfl)
        have q3 : (T.k == 3) = false := bn h3
        have q4 : (T.k == 4) = false := bn h4
        have q5 : (T.k == 5) = false := bn h5
        clear h3 h4 h5
        go_enter Tryz.func23, Tryz.ntmps23
        go_wp2_with fail
        go_ret
        exact ⟨by rw [unhide HP]; rfl, ba _⟩
set_option maxRecDepth 100000 in
set_option maxHeartbeats 1000000 in
theorem refExpr_any (T : PT) (w : World) (hT : T.In w) :
    Calls Tryz.prog 5 #[pv T] w fun e w' => e = .returned (.int .i64 T.wrongX) ∧ Below w.heap.size w w' := by
  have HZ := hide (fun W (h : Below w.heap.size w W) => cnt_any T W 1 (PT.In.later h hT) (by omega) (by omega) 1 rfl)
  have HB := hide (fun W (h : Below w.heap.size w W) => rbad_any T W (PT.In.later h hT))
  have HCP := hide (Nat.le_refl T.cnt)
  clear hT
  unfold pv
  have hk0 := (Below.refl w.heap.size w).alloc (Nat.le_refl _) (.cells #[.int .i64 T.k, .string T.t, .int .i64 T.n, .string T.nm, .slice T.xa T.len T.cap] 25)
  go_enter Tryz.func5, Tryz.ntmps5
  go_wp2_with fail
  refine (unhide HZ _ hk0).mono ?_
  rintro e w1 ⟨n, m, rfl, hb1, hn, hm, hy, hz⟩
  have H1 := hide (bnext hk0 hb1)
  obtain ⟨c0, c1, c2, c3, c4⟩ := cells5y (row_below (at_new rfl) hb1)
  clear hk0 hb1 HZ
  by_cases h4 : 4096 < n
  · have HW : Hid (T.wrongX = 4) := hide (by
      have h := hz (.inl h4)
      have hf : T.fits = false := by unfold PT.fits; rw [Bool.and_eq_false_iff, decide_eq_false_iff_not, decide_eq_false_iff_not]; omega
      unfold PT.wrongX; rw [hf]; rfl)
    have g : (4096 : Int) < (n : Int) := by omega
    clear h4 hy hz hn hm
    go_wp2_with fail
    go_ret
    exact ⟨by rw [unhide HW]; rfl, unhide H1⟩
  · have g : ¬ (4096 : Int) < (n : Int) := by omega
    by_cases h2 : 200 < m
    · have HW : Hid (T.wrongX = 4) := hide (by
        have h := hz (.inr h2)
        have hf : T.fits = false := by unfold PT.fits; rw [Bool.and_eq_false_iff, decide_eq_false_iff_not, decide_eq_false_iff_not]; omega
        unfold PT.wrongX; rw [hf]; rfl)
      have g2 : (200 : Int) < (m : Int) := by omega
      clear h4 h2 hy hz hn hm
      go_wp2_with fail
      go_ret
      exact ⟨by rw [unhide HW]; rfl, unhide H1⟩
    · have HW : Hid (T.wrongX = T.badX) := hide (by
        have h := hy (by omega)
        have hf : T.fits = true := by unfold PT.fits; rw [Bool.and_eq_true, decide_eq_true_eq, decide_eq_true_eq]; omega
        unfold PT.wrongX; rw [hf]; rfl)
      have g2 : ¬ (200 : Int) < (m : Int) := by omega
      clear h4 h2 hy hz hn hm
      go_wp2_with fail
      refine (unhide HB _ (unhide H1)).mono ?_
      rintro e w2 ⟨rfl, hb2⟩
      have H2 := hide (bnext (unhide H1) hb2)
      clear hb2
      go_wp2_with fail
      go_ret
      exact ⟨by rw [unhide HW]; rfl, unhide H2⟩
end Go.Proofs.YtpphjddljngkmaaGreatDoor

namespace Go.Proofs.YtpphjddljngkmaaGreatDoor
open Go.RowKit

theorem info_strR : (Tryz.prog.info? 9).map (fun i => (i.zero, i.size, i.bytes)) = some (some (.string ⟨#[]⟩), 1, 16) := by kernel_rfl
def strs (l : List ByteArray) : List Value := l.map Value.string
theorem strs_len (l : List ByteArray) : (strs l).length = l.length := List.length_map _
theorem strs_add (a b : List ByteArray) : strs (a ++ b) = strs a ++ strs b := List.map_append
/-- Names appended: the row is the call's own, and what lay there before lies there still. -/
theorem run_append_nl (w : World) (base : Nat) (v : Value) (n : Nat) (xs : List ByteArray) (hown : w.ownsRow base 9 1 v n (strs xs)) (N : NL) (hN : N.In w) (hsz : n + N.l.length ≤ 8000000000000) (hb : base ≤ w.heap.size) :
    ∃ v' w', (Builtin.append_ #[31, 31] 31 #[v, N.v]).run Tryz.prog w = .ok v' w' ∧ w'.ownsRow base 9 1 v' (n + N.l.length) (strs (xs ++ N.l)) ∧ w.grownBy w' v.ownBlock ∧ (v'.ownBlock = v.ownBlock ∨ v'.ownBlock = some w.heap.size) := by
  have hinf := info_strR
  cases hi : Tryz.prog.info? 9 with
  | none => simp [hi] at hinf
  | some i0 =>
    simp only [hi, Option.map_some, Option.some.injEq, Prod.mk.injEq] at hinf
    obtain ⟨hz0, hz1, hz2⟩ := hinf
    unfold NL.v
    cases hx : N.xa with
    | none =>
      have h0 : N.l = [] := by
        rcases Nat.eq_zero_or_pos N.l.length with h | h
        · exact List.eq_nil_of_length_eq_zero h
        · rw [hN.at_ h] at hx; cases hx
      rw [h0]
      refine ⟨v, w, ?_, by rw [List.append_nil]; exact hown, ⟨rfl, rfl, rfl, Nat.le_refl _, fun _ _ _ => rfl⟩, .inl rfl⟩
      rcases hown.2 with ⟨rfl, rfl⟩ | ⟨g, cap, cur, rfl, _, _, hnc, _⟩
      · simp [Builtin.append_, run_underlying Tryz.underlying31, sizeOf, typeInfo, hi, Builtin.lenOf, Builtin.firstCells]
      · simp [Builtin.append_, run_underlying Tryz.underlying31, sizeOf, typeInfo, hi, Builtin.lenOf, Builtin.firstCells, hnc, storeCells]
    | some ad =>
      obtain ⟨v', w', hr, ho, hg, -, hat⟩ := run_append_own_at (P := Tryz.prog) w base 31 31 9 i0 _ 1 16 Tryz.underlying31 hi hz0 hz1 hz2 rfl (by decide) v n (strs xs) hown ad N.l.length N.cap (strs N.l) (by rw [strs_len, Nat.mul_one]) (fun j u hu => by
          have hj : j < N.l.length := by rw [← strs_len]; exact (List.getElem?_eq_some_iff.1 hu).1
          have ha := hN.at_ (by omega)
          rw [hx] at ha
          obtain rfl := Option.some.inj ha
          have e : N.l[j]? = some N.l[j] := List.getElem?_eq_getElem hj
          have h1 := (hN.cell j _ e).1
          have h2 : u = .string N.l[j] := by
            unfold strs at hu
            rw [List.getElem?_map, e] at hu
            exact (Option.some.inj hu).symm
          rw [h2, Addr.add_lit]
          exact h1) (fun u hu => by
          obtain ⟨t, -, rfl⟩ := List.mem_map.1 hu
          rfl) (by unfold maxLen; omega) (by omega) hb
      exact ⟨v', w', hr, by rw [strs_add]; exact ho, hg, hat⟩
/-- What the call has put together, in a world: it owns the row; beneath B nothing has changed; and another row of its own, which lies elsewhere. -/
structure Ap (B : Nat) (w0 W : World) (v : Value) (n : Nat) (xs : List ByteArray) (h : Nat) (en : ByteArray) (b : Bool) : Prop where
  own : W.ownsRow B 9 1 v n (strs xs)
  below : Below B w0 W
  le : B ≤ W.heap.size
  row : b = true → W.heap[h]? = some (.cells #[.string en] 9 (0, 0)) ∧ v.ownBlock ≠ some h ∧ B ≤ h
theorem Ap.drew {B : Nat} {w0 W : World} {v : Value} {n : Nat} {xs : List ByteArray} {h : Nat} {en : ByteArray} {b : Bool} (q : Ap B w0 W v n xs h en b) : Ap B w0 W.drew v n xs h en b := ⟨own_below q.own (Below.refl _ _).drew, q.below.drew, q.le, q.row⟩
theorem lt_of_row {W : World} {h : Nat} {x : Obj} (q : W.heap[h]? = some x) : h < W.heap.size := (Array.getElem?_eq_some_iff.1 q).1
/-- The other row is laid. -/
theorem Ap.lay {B : Nat} {w0 W : World} {v : Value} {n : Nat} {xs : List ByteArray} {h h' : Nat} {en : ByteArray} (q : Ap B w0 W v n xs h en false) (e : h' = W.heap.size) : Ap B w0 (W.alloc (.cells #[.string en] 9)) v n xs h' en true := by
  subst e
  refine ⟨q.own.alloc _, q.below.alloc q.le _, by rw [World.size_alloc]; have := q.le; omega, fun _ => ⟨at_new rfl, fun e => ?_, q.le⟩⟩
  have := (q.own.lt _ e).2
  omega
theorem Ap.start {w0 W : World} {B g : Nat} {en : ByteArray} (hb : Below B w0 W) (hB : B ≤ W.heap.size) (h : g = W.heap.size) (x : Nat) : Ap B w0 (W.alloc (.cells #[] 9)) (.slice (some ⟨g, 0, none⟩) 0 0) 0 [] x en false := by
  subst h
  exact ⟨World.ownsRow_lit (base := B) (e := 9) (size := 1) W #[] 0 hB (by decide) rfl, hb.alloc hB _, by rw [World.size_alloc]; omega, fun e => by cases e⟩
/-- The other row is laid first. -/
theorem Ap.start2 {w0 W : World} {B g h : Nat} {en : ByteArray} (hb : Below B w0 W) (hB : B ≤ W.heap.size) (e : h = W.heap.size) (f : g = h + 1) : Ap B w0 ((W.alloc (.cells #[.string en] 9)).alloc (.cells #[] 9)) (.slice (some ⟨g, 0, none⟩) 0 0) 0 [] h en true := by
  subst f e
  have h1 : B ≤ (W.alloc (.cells #[.string en] 9)).heap.size := by rw [World.size_alloc]; omega
  refine ⟨?_, (hb.alloc hB _).alloc h1 _, by rw [World.size_alloc]; omega, fun _ => ⟨at_old (by rw [World.size_alloc]; omega) (at_new rfl), fun e => ?_, hB⟩⟩
  · have := World.ownsRow_lit (base := B) (e := 9) (size := 1) (W.alloc (.cells #[.string en] 9)) #[] 0 h1 (by decide) rfl
    rw [World.size_alloc] at this
    exact this
  · simp [Value.ownBlock] at e
/-- As a law for the walk. -/
theorem wp_append_nl {w : World} {o : Oper} {a : Act} {K : Act → World → Prop} {Q : Exit → Act → World → Prop} (s x : Operand)
    (ho : o.op = .call { callee := .builtin .append, args := #[s, x], argTypes := #[31, 31] }) (hty : o.type = 31)
    {B : Nat} {w0 : World} {v : Value} {n : Nat} {xs : List ByteArray} {r : Nat} {en : ByteArray} {b : Bool} (hs : a.eval s = v) (hA : Ap B w0 w v n xs r en b) (N : NL) (hx : a.eval x = N.v) (hN : ∀ W, Below B w0 W → N.In W)
    (hsz : n + N.l.length ≤ 8000000000000)
    (h : ∀ v' w', Ap B w0 w' v' (n + N.l.length) (xs ++ N.l) r en b → K (a.put o.dst v') w') : o.wp Tryz.prog a w K Q := by
  obtain ⟨v', w', hr, h2, h3, h4⟩ := run_append_nl w B v n xs hA.own N (hN w hA.below) hsz hA.le
  unfold Oper.wp execOp
  simp only [ho, hty, resolve, invoke, builtin, Sem.run_bind, Sem.run_pure, Result.andThen_ok, List.map_toArray, List.map_cons, List.map_nil, hs, hx, hr]
  refine h v' w' ⟨h2, hA.below.grown h3 hA.le fun k hk => (hA.own.lt k hk).1, Nat.le_trans hA.le h3.size, fun e => ?_⟩
  obtain ⟨p, q, l⟩ := hA.row e
  refine ⟨(h3.block r (lt_of_row p) (fun e => q e.symm)).trans p, ?_, l⟩
  rcases h4 with h4 | h4
  · rw [h4]; exact q
  · rw [h4]; intro e
    have := lt_of_row p
    have := Option.some.inj e
    omega
theorem wp_append_en {w : World} {o : Oper} {a : Act} {K : Act → World → Prop} {Q : Exit → Act → World → Prop} (s x : Operand)
    (ho : o.op = .call { callee := .builtin .append, args := #[s, x], argTypes := #[31, 31] }) (hty : o.type = 31)
    {B : Nat} {w0 : World} {v : Value} {n : Nat} {xs : List ByteArray} {r : Nat} {en : ByteArray} (hs : a.eval s = v) (hx : a.eval x = .slice (some ⟨r, 0, none⟩) 1 1) (hA : Ap B w0 w v n xs r en true) (hen : en.size ≤ maxLen)
    (hsz : n + 1 ≤ 8000000000000)
    (h : ∀ g cap w', n + 1 ≤ cap → cap ≤ maxLen → Ap B w0 w' (.slice (some ⟨g, 0, none⟩) (n + 1) cap) (n + 1) (xs ++ [en]) r en true → K (a.put o.dst (.slice (some ⟨g, 0, none⟩) (n + 1) cap)) w') : o.wp Tryz.prog a w K Q := by
  have hN : NL.In w ⟨some ⟨r, 0, none⟩, r, 0, 1, [en]⟩ := nl_at (l := [en]) (hA.row rfl).1 rfl (fun t ht => by
    obtain rfl := List.mem_singleton.1 ht
    exact hen) (by simp)
  obtain ⟨v', w', hr, h2, h3, h4⟩ := run_append_nl w B v n xs hA.own ⟨some ⟨r, 0, none⟩, r, 0, 1, [en]⟩ hN hsz hA.le
  replace h2 : w'.ownsRow B 9 1 v' (n + 1) (strs (xs ++ [en])) := h2
  unfold NL.v at hr
  simp only [List.length_cons, List.length_nil, Nat.zero_add] at hr
  unfold Oper.wp execOp
  simp only [ho, hty, resolve, invoke, builtin, Sem.run_bind, Sem.run_pure, Result.andThen_ok, List.map_toArray, List.map_cons, List.map_nil, hs, hx, hr]
  obtain ⟨g, cap, hv, -, -⟩ := World.ownsRow.form h2 (by omega)
  rw [hv] at h2 h4 ⊢
  have hc : n + 1 ≤ cap ∧ cap ≤ maxLen := by
    rcases h2.2 with ⟨e, _⟩ | ⟨g', c', cur, e, _, _, hnc, hcm, _⟩
    · cases e
    · injection e with _ _ e
      subst e
      exact ⟨hnc, hcm⟩
  refine h g cap w' hc.1 hc.2 ⟨h2, hA.below.grown h3 hA.le fun k hk => (hA.own.lt k hk).1, Nat.le_trans hA.le h3.size, fun e => ?_⟩
  obtain ⟨p, q, l⟩ := hA.row e
  refine ⟨(h3.block r (lt_of_row p) (fun e => q e.symm)).trans p, ?_, l⟩
  rcases h4 with h4 | h4
  · rw [h4]; exact q
  · rw [h4]; intro e
    have := lt_of_row p
    have := Option.some.inj e
    omega
end Go.Proofs.YtpphjddljngkmaaGreatDoor
