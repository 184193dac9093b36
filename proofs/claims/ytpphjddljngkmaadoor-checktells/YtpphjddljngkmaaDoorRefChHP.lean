/- The document's Reached: the row of places a statement leads to. -/
import Derived.Test.YtpphjddljngkmaaDoorRefChGP
import Derived.Test.YtpphjddljngkmaaDoorCkU0M
import Derived.Test.YtpphjddljngkmaaDoorCkUP
namespace Go.Proofs.YtpphjddljngkmaaDoor
open Go.RowKit

def nZ (x : Int) : List Value := [.int .i64 x]
theorem nZ_one : ∀ (y : Int), ∀ u ∈ nZ y, u.oneCell' = true := fun y u hu => by
  have : u = .int .i64 y := by simpa [nZ] using hu
  subst this; rfl
/-- Blocks of other types than numbers' are as they were. -/
def KX (w w' : World) : Prop := ∀ t, 3 ≠ t → KT t w w'
theorem KX.refl (w : World) : KX w w := fun _ _ => KT.refl _ w
theorem KX.trans {a b c : World} (h : KX a b) (k : KX b c) : KX a c := fun t q => KT.trans (h t q) (k t q)
theorem KX.below {w w' : World} (h : Below w.heap.size w w') : KX w w' := fun _ _ => KT.below h
/-- A row of places, of the call's own. -/
structure To (w0 W : World) (v : Value) (xs : List Int) : Prop where
  row : Row W w0.heap.size 3 1 nZ v xs
  below : Below w0.heap.size w0 W
theorem To.later {w0 W W' : World} {v : Value} {xs : List Int} (h : To w0 W v xs) (hb : Below W.heap.size W W') : To w0 W' v xs := ⟨h.row.later hb, h.below.trans (hb.mono h.below.size)⟩
theorem To.start (w0 : World) : To w0 w0 (.slice none 0 0) [] := ⟨World.ownsRow_nil w0 w0.heap.size _ 1, Below.refl _ _⟩
theorem wpList_to {w : World} {ops : Array Oper} {rest : List Oper} {o : Oper} {a : Act} {Q : Exit → Act → World → Prop} (hgd : o.guard = none) (s x : Operand)
    (ho : o.op = .call { callee := .builtin .append, args := #[s, x], argTypes := #[55, 55] }) {w0 : World} {v : Value} {xs : List Int} (hs : a.eval s = v) (hA : To w0 w v xs) (y : Int) (g : Nat) (hx : a.eval x = .slice (some ⟨g, 0, none⟩) 1 1) (hc : w.cell? ⟨g, 0, none⟩ = some (.int .i64 y)) (hl : xs.length ≤ 1000000)
    (hK : ∀ v' w', To w0 w' v' (xs ++ [y]) → KX w w' → wpList Tryd.prog ops Q rest (a.put o.dst v') w') : wpList Tryd.prog ops Q (o :: rest) a w :=
  wpList_row Tryd.underlying55 intRow rfl (by decide) (by decide) (fun _ => rfl) nZ_one hgd s x ho hA.row hA.below.size y g 1 hs hx (fun k u hu => by
    match k, hu with
    | 0, hu => obtain rfl : Value.int .i64 y = u := by simpa [nZ] using hu
               exact hc
    | k + 1, hu => simp [nZ] at hu) hl fun v' w' h1 h2 _ => hK v' w' ⟨h1, below_grownR hA.below hA.row (Nat.le_refl _) h2⟩ fun t ht k r hk => (h2.block k (Array.getElem?_eq_some_iff.1 hk).1 (hA.row.neBlk hk ht)).trans hk
theorem own_kt {W W' : World} {B n : Nat} {v : Value} {xs : List Value} (h : W.ownsRow B 43 5 v n xs) (hk : KX W W') : W'.ownsRow B 43 5 v n xs := by
  refine ⟨h.1, ?_⟩
  rcases h.2 with q | ⟨g, cap, cur, e, hb, hg, r⟩
  · exact .inl q
  · exact .inr ⟨g, cap, cur, e, hb, hk 43 (by decide) g cur hg, r⟩
theorem aft_any (V : PV) (P : List SV) (i : Nat) (n : ByteArray) (w : World) (hp : PIn w V P) (hi : i < 2000) :
    Calls Tryd.prog 15 #[V.v P.length, .int .i64 (i : Int), .string n] w fun e w' => e = .returned (.int .i64 (aftR P i n)) ∧ Below w.heap.size w w' := refAfter_any V P i n w hp hi
/-- What is known of what is come to, in any round. -/
structure RI (P : List SV) (o : List Bool) : Prop where
  len : o.length = P.length
  zero : 0 < P.length → o[0]? = some true
  und : Und P o
theorem RI.mark {P : List SV} {o : List Bool} {k : Int} {i : Nat} {S : SV} (h : RI P o) (hS : P[i]? = some S) (hi : o[i]? = some true) (hk : k ∈ toR P i S) : RI P (markR o k) :=
  ⟨(mark_len o k).trans h.len, fun q => mark_up o k 0 (h.zero q), h.und.mark h.len hS hi hk⟩
def isFalV : Value → Bool
  | .bool false => true
  | _ => false
theorem isFalV_len : ∀ o : List Bool, ((o.map Value.bool).filter isFalV).length = fals o
  | [] => rfl
  | b :: o => by
    have ih := isFalV_len o
    unfold fals at ih ⊢
    rw [List.map_cons, List.filter_cons, List.filter_cons]
    cases b
    · exact congrArg (· + 1) ih
    · exact ih
def falsV (w : World) (g : Nat) : Nat := match w.heap[g]? with | some (.cells cs _ _) => (cs.toList.filter isFalV).length | _ => 0
theorem falsV_eq {w : World} {g : Nat} {o : List Bool} (h : w.heap[g]? = some (.cells (bV o) 4 (0, 0))) : falsV w g = fals o := by
  unfold falsV
  rw [h]
  exact isFalV_len o
theorem bool_cell {w : World} {g x : Nat} {o : List Bool} {b : Bool} (h : w.heap[g]? = some (.cells (bV o) 4 (0, 0))) (hx : o[x]? = some b) : w.cell? ⟨g, x, none⟩ = some (.bool b) := by
  rw [cell_of_row _ _ _ _ _ _ h]
  unfold bV
  rw [List.getElem?_toArray, List.getElem?_map, hx]; rfl
theorem bool_set {w : World} {g x : Nat} {o : List Bool} (h : w.heap[g]? = some (.cells (bV o) 4 (0, 0))) : (w.setCell ⟨g, x, none⟩ (.bool true)).heap[g]? = some (.cells (bV (o.set x true)) 4 (0, 0)) := by
  rw [heap_setCell_same w g x _ _ _ h]
  congr 2
  unfold bV
  rw [List.setIfInBounds_toArray, List.map_set]
/-- A round's state in memory. -/
structure Rin (w : World) (rb : Nat) (P : List SV) (W : World) (o : List Bool) : Prop where
  row : W.heap[rb]? = some (.cells (bV o) 4 (0, 0))
  fau : W.heap[w.heap.size]? = some (.cells #[.int .i64 0, .int .i64 0] 25 (0, 0))
  below : Below w.heap.size w W
  ri : RI P o
theorem Rin.later {w : World} {rb : Nat} {P : List SV} {W W' : World} {o : List Bool} (h : Rin w rb P W o) (hb : Below W.heap.size W W') : Rin w rb P W' o := ⟨row_below h.row hb, row_below h.fau hb, h.below.trans (hb.mono h.below.size), h.ri⟩
theorem Rin.ne {w : World} {rb : Nat} {P : List SV} {W : World} {o : List Bool} (h : Rin w rb P W o) : rb ≠ w.heap.size := row_ne h.row h.fau (by decide)
theorem Rin.mark {w : World} {rb : Nat} {P : List SV} {W : World} {o : List Bool} {i x : Nat} {S : SV} (h : Rin w rb P W o) (hb : w.heap.size ≤ rb) (hS : P[i]? = some S) (hi : o[i]? = some true) (hk : (x : Int) ∈ toR P i S) (hx : o[x]? = some false) : Rin w rb P (W.setCell ⟨rb, x, none⟩ (.bool true)) (markR o (x : Int)) := by
  have e : markR o (x : Int) = o.set x true := if_pos ⟨by omega, hx⟩
  refine ⟨by rw [e]; exact bool_set h.row, (heap_setCell_other W ⟨rb, x, none⟩ w.heap.size _ (fun q => h.ne q.symm)).trans h.fau, below_cell h.below hb x _, h.ri.mark hS hi hk⟩
theorem To.set {w0 W : World} {v : Value} {xs : List Int} {rb x : Nat} {o : List Bool} (h : Row W w0.heap.size 3 1 nZ v xs) (hr : W.heap[rb]? = some (.cells (bV o) 4 (0, 0))) (u : Value) : Row (W.setCell ⟨rb, x, none⟩ u) w0.heap.size 3 1 nZ v xs := h.same fun k hk => heap_setCell_other W ⟨rb, x, none⟩ k u (by
  obtain ⟨c, hc⟩ := h.type hk
  exact row_ne hc hr (by decide))
theorem RI.start (P : List SV) (h : 0 < P.length) : RI P ((List.replicate P.length false).set 0 true) := by
  refine ⟨by simp, fun _ => by rw [List.getElem?_set, if_pos rfl, if_pos (by simpa using h)], fun i hi Q h0 _ => ?_⟩
  rw [List.getElem?_set] at hi
  split at hi
  · rename_i e; subst e; exact h0 h
  · rw [List.getElem?_replicate] at hi
    split at hi
    · cases hi
    · cases hi
theorem RI.nil (P : List SV) (h : P.length = 0) : RI P (List.replicate P.length false) := by
  refine ⟨by simp, fun q => by omega, fun i hi => ?_⟩
  rw [List.getElem?_replicate] at hi
  split at hi
  · cases hi
  · cases hi
theorem ent_len (P : List SV) (T : PT) : (entR P T).length ≤ 1 := by
  unfold entR
  split
  · split <;> simp
  · simp
theorem ents_len (P : List SV) : ∀ L : List PT, (L.flatMap (entR P)).length ≤ L.length
  | [] => Nat.le_refl _
  | T :: L => by
    rw [List.flatMap_cons, List.length_append, List.length_cons]
    have := ent_len P T
    have := ents_len P L
    omega
theorem exs_len (P : List SV) : ∀ L : List PT, (∀ x ∈ L, x.cnt ≤ 4096) → (L.flatMap fun x => x.all.flatMap (entR P)).length ≤ 4096 * L.length
  | [], _ => Nat.le_refl _
  | T :: L, h => by
    rw [List.flatMap_cons, List.length_append, List.length_cons]
    have h1 := ents_len P T.all
    have h2 := exs_len P L fun x hx => h x (List.mem_cons_of_mem _ hx)
    have h3 := h T (List.mem_cons_self ..)
    rw [T.all_length] at h1
    omega
theorem go_len (P : List SV) (i : Nat) (S : SV) : (goR P i S).length ≤ 2 := by
  unfold goR
  split
  · exact Nat.le_succ _
  · split <;> exact Nat.le_of_ble_eq_true rfl
theorem exR_len (S : SV) : S.exR.length ≤ 2 := by
  unfold SV.exR
  split
  · exact Nat.le_succ _
  · split
    · exact Nat.le_refl _
    · exact Nat.zero_le _
theorem flat_succ {α β : Type} {f : α → List β} {L : List α} {k : Nat} {x : α} (h : L[k]? = some x) : (L.take (k + 1)).flatMap f = (L.take k).flatMap f ++ f x := by
  rw [List.take_add_one, h, List.flatMap_append]
  simp
theorem ent_no {P : List SV} {T : PT} (h : ¬ (T.k = 6 ∧ blt T.nm < 0)) : entR P T = [] := if_neg h
theorem ent_yes {P : List SV} {T : PT} {d : Nat} {D : SV} (h : T.k = 6 ∧ blt T.nm < 0) (hd : rFst (defF T.nm) P 0 = (d : Int)) (hD : P[d]? = some D) : entR P T = [rFst (labF D.en) P 0] := by
  unfold entR
  rw [if_pos h, hd, Int.toNat_natCast, hD]
theorem us_calE {P : List SV} {S : SV} (h : usE P S = 0) : ∀ x ∈ S.exR, ∀ y ∈ x.all, calE P y = 0 := by
  rw [usE_eq] at h
  split at h
  · exact absurd h (by decide)
  · split at h
    · exact absurd h (by decide)
    · exact fun x hx y hy => fst0_all (fst0_all h _ (List.mem_map.2 ⟨x, hx, rfl⟩)) _ (List.mem_map.2 ⟨y, hy, rfl⟩)
theorem calE_def {P : List SV} {T : PT} (h : calE P T = 0) (hk : T.k = 6 ∧ blt T.nm < 0) : ∃ (d : Nat) (D : SV), rFst (defF T.nm) P 0 = (d : Int) ∧ P[d]? = some D := by
  rw [calE_yes hk.1, if_neg (by omega)] at h
  by_cases hd : rFst (defF T.nm) P 0 < 0
  · rw [if_pos hd] at h; exact absurd h (by decide)
  · obtain ⟨d, D, e, h1⟩ := rFst_hitD (defF T.nm) P 0 (by omega)
    exact ⟨d, D, by rw [e, Nat.zero_add], h1⟩
theorem exR_in {S : SV} {W : World} (hI : S.In W) : ∀ x ∈ S.exR, x.In W := fun x hx => by
  unfold SV.exR at hx
  split at hx
  · obtain rfl : x = S.va := by simpa using hx
    exact hI.va
  · split at hx
    · rcases List.mem_cons.1 hx with rfl | hx
      · exact hI.tg
      · obtain rfl : x = S.va := by simpa using hx
        exact hI.va
    · cases hx
theorem bne_dec (a b : Int) : (a != b) = !decide (a = b) := rfl
theorem mark_out {o : List Bool} {x : Int} (h : ¬ 0 ≤ x ∨ ¬ x < (o.length : Int)) : markR o x = o := if_neg fun q => by
  rcases h with h | h
  · exact h q.1
  · have := (List.getElem?_eq_some_iff.1 q.2).1
    omega
theorem mark_on {o : List Bool} {y : Nat} (h : o[y]? = some true) : markR o (y : Int) = o := if_neg fun q => by
  have := q.2
  rw [Int.toNat_natCast, h] at this
  cases this
theorem row_some {W : World} {B tn cap : Nat} {a : Option Addr} {tl : List Int} (hn : tn = tl.length) (h : Row W B 3 1 nZ (.slice a tn cap) tl) (hp : 0 < tn) : ∃ g, a = some ⟨g, 0, none⟩ := by
  subst hn
  exact own_some h hp
theorem row_int {W : World} {B tn cap g m : Nat} {tl : List Int} {x : Int} (hn : tn = tl.length) (h : Row W B 3 1 nZ (.slice (some ⟨g, 0, none⟩) tn cap) tl) (hx : tl[m]? = some x) : W.cell? ⟨g, m, none⟩ = some (.int .i64 x) := by
  subst hn
  have := h.cell (fun _ => rfl) rfl hx (k := 0) (u := .int .i64 x) rfl
  rw [Nat.mul_one, Nat.add_zero] at this
  exact this
theorem res_reachR (tmps : Array Value) (w : World) (g : Nat) (fs : Array Value) (hp : tmps.getD 3 undef = .pointer (some ⟨g, 0, none⟩)) (hg : w.heap[g]? = some (.cells fs 25 (0, 0))) (hfs : fs.size = 2) :
    (results Tryd.f9 tmps).run Tryd.prog w = .ok (.tuple #[tmps.getD 2 undef, .agg fs]) w := by
  have hp' : tmps[3]?.getD undef = .pointer (some ⟨g, 0, none⟩) := by simpa using hp
  have hl := run_loadVar_row w g 25 25 fs (0, 0) _ hg Tryd.underlying25 rfl (size_fau.trans (by rw [hfs]))
  simp [results, Tryd.results9, hp', asAddr, hl]
/-- What the document's Reached hands back. -/
def RPost (w : World) (P : List SV) (e : Ending) (w' : World) : Prop :=
  (((chkR P).1 ≠ 0 ∧ e = .returned (.tuple #[.slice none 0 0, .agg #[.int .i64 (chkR P).1, .int .i64 (chkR P).2]])) ∨
    ((chkR P).1 = 0 ∧ ∃ rb o, RchR P o ∧ e = .returned (.tuple #[.slice (some ⟨rb, 0, none⟩) P.length P.length, .agg #[.int .i64 0, .int .i64 0]]) ∧ w'.heap[rb]? = some (.cells (bV o) 4 (0, 0)) ∧ w.heap.size ≤ rb)) ∧ Below w.heap.size w w'
end Go.Proofs.YtpphjddljngkmaaDoor
