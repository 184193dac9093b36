/- The writer of lines: piece behind piece; expressions where only something so tight stands. A statement that leaves its order open and ends with one store that waits for all the rest: what the store changes need hold no longer. -/
import Derived.Test.YtpphjddljngkmaaGreatDoorWrDM
import Derived.Test.YtpphjddljngkmaaGreatDoorPlDM
import Derived.OrdersHeld
import Derived.StillTail
import Derived.RegionTactic
import Derived.WalkKit
import Derived.Below
import Derived.Deep.MidRow
import Derived.KernelRfl
namespace Go.Proofs.YtpphjddljngkmaaGreatDoor
open Go.RowKit

/-- What has been written since a world, piece behind piece. -/
structure Wn (B z : Nat) (W w : World) (v : Value) (o : List UInt8) (f : Bool) (T : List UInt8) (C : Nat) (w' : World) (v' : Value) (o' : List UInt8) (f' : Bool) : Prop where
  bel : Below W.heap.size W w'
  wr : WrI B z w' v' o' f'
  wx : WX z w w' v v'
  gw : Gw o T o' C
  ff : f' = (f || nl10 T)
section
variable {B z : Nat} {W w w1 w2 : World} {v v1 : Value} {o o1 T t : List UInt8} {f f1 : Bool} {C c : Nat}
theorem Wn.start (hb : Below W.heap.size W w) (hW : WrI B z w v o f) : Wn B z W w v o f [] 0 w v o f := ⟨hb, hW, WX.refl _ _ _, Gw.refl o, by rw [show nl10 [] = false from rfl, Bool.or_false]⟩
theorem Wn.below (h : Wn B z W w v o f T C w1 v1 o1 f1) (hb : Below w1.heap.size w1 w2) : Wn B z W w v o f T C w2 v1 o1 f1 := ⟨bnext h.bel hb, h.wr.below hb, h.wx.trans (WX.below hb), h.gw, h.ff⟩
theorem Wn.sub (h : Wn B z W w v o f T C w1 v1 o1 f1) (hz : W.heap.size ≤ z) (hp : WSt B z w1 v1 o1 t f1 c w2) : ∃ v2 o2 f2, Wn B z W w v o f (T ++ t) (C + c) w2 v2 o2 f2 ∧ WX z w1 w2 v1 v2 := by
  obtain ⟨v2, o2, h1, h2, h3⟩ := hp
  exact ⟨v2, o2, _, ⟨WX.bel h.bel h.wr hz h1, h2, h.wx.trans h1, h.gw.trans h3, by rw [h.ff, nl10_app, Bool.or_assoc]⟩, h1⟩
theorem Wn.done (h : Wn B z W w v o f T C w1 v1 o1 f1) (e : T = t) (hc : C ≤ c) : WSt B z w v o t f c w1 := by
  subst e
  exact ⟨v1, o1, h.wx, by rw [← h.ff]; exact h.wr, h.gw.more hc⟩
theorem Wn.len (h : Wn B z W w v o f T C w1 v1 o1 f1) {n : Nat} (hC : max o.length 140000 + C ≤ n) : o1.length ≤ n := Nat.le_trans h.gw.most hC
theorem Wn.len2 (h : Wn B z W w v o f T C w1 v1 o1 f1) {d n : Nat} (hC : max o.length 140000 + (C + d) ≤ n) : max o1.length 140000 + d ≤ n := by have := h.gw.most; omega
/-- Texts are put. -/
theorem Wn.put (h : Wn B z W w v o f T C w1 v1 o1 f1) (hE : EnvW W) (hz : W.heap.size ≤ z) (hC : max o.length 140000 + C ≤ 10000000) (l : List ByteArray) (hl : l.length ≤ 11) (hs : ∀ t ∈ l, t.size ≤ 200000) (c : Nat) (hc : (cat l).length ≤ c) :
    Calls Tryz.prog 42 #[.pointer (some ⟨z, 0, none⟩), .slice (some ⟨w1.heap.size, 0, none⟩) l.length l.length] (w1.alloc (.cells (l.map Value.string).toArray 9)) fun e w' => e = .returned (.tuple #[]) ∧ ∃ v2 o2 f2, Wn B z W w v o f (T ++ cat l) (C + c) w' v2 o2 f2 ∧ WX z w1 w' v1 v2 :=
  (put_at hE h.bel hz h.wr l hl hs (h.len hC) rfl).mono fun _ _ k => ⟨k.1, h.sub hz (k.2.st.cast rfl hc)⟩
/-- A box of another type stays. -/
theorem WX.keep {n : Nat} {cs : Array Value} {ty : TypeId} (hW : WrI B z w1 v1 o1 f1) (hx : w1.heap[n]? = some (.cells cs ty (0, 0))) (ht : ty ≠ 5) (hn : n ≠ z) {v2 : Value} (k : WX z w1 w2 v1 v2) : w2.heap[n]? = some (.cells cs ty (0, 0)) := by
  refine (k.block n (Array.getElem?_eq_some_iff.1 hx).1 hn fun e => ?_).trans hx
  rcases hW.row.2 with ⟨rfl, -⟩ | ⟨g, cap, cur, rfl, -, hg, -⟩
  · cases e
  · have e : n = g := by injection e
    subst e
    rw [hx] at hg
    injection hg with hg
    injection hg with _ hg _
    exact ht hg
end
/-- What expr and bare do of an expression. -/
def ExSays (T : PT) : Prop := ∀ (W w : World) (B z : Nat) (v : Value) (o : List UInt8) (f : Bool) (lv : Int), EnvW W → T.In W → Below W.heap.size W w → W.heap.size ≤ z → WrI B z w v o f → T.badX = 0 → max o.length 140000 + 40 * T.cnt ≤ 9000000 →
  Calls Tryz.prog 43 #[.pointer (some ⟨z, 0, none⟩), pv T, .int .i64 lv] w fun e w' => WPost B z w v o (flt (T.atl lv)) f (40 * T.cnt) e w'
def BaSays (T : PT) : Prop := ∀ (W w : World) (B z : Nat) (v : Value) (o : List UInt8) (f : Bool), EnvW W → T.In W → Below W.heap.size W w → W.heap.size ≤ z → WrI B z w v o f → T.badX = 0 → max o.length 140000 + (40 * T.cnt - 2) ≤ 9000000 →
  Calls Tryz.prog 59 #[.pointer (some ⟨z, 0, none⟩), pv T] w fun e w' => WPost B z w v o (flt T.exI) f (40 * T.cnt - 2) e w'
theorem cells5x {W : World} {g : Nat} {a b c d e : Value} {t : TypeId} (h : W.heap[g]? = some (.cells #[a, b, c, d, e] t (0, 0))) :
    W.cell? ⟨g, 0, none⟩ = some a ∧ W.cell? ⟨g, 1, none⟩ = some b ∧ W.cell? ⟨g, 2, none⟩ = some c ∧ W.cell? ⟨g, 3, none⟩ = some d ∧ W.cell? ⟨g, 4, none⟩ = some e := by
  refine ⟨?_, ?_, ?_, ?_, ?_⟩ <;> rw [cell_of_row _ _ _ _ _ _ h] <;> rfl
set_option maxRecDepth 100000 in
set_option maxHeartbeats 4000000 in
theorem expr_of {T : PT} (hba : BaSays T) : ExSays T := by
  intro W w B z v o f lv hE hT hb hz hW hbad hlen
  obtain ⟨⟨k1, k13⟩, -⟩ := errX_zero (badX_node hbad).1
  obtain ⟨K, hK⟩ : ∃ K : Nat, T.k = (K : Int) := ⟨T.k.toNat, by omega⟩
  obtain ⟨s0, s1, s2, s3, s4⟩ := (hE.shx.later hb) K (by omega) (by omega)
  have hgl : (0 : Nat) < w.heap.size := World.block_lt_of_cell? _ _ s0
  have hgl' : ¬ w.heap.size = 0 := by omega
  have h1 : ¬ (K : Int) < 0 := by omega
  have h2 : (K : Int) < 14 := by omega
  have hcp := T.cnt_pos
  have hzl : z < w.heap.size := (Array.getElem?_eq_some_iff.1 hW.blk).1
  obtain ⟨w1, hw1⟩ : ∃ w1, w1 = w.alloc (.cells #[.int .i64 (K : Int), .string T.t, .int .i64 T.n, .string T.nm, .slice T.xa T.len T.cap] 25) := ⟨_, rfl⟩
  have hal : Below w.heap.size w w1 := by rw [hw1]; exact ba _
  have hbx : w1.heap[w.heap.size]? = some (.cells #[.int .i64 (K : Int), .string T.t, .int .i64 T.n, .string T.nm, .slice T.xa T.len T.cap] 25 (0, 0)) := by rw [hw1]; exact at_new rfl
  have H1 := hide ((Wn.start hb hW).below hal)
  have HBX := hide hbx
  have HW1 : Hid (w.alloc (.cells #[.int .i64 (K : Int), .string T.t, .int .i64 T.n, .string T.nm, .slice T.xa T.len T.cap] 25) = w1) := hide (hw1.symm)
  have HBA := hide (fun (w2 : World) (v2 : Value) (o2 : List UInt8) (f2 : Bool) h3 h4 h5 => show Calls Tryz.prog 59 #[.pointer (some ⟨z, 0, none⟩), .agg #[.int .i64 (K : Int), .string T.t, .int .i64 T.n, .string T.nm, .slice T.xa T.len T.cap]] w2 fun e w' => WPost B z w2 v2 o2 (flt T.exI) f2 (40 * T.cnt - 2) e w' from by
    have := hba W w2 B z v2 o2 f2 hE hT h3 hz h4 hbad h5
    unfold pv at this
    rw [hK] at this
    exact this)
  have HLV : Hid (T.atl lv = inP (decide (levelX (K : Int) < lv)) T.exI) := hide (by unfold PT.atl; rw [hK])
  have HZ := hide (And.intro hE hz)
  have hnz : w.heap.size ≠ z := by omega
  unfold pv
  rw [hK]
  generalize levelX (K : Int) = L at *
  clear hK hbad hT hE hb hW hal hbx hw1 hba
  by_cases hlv : L < lv
  · have q : ¬ lv ≤ L := by omega
    have HT : Hid (flt (T.atl lv) = [40] ++ (flt T.exI ++ [41])) := hide (by rw [unhide HLV, decide_eq_true hlv]; show flt (sg 40 :: (T.exI ++ [sg 41])) = _; rw [flt_cons, flt_app]; rfl)
    have HP1 : Hid (Calls Tryz.prog 42 #[.pointer (some ⟨z, 0, none⟩), .slice (some ⟨w1.heap.size, 0, none⟩) 1 1] (w1.alloc (.cells #[.string ⟨#[40]⟩] 9)) _) := hide ((unhide H1).put (unhide HZ).1 (unhide HZ).2 (by omega) [sgn 40] (by simp) (fun t ht => by rw [List.mem_singleton] at ht; subst ht; exact (by decide : (1 : Nat) ≤ 200000)) 1 (by decide))
    clear hlv HLV
    obtain ⟨c0, c1, c2, c3, c4⟩ := cells5x (unhide HBX)
    have hs1 : w1.heap.size = w.heap.size + 1 := by rw [← unhide HW1, World.size_alloc]
    rw [hs1] at HP1
    clear c0 c1 c2 c3 c4 hs1
    go_enter Tryz.func43, Tryz.ntmps43
    go_wp2_with fail
    rw [unhide HW1]
    refine (unhide HP1).mono ?_
    rintro e w2 ⟨rfl, v2, o2, f2, h2, hx2⟩
    have hbx2 := hx2.keep (unhide H1).wr (unhide HBX) (by decide) hnz
    have H2 := hide h2
    obtain ⟨c0, c1, c2, c3, c4⟩ := cells5x hbx2
    have HB2 := hide (unhide HBA w2 v2 o2 f2 h2.bel h2.wr (h2.len2 (by omega)))
    clear h2 hx2 HP1 H1 hbx2 HBX
    go_wp2_with fail
    refine (unhide HB2).mono ?_
    rintro e w3 ⟨rfl, hst⟩
    obtain ⟨v3, o3, f3, h3, -⟩ := (unhide H2).sub (unhide HZ).2 hst
    have HP3 : Hid (Calls Tryz.prog 42 #[.pointer (some ⟨z, 0, none⟩), .slice (some ⟨w3.heap.size, 0, none⟩) 1 1] (w3.alloc (.cells #[.string ⟨#[41]⟩] 9)) _) := hide (h3.put (unhide HZ).1 (unhide HZ).2 (by omega) [sgn 41] (by simp) (fun t ht => by rw [List.mem_singleton] at ht; subst ht; exact (by decide : (1 : Nat) ≤ 200000)) 1 (by decide))
    clear hst h3 HB2 H2 c0 c1 c2 c3 c4
    go_wp2_with fail
    refine (unhide HP3).mono ?_
    rintro e w4 ⟨rfl, v4, o4, f4, h4, -⟩
    have HF := hide (h4.done (t := flt (T.atl lv)) (c := 40 * T.cnt) (by rw [unhide HT, cat_one, cat_one]; show [] ++ [40] ++ flt T.exI ++ [41] = _; simp) (by omega))
    go_wp2_with fail
    go_end0
    exact ⟨rfl, unhide HF⟩
  · have q : lv ≤ L := by omega
    have HT : Hid (flt (T.atl lv) = flt T.exI) := hide (by rw [unhide HLV, decide_eq_false hlv]; rfl)
    clear hlv HLV
    have HB1 := hide (unhide HBA w1 v o f (unhide H1).bel (unhide H1).wr (by omega))
    go_enter Tryz.func43, Tryz.ntmps43
    go_wp2_with fail
    rw [unhide HW1]
    refine (unhide HB1).mono ?_
    rintro e w2 ⟨rfl, hst⟩
    obtain ⟨v3, o3, f3, h3, -⟩ := (unhide H1).sub (unhide HZ).2 hst
    have HF := hide (h3.done (t := flt (T.atl lv)) (c := 40 * T.cnt) (by rw [unhide HT]; rfl) (by omega))
    clear hst h3
    go_wp2_with fail
    go_end0
    exact ⟨rfl, unhide HF⟩
end Go.Proofs.YtpphjddljngkmaaGreatDoor

namespace Go.Proofs.YtpphjddljngkmaaGreatDoor
open Go

section
variable {P : Program} {ops : Array Oper} {Q : Exit → Act → World → Prop} {S : World → Prop} {n : Nat}

/-- Whatever order: S holds behind each operation but the last one, number n. -/
def AnyE (P : Program) (ops : Array Oper) (Q : Exit → Act → World → Prop) (S : World → Prop) (n : Nat) : Nat → Array Bool → Act → World → Prop
  | 0, listed, a, w => Region.ready .any ops listed = [] ∧ Q .normal a w
  | f + 1, listed, a, w => (Region.ready .any ops listed = [] → Q .normal a w) ∧
    ∀ i ∈ Region.ready .any ops listed, wpOp P ops Q i (fun a' w' => (i ≠ n → S w') ∧ AnyE P ops Q S n f (listed.setIfInBounds i true) a' w') a w
theorem AnyE.any : ∀ (f : Nat) (listed : Array Bool) (a : Act) (w : World), AnyE P ops Q S n f listed a w → wpAny P .any ops Q f listed a w
  | 0, _, _, _, h => h
  | f + 1, _, _, _, h => ⟨h.1, fun i hi => wpOp_mono (fun a' w' k => AnyE.any f _ a' w' k.2) (h.2 i hi)⟩
/-- The last operation waits for all the others. -/
structure Sink (ops : Array Oper) (n : Nat) : Prop where
  sel : Region.noSelect ops = true
  sink : Region.sinkB .any ops n = true
  chain : Region.chainB .any ops n = true
  size : ops.size = n + 1
abbrev Inv (ops : Array Oper) (n : Nat) (listed : Array Bool) : Prop := HeadInv .any ops n listed
theorem inv_start : Inv ops n (Array.replicate ops.size false) :=
  ⟨by simp, fun j oj _ h => (by rw [getD_replicate_false] at h; cases h), fun t _ ht => (by simp [ht])⟩
theorem firstE {i : Nat} {oi : Oper} {v : Value} (F : Sink ops n) (hi : ops[i]? = some oi) (hin : i < n) (hQ : ∀ c a w, Q (.panic c) (a.put oi.dst v) w → Q (.panic c) a w) :
    ∀ (f : Nat) (listed : Array Bool) (a : Act) (w : World), Inv ops n listed →
      (∀ j oj, ops[j]? = some oj → j ≠ i → listed.getD j true = false → (∀ e ∈ oj.after, Region.binds .any e = true → e.on ≠ i) → oi.apart ops oj = true) →
      i ∈ Region.ready .any ops listed → YieldsIf P ops S oi v a → S w →
      AnyE P ops Q S n f (listed.setIfInBounds i true) (a.put oi.dst v) w → AnyE P ops Q S n (f + 1) listed a w := by
  have hsel := Region.noSelect_spec F.sel
  intro f
  induction f with
  | zero =>
    intro listed a w _ _ hr hy hS H
    refine ⟨fun h => absurd hr (by rw [h]; exact List.not_mem_nil), fun j hj => ?_⟩
    by_cases e : j = i
    · subst e
      exact hy.wpOp hi hS ⟨fun _ => hS, H⟩
    · exact absurd (ready_mono hj e) (by rw [H.1]; exact List.not_mem_nil)
  | succ f ih =>
    intro listed a w inv hfree hr hy hS H
    refine ⟨fun h => absurd hr (by rw [h]; exact List.not_mem_nil), fun j hj => ?_⟩
    by_cases e : j = i
    · subst e
      exact hy.wpOp hi hS ⟨fun _ => hS, H⟩
    · obtain ⟨hju, oj, hoj, hall⟩ := mem_ready.1 hj
      have hiu := (mem_ready.1 hr).1
      have hjl : j < ops.size := (Array.getElem?_eq_some_iff.1 hoj).1
      have hjn : j ≠ n := fun x => tail_waits F.sink F.chain (by rw [F.size]; omega) inv (n - i) i rfl hin hiu j (by omega) hj
      have hjn' : j < n := by have := F.size; omega
      have hno : ∀ e ∈ oj.after, Region.binds .any e = true → e.on ≠ i := fun e he hb x => by
        have h1 := hall e he hb
        rw [x, getD_both hiu] at h1
        cases h1
      have h2 := wpOp_putIf hoj (hfree j oj hoj e hju hno) (fun cs b => hsel i oi cs b hi) (fun cs b => hsel j oj cs b hoj) hQ hy (H.2 j (ready_mono hj e))
      refine wpOp_mono (fun a' w' h3 => ?_) h2
      obtain ⟨hy', hS', h4⟩ := h3
      refine ⟨fun _ => hS' hjn, ih (listed.setIfInBounds j true) a' w' (inv.set hj hjn') (fun k ok hk hki hun hk2 => ?_) (ready_mono hr (Ne.symm e)) hy' (hS' hjn) ?_⟩
      · refine hfree k ok hk hki ?_ hk2
        by_cases x : j = k
        · rw [← x]; exact hju
        · rw [getD_set_ne true x] at hun; exact hun
      · rw [Array.setIfInBounds_comm _ _ e]; exact h4
/-- An operation is taken first. -/
theorem takeE {i : Nat} {oi : Oper} {v : Value} {f : Nat} {listed : Array Bool} {a : Act} {w : World} (F : Sink ops n) (hi : ops[i]? = some oi) (hf : Region.free .any ops listed i = true)
    (hr : (Region.ready .any ops listed).contains i = true) (hin : decide (i < n) = true) (hQ : ∀ c a w, Q (.panic c) (a.put oi.dst v) w → Q (.panic c) a w) (hS : S w) (hy : YieldsIf P ops S oi v a)
    (h : Inv ops n (listed.setIfInBounds i true) → AnyE P ops Q S n f (listed.setIfInBounds i true) (a.put oi.dst v) w) : Inv ops n listed → AnyE P ops Q S n (f + 1) listed a w := fun inv =>
  have hr' : i ∈ Region.ready .any ops listed := by simpa using hr
  firstE F hi (of_decide_eq_true hin) hQ f listed a w inv (Region.free_spec hi hf) hr' hy hS (h (inv.set hr' (of_decide_eq_true hin)))
/-- One operation alone may come up, and is carried out. -/
theorem stepE {i : Nat} {o : Oper} {f : Nat} {listed : Array Bool} {a : Act} {w : World} (hr : Region.ready .any ops listed = [i]) (hi : ops[i]? = some o) (hin : decide (i < n) = true)
    (h : ∀ K : Act → World → Prop, (∀ a' w', S w' → (Inv ops n (listed.setIfInBounds i true) → AnyE P ops Q S n f (listed.setIfInBounds i true) a' w') → K a' w') →
      if Region.wanted o (yielded ops a.tmps) = true then Oper.wp P o a w K Q else K (a.put o.dst undef) w) : Inv ops n listed → AnyE P ops Q S n (f + 1) listed a w := fun inv =>
  ⟨fun h0 => absurd (hr ▸ h0) (by simp), fun j hj => by
    have hj' : j = i := by rw [hr] at hj; simpa using hj
    subst hj'
    exact wpOp_step hi fun K hK => h K fun a' w' hS hA => hK a' w' ⟨fun _ => hS, hA (inv.set hj (of_decide_eq_true hin))⟩⟩
/-- The last operation. -/
theorem lastE {o : Oper} {f : Nat} {listed : Array Bool} {a : Act} {w : World} (hr : Region.ready .any ops listed = [n]) (hi : ops[n]? = some o) (hd : Region.ready .any ops (listed.setIfInBounds n true) = [])
    (h : ∀ K : Act → World → Prop, (∀ a' w', Q .normal a' w' → K a' w') →
      if Region.wanted o (yielded ops a.tmps) = true then Oper.wp P o a w K Q else K (a.put o.dst undef) w) : Inv ops n listed → AnyE P ops Q S n (f + 1) listed a w := fun _ =>
  ⟨fun h0 => absurd (hr ▸ h0) (by simp), fun j hj => by
    have hj' : j = n := by rw [hr] at hj; simpa using hj
    subst hj'
    refine wpOp_step hi fun K hK => h K fun a' w' hq => hK a' w' ⟨fun x => absurd rfl x, ?_⟩
    cases f with
    | zero => exact ⟨hd, hq⟩
    | succ f => exact ⟨fun _ => hq, by rw [hd]; exact fun _ h => absurd h List.not_mem_nil⟩⟩
theorem takeR {f : Nat} {listed : Array Bool} {a : Act} {w : World} (F : Sink ops n) (i : Nat) {oi : Oper} {v : Value} {S' : World → Prop} (H : RowKit.Hid (S = S')) (hS : S w)
    (h : Inv ops n (listed.setIfInBounds i true) → AnyE P ops Q S n f (listed.setIfInBounds i true) (a.put oi.dst v) w)
    (hi : ops[i]? = some oi := by rfl) (hf : Region.free .any ops listed i = true := by kernel_rfl) (hr : (Region.ready .any ops listed).contains i = true := by kernel_rfl) (hin : decide (i < n) = true := by rfl)
    (hw : Region.wanted oi (yielded ops a.tmps) = true := by rfl)
    (hy : ∀ w, S' w → (execOp a.eval oi).run P w = .ok (.value v) w := by intro w hSw; (try dsimp only at hSw); go_split_ands; (go_simp <;> (try with_reducible rfl)))
    (hQ : ∀ c a w, Q (.panic c) (a.put oi.dst v) w → Q (.panic c) a w := by exact fun _ _ _ h => h) : Inv ops n listed → AnyE P ops Q S n (f + 1) listed a w :=
  takeE F hi hf hr hin hQ hS (Or.inl ⟨hw, fun w h => hy w (by rw [show S = S' from H] at h; exact h)⟩) h
theorem stepQ (i : Nat) {o : Oper} {f : Nat} {listed : Array Bool} {a : Act} {w : World}
    (h : ∀ K : Act → World → Prop, (∀ a' w', S w' → (Inv ops n (listed.setIfInBounds i true) → AnyE P ops Q S n f (listed.setIfInBounds i true) a' w') → K a' w') →
      if Region.wanted o (yielded ops a.tmps) = true then Oper.wp P o a w K Q else K (a.put o.dst undef) w)
    (hr : Region.ready .any ops listed = [i] := by kernel_rfl) (hi : ops[i]? = some o := by rfl) (hin : decide (i < n) = true := by rfl) : Inv ops n listed → AnyE P ops Q S n (f + 1) listed a w :=
  stepE hr hi hin h
theorem startE {id : Nat} {a : Act} {w : World} (hm : P.follows .mixedOrders = true) (n : Nat) (S : World → Prop) (F : Sink ops n) (h : Sink ops n → Inv ops n (Array.replicate ops.size false) → AnyE P ops Q S n ops.size (Array.replicate ops.size false) a w.drew) : (Code.region id ops true).wp P Q a w :=
  wp_region_any hm (AnyE.any _ _ _ _ (h F inv_start))
theorem startQ {id : Nat} {a : Act} {w : World} (n : Nat) (S : World → Prop) (h : Sink ops n → Inv ops n (Array.replicate ops.size false) → AnyE P ops Q S n ops.size (Array.replicate ops.size false) a w.drew)
    (hm : P.follows .mixedOrders = true := by kernel_rfl) (h1 : Region.noSelect ops = true := by kernel_rfl) (h2 : Region.sinkB .any ops n = true := by kernel_rfl) (h3 : Region.chainB .any ops n = true := by kernel_rfl) (h4 : ops.size = n + 1 := by rfl) : (Code.region id ops true).wp P Q a w :=
  startE hm n S ⟨h1, h2, h3, h4⟩ h
end
end Go.Proofs.YtpphjddljngkmaaGreatDoor
