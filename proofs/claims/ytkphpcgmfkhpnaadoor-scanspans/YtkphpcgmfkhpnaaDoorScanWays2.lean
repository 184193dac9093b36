/- What is told ahead of all else, where there are no rules. What slices.Clone makes of gifts: a row of its own with the same. What Ways does, where there are no rules: what is wrong, or the ways that are told. -/
import Derived.Test.YtkphpcgmfkhpnaaDoorPatBelow
import Derived.Test.YtkphpcgmfkhpnaaDoorScanRep
import Derived.Lib.BufferMore
import Derived.Test.YtkphpcgmfkhpnaaDoorScanTell2
import Derived.Test.YtkphpcgmfkhpnaaDoorScanNew
import Derived.Test.YtkphpcgmfkhpnaaDoorScanBegin
import Derived.Deep.RegionHeld3
import Derived.Deep.QuietTactic
import Derived.BigQuiet
namespace Go.Proofs.YtkphpcgmfkhpnaaDoor
open Go.RowKit

set_option maxRecDepth 100000 in
set_option maxHeartbeats 1000000 in
theorem rules_none (w : World) : Calls Tryd.prog 23 #[.slice none 0 0] w fun e w' => e = .returned (.int .i64 0) ∧ w' = w := by
  go_enter Tryd.func23, Tryd.ntmps23
  go_wp2_with fail
  go_loop [11] (fun i => i = .int .i64 0) (fun _ => 0)
  case atStart => rfl
  case round =>
    subst hrel
    go_wp2_with fail
    go_ret
    exact ⟨rfl, rfl⟩

/-- What is wrong, without rules. -/
def wrongNone (T : PT) (s : ByteArray) (fuel : Int) : Int := if T.wrong ≠ 0 then T.wrong else if 65536 < s.size then 4 else if fuel < 0 ∨ 100000 < fuel then 3 else 0

set_option maxRecDepth 100000 in
set_option maxHeartbeats 1000000 in
theorem wrong_none (T : PT) (s : ByteArray) (fuel : Int) (w : World) (hT : T.In w) (hS : Shapes w) (hs : s.size ≤ maxLen) :
    Calls Tryd.prog 15 #[.slice none 0 0, pv T, .string s, .int .i64 fuel] w fun e w' => e = .returned (.int .i64 (wrongNone T s fuel)) ∧ Below w.heap.size w w' := by
  unfold maxLen at hs
  have HW := hide (fun W (h : Below w.heap.size w W) => wrong_any T W (PT.In.later h hT) (hS.later h))
  have hb0 : Below w.heap.size w (w.alloc (.cells #[.int .i64 T.k, .string T.t, .int .i64 T.n, .string T.nm, .slice T.xa T.len T.cap] 26)) := (Below.refl _ _).alloc (Nat.le_refl _) _
  have HB0 := hide hb0
  unfold pv at HW ⊢
  clear hT hS hb0
  obtain ⟨q, hq⟩ : ∃ q, q = T.wrong := ⟨_, rfl⟩
  have HQ := hide hq
  rw [← hq] at HW
  clear hq
  by_cases h0 : q = 0
  · subst h0
    rcases (show 65536 < s.size ∨ (s.size ≤ 65536 ∧ fuel < 0) ∨ (s.size ≤ 65536 ∧ 0 ≤ fuel ∧ 100000 < fuel) ∨ (s.size ≤ 65536 ∧ 0 ≤ fuel ∧ fuel ≤ 100000) by omega) with h | ⟨h, h1⟩ | ⟨h, h1, h2⟩ | ⟨h, h1, h2⟩
    · have hl : (65536 : Int) < (s.size : Int) := by omega
      have HE := hide (show wrongNone T s fuel = 4 by unfold wrongNone; rw [if_neg (by rw [← unhide HQ]; simp), if_pos h])
      go_enter Tryd.func15, Tryd.ntmps15
      go_wp2_with (first | (go_at_call 22; refine (unhide HW _ (unhide HB0)).mono ?_; rintro e w1 ⟨rfl, hb1⟩) | (go_at_call 23; refine (rules_none _).mono ?_; rintro e w1 ⟨rfl, rfl⟩))
      go_ret
      exact ⟨(by rw [unhide HE]; rfl), bnext (unhide HB0) hb1⟩
    · have hl : ¬ (65536 : Int) < (s.size : Int) := by omega
      have HE := hide (show wrongNone T s fuel = 3 by unfold wrongNone; rw [if_neg (by rw [← unhide HQ]; simp), if_neg (by omega), if_pos (by omega)])
      go_enter Tryd.func15, Tryd.ntmps15
      go_wp2_with (first | (go_at_call 22; refine (unhide HW _ (unhide HB0)).mono ?_; rintro e w1 ⟨rfl, hb1⟩) | (go_at_call 23; refine (rules_none _).mono ?_; rintro e w1 ⟨rfl, rfl⟩))
      go_ret
      exact ⟨(by rw [unhide HE]; rfl), bnext (unhide HB0) hb1⟩
    · have hl : ¬ (65536 : Int) < (s.size : Int) := by omega
      have h1' : decide (fuel < 0) = false := by simp; omega
      have HE := hide (show wrongNone T s fuel = 3 by unfold wrongNone; rw [if_neg (by rw [← unhide HQ]; simp), if_neg (by omega), if_pos (by omega)])
      go_enter Tryd.func15, Tryd.ntmps15
      go_wp2_with (first | (go_at_call 22; refine (unhide HW _ (unhide HB0)).mono ?_; rintro e w1 ⟨rfl, hb1⟩) | (go_at_call 23; refine (rules_none _).mono ?_; rintro e w1 ⟨rfl, rfl⟩))
      go_ret
      exact ⟨(by rw [unhide HE]; rfl), bnext (unhide HB0) hb1⟩
    · have hl : ¬ (65536 : Int) < (s.size : Int) := by omega
      have h1' : decide (fuel < 0) = false := by simp; omega
      have h2' : ¬ (100000 : Int) < fuel := by omega
      have HE := hide (show wrongNone T s fuel = 0 by unfold wrongNone; rw [if_neg (by rw [← unhide HQ]; simp), if_neg (by omega), if_neg (by omega)])
      go_enter Tryd.func15, Tryd.ntmps15
      go_wp2_with (first | (go_at_call 22; refine (unhide HW _ (unhide HB0)).mono ?_; rintro e w1 ⟨rfl, hb1⟩) | (go_at_call 23; refine (rules_none _).mono ?_; rintro e w1 ⟨rfl, rfl⟩))
      go_ret
      exact ⟨(by rw [unhide HE]; rfl), bnext (unhide HB0) hb1⟩
  · have h3 : (q != 0) = true := by rw [bne_iff_ne]; exact h0
    have HE := hide (show wrongNone T s fuel = q by unfold wrongNone; rw [if_pos (by rw [← unhide HQ]; exact h0), ← unhide HQ])
    clear h0
    go_enter Tryd.func15, Tryd.ntmps15
    go_wp2_with (first | (go_at_call 22; refine (unhide HW _ (unhide HB0)).mono ?_; rintro e w1 ⟨rfl, hb1⟩) | (go_at_call 23; refine (rules_none _).mono ?_; rintro e w1 ⟨rfl, rfl⟩))
    go_ret
    exact ⟨(by rw [unhide HE]; rfl), bnext (unhide HB0) hb1⟩
end Go.Proofs.YtkphpcgmfkhpnaaDoor

namespace Go.Proofs.YtkphpcgmfkhpnaaDoor
open Go.RowKit

theorem info_gift' : ∃ i, Tryd.prog.info? 61 = some i ∧ i.zero = some (.agg #[.string ⟨#[]⟩, .string ⟨#[]⟩]) ∧ i.size = 2 ∧ i.bytes = 32 := by
  have hinf := info_gift
  cases hi : Tryd.prog.info? 61 with
  | none => simp [hi] at hinf
  | some i =>
    simp only [hi, Option.map_some, Option.some.injEq, Prod.mk.injEq] at hinf
    exact ⟨i, rfl, hinf⟩
/-- An append of many to an empty row. -/
theorem wpList_many {w : World} {ops : Array Oper} {rest : List Oper} {o : Oper} {a : Act} {Q : Exit → Act → World → Prop} (hgd : o.guard = none) (s x : Operand)
    (ho : o.op = .call { callee := .builtin .append, args := #[s, x], argTypes := #[35, 35] }) {B g cap n : Nat} {v : Value} {l : List Gft} (hn : n = l.length) (h : w.ownsRow B 61 2 v 0 []) (hB : B ≤ w.heap.size) (hs : a.eval s = v) (hx : a.eval x = .slice (some ⟨g, 0, none⟩) n cap) (hc : ∀ j u, (flat gfV l)[j]? = some u → w.cell? ((⟨g, 0, none⟩ : Addr).add j) = some u) (hl : l.length ≤ 1000000)
    (hK : ∀ v' w', Row w' B 61 2 gfV v' l → w.grownBy w' v.ownBlock → wpList Tryd.prog ops Q rest (a.put o.dst v') w') : wpList Tryd.prog ops Q (o :: rest) a w := by
  refine wpList_plain hgd fun K hK' => ?_
  subst hn
  obtain ⟨i, hi, hz0, hz1, hz2⟩ := info_gift'
  obtain ⟨v', w', hr, h2, h3, -, -⟩ := run_append_own_at (P := Tryd.prog) w B 35 o.type 61 i _ 2 32 Tryd.underlying35 hi hz0 hz1 hz2 rfl (by decide) v 0 [] h ⟨g, 0, none⟩ l.length cap (flat gfV l) (flat_len gfV_len l) hc (fun u hu => by
    obtain ⟨x, _, hx⟩ := List.mem_flatMap.1 hu
    exact gfV_one x u hx) (by unfold maxLen; omega) (by omega) hB
  unfold Oper.wp execOp
  simp only [ho, resolve, invoke, builtin, Sem.run_bind, Sem.run_pure, Result.andThen_ok, List.map_toArray, List.map_cons, List.map_nil, hs, hx, hr]
  refine hK' _ _ (hK v' w' ?_ h3)
  unfold Row
  rw [Nat.zero_add, List.nil_append] at h2
  exact h2

set_option maxRecDepth 100000 in
set_option maxHeartbeats 1000000 in
theorem gifts_clone {w : World} {B : Nat} {v : Value} {G : List Gft} (h : Row w B 61 2 gfV v G) (hl : G.length ≤ 1000000) :
    Calls Tryd.prog 20 #[v] w fun e w' => ∃ v', e = .returned v' ∧ Row w' w.heap.size 61 2 gfV v' G ∧ Below w.heap.size w w' := by
  rcases h.2 with ⟨rfl, h0⟩ | ⟨g, cap, cur, hv, hbg, hg, hnc, hcm, hcs, htake⟩
  · have hG : G = [] := List.eq_nil_of_length_eq_zero h0
    subst hG
    have hnil : ∀ W, (binOp .eql 35 (.slice none 0 0) (.slice none 0 0)).run Tryd.prog W = .ok (.bool true) W := fun W => Lib.run_eql_slice_nil_nil W _ _ Tryd.underlying35
    go_enter Tryd.func20, Tryd.ntmps20
    go_wp2_with fail
    go_ret
    exact ⟨_, rfl, World.ownsRow_nil w _ _ 2, Below.refl _ _⟩
  · subst hv
    have hb1 : Below w.heap.size w (w.alloc (.cells #[] 61)) := (Below.refl _ _).alloc (Nat.le_refl _) _
    have hown : (w.alloc (.cells #[] 61)).ownsRow w.heap.size 61 2 (.slice (some ⟨w.heap.size, 0, none⟩) 0 0) 0 [] := ⟨rfl, .inr ⟨w.heap.size, 0, #[], rfl, Nat.le_refl _, at_new rfl, Nat.le_refl _, Nat.zero_le _, rfl, rfl⟩⟩
    have hcl : ∀ j u, (flat gfV G)[j]? = some u → (w.alloc (.cells #[] 61)).cell? ((⟨g, 0, none⟩ : Addr).add j) = some u := fun j u hj => cell_later hb1 (World.ownsRow.cells h rfl j u hj)
    have HH := hide (And.intro hb1 (And.intro hown hcl))
    clear hb1 hown hcl h hg hcs htake
    have hnil : ∀ W, (binOp .eql 35 (.slice (some ⟨g, 0, none⟩) G.length cap) (.slice none 0 0)).run Tryd.prog W = .ok (.bool false) W := fun W => Lib.run_eql_slice_some_nil W _ _ _ Tryd.underlying35
    go_enter Tryd.func20, Tryd.ntmps20
    go_wp2_with (refine wpList_many rfl (.tmp 5) (.tmp 6) rfl (l := G) (g := g) (cap := cap) (n := G.length) (B := w.heap.size) (v := .slice (some ⟨w.heap.size, 0, none⟩) 0 0) rfl (unhide HH).2.1 (unhide HH).1.size (by simp [Act.eval]) (by simp [Act.eval]) (unhide HH).2.2 hl ?_; intro v' w9 hr9 hg9; have H9 := hide (And.intro hr9 hg9); clear hr9 hg9)
    go_ret
    obtain ⟨hr9, hg9⟩ := unhide H9
    exact ⟨v', rfl, hr9, Below.grown (unhide HH).1 hg9 (unhide HH).1.size (fun i hi => by have hi : some w.heap.size = some i := hi; injection hi with hi; omega)⟩
end Go.Proofs.YtkphpcgmfkhpnaaDoor

namespace Go.Proofs.YtkphpcgmfkhpnaaDoor
open Go.RowKit

def noRules : ByteArray → Option PT := fun _ => none
/-- What is told of the ways of a pattern at a place: k at most, with fuel f. -/
def told (dg : Nat → ByteArray) (T : PT) (s : ByteArray) (i k f : Nat) : List (Nat × List Gft) × Nat := tld (D s noRules dg (f + 1) T i []).1 (D s noRules dg (f + 1) T i []).2 k f
/-- What Ways tells, without rules. -/
def waysOf (dg : Nat → ByteArray) (T : PT) (s : ByteArray) (i k f : Int) : List (Nat × List Gft) × Bool × Int :=
  if wrongNone T s f ≠ 0 then ([], false, wrongNone T s f)
  else if i < 0 ∨ (s.size : Int) < i ∨ k < 0 ∨ 4096 < k then ([], false, 3)
  else if (told dg T s i.toNat k.toNat f.toNat).2 = 10 then ([], false, 10)
  else ((told dg T s i.toNat k.toNat f.toNat).1, decide ((told dg T s i.toNat k.toNat f.toNat).2 = 1), 0)
theorem winv_start {rn : ByteArray → Int} {dg : Nat → ByteArray} {T : PT} {s : ByteArray} {i k f B B1 g nd : Nat} {w0 w : World} {m : MS} {N : List Nd} {O : List Int} {S : List Gft} (r : Rep w B1 g m N O [] [] [] S) (h1 : m.begun = false) (h2 : m.s = s) (h3 : m.fuel = f) (h4 : m.ticks = 0) (h5 : m.shut = false) (h6 : m.err = 0) (h7 : m.b = -1) (h8 : m.i = i) (h9 : m.node = nd) (hl : Lies rn N T nd) (hns : NS w s N) (hF : FineS T) (hf : f ≤ 100000) (hi : i ≤ s.size) (hs : s.size ≤ 65536) (hb : Below B w0 w) :
    WInv ⟨s, noRules, dg, rn, f, k, B, B1, g, w0, D s noRules dg (f + 1) T i []⟩ [] (.slice none 0 0) w := by
  refine ⟨0, D s noRules dg (f + 1) T i [], m, N, .inl ⟨m, N, O, S, f + 1, T, r, h1, h2, h3, hf, ?_, h4, ?_, hs, h5, h6, h7, Fr.refl _ _ _, ?_, hF, Nat.le_refl _, ?_, ⟨rfl, rfl, rfl, Same.refl _⟩, hns⟩, ⟨⟨World.ownsRow_nil w _ _ 2, (fun _ h => by cases h)⟩, (fun _ h => by cases h), hb⟩, Nat.zero_le _, ⟨N, O, [], [], [], S, r⟩, rfl⟩
  · show m.ticks ≤ f; omega
  · show m.i ≤ s.size; omega
  · rw [h9]; exact hl
  · show D s noRules dg (f + 1) T i [] = dCome s noRules dg (f + 1) T m.i [] [] []
    rw [h8, dCome_top]

theorem fresh_ns {w : World} {s : ByteArray} {N : List Nd} (h : Fresh N) : NS w s N := fun i x hx => by
  obtain ⟨h1, h2⟩ := h i x hx
  exact ⟨(fun b hb => by rw [h1] at hb; cases hb), (fun q => .inl (h2 (by omega))), (fun q => .inl (h2 (by omega)))⟩
/-- A way is put behind the others. -/
theorem held_more {Y : WC} {m : MS} {w w1 w2 w3 : World} {v v' v3 : Value} {L : List Wv} {N : List Nd} {O : List Int} {W : List Wr} {C : List Cr} {G S : List Gft} (hB0 : Y.B ≤ Y.w0.heap.size) (r : Rep w Y.B1 Y.g m N O W C G S) (h : Held Y m w v L) (hv : Row w1 w.heap.size 61 2 gfV v' G) (hb1 : Below w.heap.size w w1) (hb2 : Below w1.heap.size w1 w2) {y : Wv} (hyG : y.G = G) (hyv : y.gv = v') (hr3 : Row w3 Y.B 37 2 wyV v3 (L ++ [y])) (hg3 : w2.grownBy w3 v.ownBlock) (hns : NS w Y.s N) : Rep w3 Y.B1 Y.g m N O W C G S ∧ Held Y m w3 v3 (L ++ [y]) ∧ NS w3 Y.s N := by
  have r1 := r.later (bnext hb1 hb2)
  have hw2 := h.ways.later (bnext hb1 hb2)
  have hsz := Nat.le_trans hb1.size hb2.size
  refine ⟨⟨r.low, grown_blk r1.blk (fun j hj => hw2.row.type hj) (by decide) hg3, r1.nodes.keep hw2.row (by decide) hg3, r1.roots.keep hw2.row (by decide) hg3, r1.works.keep hw2.row (by decide) hg3, r1.choices.keep hw2.row (by decide) hg3, r1.given.keep hw2.row (by decide) hg3, r1.said.keep hw2.row (by decide) hg3, r.apart, Nat.le_trans r1.base hg3.size⟩, ⟨⟨hr3, fun x hx => ?_⟩, fun x hx k hk q => ?_, ?_⟩, fun i x hx => ⟨fun b hb => grown_blk (row_below ((hns i x hx).1 b hb) (bnext hb1 hb2)) (fun j hj => hw2.row.type hj) (by decide) hg3, (hns i x hx).2⟩⟩
  · rcases List.mem_append.1 hx with hx | hx
    · exact (hw2.gifts x hx).keep hw2.row (by decide) hg3
    · rw [List.mem_singleton] at hx
      subst hx
      have hq := ((hv.later hb2).keep hw2.row (by decide) hg3)
      rw [hyv, hyG]
      refine ⟨hq.1, ?_⟩
      rcases hq.2 with q | ⟨g, cap, cur, q1, q2, q3⟩
      · exact .inl q
      · exact .inr ⟨g, cap, cur, q1, Nat.le_trans (Nat.le_trans hB0 h.below.size) q2, q3⟩
  · rcases List.mem_append.1 hx with hx | hx
    · exact h.apart x hx k hk q
    · rw [List.mem_singleton] at hx
      subst hx
      rw [hyv] at hk
      have hlo := (hv.low hk).1
      have hlt := r.lt
      rcases q with q | q | q | q | q | q | q
      · omega
      · have := (r.nodes.low q).2; omega
      · have := (r.roots.low q).2; omega
      · have := (r.works.low q).2; omega
      · have := (r.choices.low q).2; omega
      · have := (r.given.low q).2; omega
      · have := (r.said.low q).2; omega
  · exact below_grown (bel_trans h.below ((bnext hb1 hb2).mono (Nat.le_trans hB0 h.below.size)) hB0) hw2.row hB0 hg3

/-- How Ways ends. -/
def WaysPost (dg : Nat → ByteArray) (T : PT) (s : ByteArray) (i k f : Int) (w : World) (e : Ending) (w' : World) : Prop :=
  ∃ v L cut err, e = .returned (.tuple #[v, .bool cut, .int .i64 err]) ∧ WaysAt w' w.heap.size v L ∧ Below w.heap.size w w' ∧ (L.map Wv.pr, cut, err) = waysOf dg T s i k f
theorem waysPost_err {dg : Nat → ByteArray} {T : PT} {s : ByteArray} {i k f : Int} {w w' : World} {err : Int} (h : waysOf dg T s i k f = ([], false, err)) (hb : Below w.heap.size w w') : WaysPost dg T s i k f w (.returned (.tuple #[.slice none 0 0, .bool false, .int .i64 err])) w' :=
  ⟨_, [], _, _, rfl, ⟨World.ownsRow_nil w' _ _ 2, (fun _ h => by cases h)⟩, hb, h.symm⟩

set_option maxRecDepth 100000 in
set_option maxHeartbeats 1000000 in
theorem ways_wrong (dg : Nat → ByteArray) (T : PT) (s : ByteArray) (i k f : Int) (w : World) (hT : T.In w) (hS : Shapes w) (hs : s.size ≤ maxLen) (hq : wrongNone T s f ≠ 0) :
    Calls Tryd.prog 13 #[.slice none 0 0, pv T, .string s, .int .i64 i, .int .i64 k, .int .i64 f] w (WaysPost dg T s i k f w) := by
  have hb0 : Below w.heap.size w (w.alloc (.cells #[.int .i64 T.k, .string T.t, .int .i64 T.n, .string T.nm, .slice T.xa T.len T.cap] 26)) := (Below.refl _ _).alloc (Nat.le_refl _) _
  have HW := hide (wrong_none T s f _ (PT.In.later hb0 hT) (hS.later hb0) hs)
  have HB0 := hide hb0
  have HE := hide (show waysOf dg T s i k f = ([], false, wrongNone T s f) by unfold waysOf; rw [if_pos hq])
  unfold pv at HW ⊢
  obtain ⟨q, hqq⟩ : ∃ q, q = wrongNone T s f := ⟨_, rfl⟩
  rw [← hqq] at hq HE HW
  clear hT hS hb0 hs hqq
  go_enter Tryd.func13, Tryd.ntmps13
  go_wp2_with (go_at_call 15; refine (unhide HW).mono ?_; rintro e w1 ⟨rfl, hb1⟩)
  go_ret3
  exact waysPost_err (unhide HE) (bnext (unhide HB0) hb1)

set_option maxRecDepth 100000 in
set_option maxHeartbeats 1000000 in
theorem ways_range (dg : Nat → ByteArray) (T : PT) (s : ByteArray) (i k f : Int) (w : World) (hT : T.In w) (hS : Shapes w) (hs : s.size ≤ maxLen) (hq : wrongNone T s f = 0) (hr : i < 0 ∨ (s.size : Int) < i ∨ k < 0 ∨ 4096 < k) :
    Calls Tryd.prog 13 #[.slice none 0 0, pv T, .string s, .int .i64 i, .int .i64 k, .int .i64 f] w (WaysPost dg T s i k f w) := by
  have hb0 : Below w.heap.size w (w.alloc (.cells #[.int .i64 T.k, .string T.t, .int .i64 T.n, .string T.nm, .slice T.xa T.len T.cap] 26)) := (Below.refl _ _).alloc (Nat.le_refl _) _
  have HW := hide (wrong_none T s f _ (PT.In.later hb0 hT) (hS.later hb0) hs)
  have HB0 := hide hb0
  have HE := hide (show waysOf dg T s i k f = ([], false, 3) by unfold waysOf; rw [if_neg (by rw [hq]; simp), if_pos hr])
  unfold pv at HW ⊢
  rw [hq] at HW
  clear hT hS hb0 hs hq
  rcases (show i < 0 ∨ (¬ i < 0 ∧ (s.size : Int) < i) ∨ (¬ i < 0 ∧ ¬ (s.size : Int) < i ∧ k < 0) ∨ (¬ i < 0 ∧ ¬ (s.size : Int) < i ∧ ¬ k < 0 ∧ 4096 < k) by omega) with h | ⟨h, h1⟩ | ⟨h, h1, h2⟩ | ⟨h, h1, h2, h3⟩
  all_goals
    clear hr
    go_enter Tryd.func13, Tryd.ntmps13
    go_wp2_with (go_at_call 15; refine (unhide HW).mono ?_; rintro e w1 ⟨rfl, hb1⟩)
    go_ret3
    exact waysPost_err (unhide HE) (bnext (unhide HB0) hb1)

theorem wend_err {dg : Nat → ByteArray} {T : PT} {s : ByteArray} {i k f : Nat} {x : List (Nat × List Gft) × Nat} (he : waysOf dg T s i k f = if (told dg T s i k f).2 = 10 then ([], false, 10) else ((told dg T s i k f).1, decide ((told dg T s i k f).2 = 1), 0)) (ht : x = told dg T s i k f) (h : x.2 = 10) : waysOf dg T s i k f = ([], false, 10) := by
  rw [he, if_pos (by rw [← ht, h])]
theorem wend_ok {dg : Nat → ByteArray} {T : PT} {s : ByteArray} {i k f : Nat} {x : List (Nat × List Gft) × Nat} {L : List Wv} {b : Bool} (he : waysOf dg T s i k f = if (told dg T s i k f).2 = 10 then ([], false, 10) else ((told dg T s i k f).1, decide ((told dg T s i k f).2 = 1), 0)) (ht : x = told dg T s i k f) (h : x = (L.map Wv.pr, if b = true then 1 else 0)) : (L.map Wv.pr, b, 0) = waysOf dg T s i k f := by
  rw [he, ← ht, h]
  cases b <;> simp
theorem wend_below {Y : WC} {m : MS} {w w' : World} {v : Value} {L : List Wv} (h1 : Y.B = w.heap.size) (h2 : Y.w0 = w) (h : Held Y m w' v L) : Below w.heap.size w w' := by
  have := h.below
  rw [h1, h2] at this
  exact this
theorem wend_ways {Y : WC} {m : MS} {w w' : World} {v : Value} {L : List Wv} (h1 : Y.B = w.heap.size) (h : Held Y m w' v L) : WaysAt w' w.heap.size v L := by
  have := h.ways
  rw [h1] at this
  exact this

set_option maxRecDepth 100000 in
set_option maxHeartbeats 4000000 in
theorem ways_run (rn : ByteArray → Int) (dg : Nat → ByteArray) (T : PT) (s : ByteArray) (i k f : Nat) (w : World) (hT : T.In w) (hS : Shapes w) (hs : s.size ≤ maxLen) (hq : wrongNone T s f = 0) (hi : i ≤ s.size) (hk : k ≤ 4096) (hcn : T.cnt ≤ 100000) (hBare : Bare T) (hF : FineS T) :
    Calls Tryd.prog 13 #[.slice none 0 0, pv T, .string s, .int .i64 (i : Int), .int .i64 (k : Int), .int .i64 (f : Int)] w (WaysPost dg T s i k f w) := by
  have hb0 : Below w.heap.size w (w.alloc (.cells #[.int .i64 T.k, .string T.t, .int .i64 T.n, .string T.nm, .slice T.xa T.len T.cap] 26)) := (Below.refl _ _).alloc (Nat.le_refl _) _
  have HW := hide (wrong_none T s f _ (PT.In.later hb0 hT) (hS.later hb0) hs)
  obtain ⟨hs6, hf6⟩ : s.size ≤ 65536 ∧ f ≤ 100000 := by
    unfold wrongNone at hq
    split at hq
    · contradiction
    · split at hq
      · cases hq
      · split at hq
        · cases hq
        · omega
  have HN := hide (fun W (h : Below w.heap.size w W) => new_none rn T s f 0 W (PT.In.later h hT) hs6 hcn hBare)
  have HB0 := hide hb0
  have HE := hide (show waysOf dg T s i k f = if (told dg T s i k f).2 = 10 then ([], false, 10) else ((told dg T s i k f).1, decide ((told dg T s i k f).2 = 1), 0) by
    unfold waysOf
    rw [if_neg (by rw [hq]; simp), if_neg (by omega)]
    simp only [Int.toNat_natCast])
  have HF := hide hF
  have hi1 : ¬ (i : Int) < 0 := by omega
  have hi2 : ¬ (s.size : Int) < (i : Int) := by omega
  have hk1 : ¬ (k : Int) < 0 := by omega
  have hk2 : ¬ (4096 : Int) < (k : Int) := by omega
  unfold pv at HW HN ⊢
  rw [hq] at HW
  clear hT hS hb0 hs hq hBare hF hcn
  go_enter Tryd.func13, Tryd.ntmps13
  go_wp2_with fail
  refine (unhide HW).mono ?_
  rintro e w1 ⟨rfl, hb1⟩
  have hbx : w1.heap[w.heap.size]? = some (.cells #[.int .i64 T.k, .string T.t, .int .i64 T.n, .string T.nm, .slice T.xa T.len T.cap] 26 (0, 0)) := row_below (at_new (w := w) rfl) hb1
  have z0 : w1.cell? ⟨w.heap.size, 0, none⟩ = some (.int .i64 T.k) := by rw [cell_of_row _ _ _ _ _ _ hbx]; rfl
  have z1 : w1.cell? ⟨w.heap.size, 1, none⟩ = some (.string T.t) := by rw [cell_of_row _ _ _ _ _ _ hbx]; rfl
  have z2 : w1.cell? ⟨w.heap.size, 2, none⟩ = some (.int .i64 T.n) := by rw [cell_of_row _ _ _ _ _ _ hbx]; rfl
  have z3 : w1.cell? ⟨w.heap.size, 3, none⟩ = some (.string T.nm) := by rw [cell_of_row _ _ _ _ _ _ hbx]; rfl
  have z4 : w1.cell? ⟨w.heap.size, 4, none⟩ = some (.slice T.xa T.len T.cap) := by rw [cell_of_row _ _ _ _ _ _ hbx]; rfl
  have HB1 := hide (bnext (unhide HB0) hb1)
  clear hbx hb1 HW
  go_wp2_with fail
  refine (unhide HN w1 (unhide HB1)).mono ?_
  rintro e w2 ⟨g, m, N, rfl, r2, m1, m2, m3, m4, m5, m6, m7, m8, m9, l2, fr2, hb2⟩
  have HB2 := hide (bnext (unhide HB1) hb2)
  have HBg := hide (begin_any r2 i 0 m9)
  clear z0 z1 z2 z3 z4 HN
  go_wp2_with fail
  refine (unhide HBg).mono ?_
  rintro e w3 ⟨rfl, wv, cv, gv, r3, f3⟩
  have hw1 := (unhide HB1).size
  have hI : WInv ⟨s, noRules, dg, rn, f, k, w.heap.size, w1.heap.size, g, w, D s noRules dg (f + 1) T i []⟩ [] (.slice none 0 0) w3 :=
    winv_start r3 rfl m1 m2 m4 m6 m7 rfl rfl rfl l2 (fresh_ns fr2) (unhide HF) hf6 hi hs6 (bel_trans (unhide HB2) ((Fr.below r2 f3).mono hw1) (Nat.le_refl _))
  obtain ⟨Y, hY⟩ : ∃ Y : WC, Y = ⟨s, noRules, dg, rn, f, k, w.heap.size, w1.heap.size, g, w, D s noRules dg (f + 1) T i []⟩ := ⟨_, rfl⟩
  have hYg : Y.g = g := by rw [hY]
  have HYk := hide (show Y.most = k by rw [hY])
  have HYB := hide (show Y.B ≤ Y.B1 ∧ Y.B ≤ Y.w0.heap.size by rw [hY]; exact ⟨hw1, Nat.le_refl _⟩)
  have HYw := hide (show Y.B = w.heap.size ∧ Y.w0 = w ∧ tld Y.D.1 Y.D.2 Y.most Y.fuel = told dg T s i k f by rw [hY]; exact ⟨rfl, rfl, rfl⟩)
  rw [← hY] at hI
  have HI := hide hI
  clear hI hY f3 r3 HB2 HBg r2 m1 m2 m3 m4 m5 m6 m7 m8 m9 l2 fr2 hb2 HB1 HB0 HF hw1 hi1 hi2 hk1 hk2 hs6 hf6 hi
  subst hYg
  go_wp2_with fail
  go_loopw [12] (fun v wr => ∃ (L : List Wv) (a : Option Addr) (cap : Nat), v = .slice a L.length cap ∧ L.length ≤ k ∧ Hid (WInv Y L v wr)) (fun v _ => k - lenV v)
  case atStart => exact ⟨[], none, 0, rfl, Nat.zero_le _, HI⟩
  case round =>
    obtain ⟨L, a, cap, rfl, hL, HI⟩ := hrel
    rcases Nat.lt_or_ge L.length k with hlt | hge
    · have hlt' : (L.length : Int) < (k : Int) := by omega
      have HN := hide (next_ways (unhide HYB).1 (unhide HYB).2 (unhide HI) (by rw [unhide HYk]; exact hlt))
      go_wp2_with fail
      refine (unhide HN).mono ?_
      rintro e w4 ⟨ok, rfl, hy, hn⟩
      clear HN HI
      cases ok with
      | true =>
        obtain ⟨m, N, O, W, C, G, S, r, hh, -, hGl, hnsy, hmore⟩ := hy rfl
        have hd : Below w4.heap.size w4 w4.drew := (Below.refl _ _).drew
        have HR := hide (And.intro (r.later hd) (hh.fr (unhide HYB).1 (unhide HYB).2 r (Fr.later hd)))
        have HM := hide hmore
        have HNS := hide (show NS w4.drew Y.s N from hnsy.fr r (Fr.later hd))
        have c7 := r.c7
        have c11 := r.c11
        clear hy hn r hh hmore hd hnsy
        go_wp2_with fail
        go_region_held3 (fun w' => w'.cell? ⟨Y.g, 7, none⟩ = some (.int .i64 (m.i : Int)) ∧ w'.cell? ⟨Y.g, 11, none⟩ = some m.gv) (go_keep) (first
          | (go_at_call 20; refine (gifts_clone (unhide HR).1.given hGl).mono ?_; rintro e w5 ⟨v5, rfl, hr5, hb5⟩; obtain ⟨a5, c5, hv5, -, -⟩ := hr5.len; subst hv5; have k7 := ((unhide HR).1.later hb5).c7; have k11 := ((unhide HR).1.later hb5).c11; have H5 := hide (And.intro hr5 hb5); clear hr5 hb5)
          | (refine step_row Tryd.underlying30 info_way rfl (by decide) (by decide) wyV_len wyV_one rfl (.tmp 57) (.tmp 68) rfl (((unhide HR).2.ways.later (bnext (unhide H5).2 ((Below.refl _ _).alloc (Nat.le_refl _) _))).row) (Nat.le_trans (unhide HYB).2 (Nat.le_trans (unhide HR).2.below.size (Nat.le_trans (unhide H5).2.size ((Below.refl _ _).alloc (Nat.le_refl _) _).size))) ⟨m.i, a5, c5, G⟩ w5.heap.size 1 rfl rfl (made_cells (at_new rfl) rfl) (by omega) ?_; intro v6 w6 h6 g6 _; obtain ⟨a6, c6, hv6, -, -⟩ := h6.len; subst hv6; have HQ := hide (held_more (unhide HYB).2 (unhide HR).1 (unhide HR).2 (unhide H5).1 (unhide H5).2 ((Below.refl _ _).alloc (Nat.le_refl _) _) rfl rfl h6 g6 (unhide HNS)); have k7 := (unhide HQ).1.c7; have k11 := (unhide HQ).1.c11; clear h6 g6))
        go_wp2_with fail
        go_roundw
        case rel => exact ⟨L ++ [⟨m.i, a5, c5, G⟩], a6, c6, (by rw [List.length_append]; rfl), (by simp; omega), (by have q := unhide HM ⟨m.i, a5, c5, G⟩ _ _ rfl (unhide HQ).1 (unhide HQ).2.2 (unhide HQ).2.1; rw [List.length_append] at q; exact hide q)⟩
        case measure => simp [lenV]; omega
      | false =>
        have HX := hide (hn rfl)
        clear hy hn
        obtain ⟨m, N, O, W, C, G, S, r, hh, he⟩ := unhide HX
        have c17 := r.c17
        have c18 := r.c18
        have HR := hide (And.intro r hh)
        clear r hh HX
        rcases he with ⟨h1, h2⟩ | ⟨h1, h2⟩
        · rw [h1] at c18
          have H2 := hide h2
          clear h1 h2
          go_wp2_with fail
          go_quiet (fail)
          go_wp2_with fail
          go_ret3
          exact waysPost_err (wend_err (unhide HE) (unhide HYw).2.2 (unhide H2)) (below_drewN (wend_below (unhide HYw).1 (unhide HYw).2.1 (unhide HR).2) _)
        · rw [h1] at c18
          have H2 := hide h2
          clear h1 h2
          go_wp2_with fail
          go_quiet (fail)
          go_wp2_with fail
          go_ret3
          exact ⟨_, L, _, _, rfl, (wend_ways (unhide HYw).1 (unhide HR).2).later (below_drewN (Below.refl _ _) _), (below_drewN (wend_below (unhide HYw).1 (unhide HYw).2.1 (unhide HR).2) _), wend_ok (unhide HE) (unhide HYw).2.2 (unhide H2)⟩
    · have hge' : ¬ (L.length : Int) < (k : Int) := by omega
      have HX := hide (winv_full (unhide HYB).1 (unhide HYB).2 (unhide HI) (by rw [unhide HYk]; omega))
      clear HI
      obtain ⟨m, N, O, W, C, G, S, r, hh, he⟩ := unhide HX
      have c17 := r.c17
      have c18 := r.c18
      have HR := hide (And.intro r hh)
      clear r hh HX
      rcases he with ⟨h1, h2⟩ | ⟨h1, h2⟩
      · rw [h1] at c18
        have H2 := hide h2
        clear h1 h2
        go_wp2_with fail
        go_quiet (fail)
        go_wp2_with fail
        go_ret3
        exact waysPost_err (wend_err (unhide HE) (unhide HYw).2.2 (unhide H2)) (below_drewN (wend_below (unhide HYw).1 (unhide HYw).2.1 (unhide HR).2) _)
      · rw [h1] at c18
        have H2 := hide h2
        clear h1 h2
        go_wp2_with fail
        go_quiet (fail)
        go_wp2_with fail
        go_ret3
        exact ⟨_, L, _, _, rfl, (wend_ways (unhide HYw).1 (unhide HR).2).later (below_drewN (Below.refl _ _) _), (below_drewN (wend_below (unhide HYw).1 (unhide HYw).2.1 (unhide HR).2) _), wend_ok (unhide HE) (unhide HYw).2.2 (unhide H2)⟩
end Go.Proofs.YtkphpcgmfkhpnaaDoor
