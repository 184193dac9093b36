/- What slices.Clone makes of gifts: a row of its own with the same. What Ways does: what is wrong, or the ways that are told. Are gifts the same? What Ways answers of anything. All ways there are, if they can be told; have two patterns the same ways? What can be told whole: the ways of a pattern, as an algebra. Patterns that are made of others. -/
import Derived.Test.YtkggmodabpjobaaDoorScanRep
import Derived.Lib.BufferMore
import Derived.Test.YtkggmodabpjobaaDoorScanTell2R
import Derived.Test.YtkggmodabpjobaaDoorScanWrongR
import Derived.Test.YtkggmodabpjobaaDoorScanNext
import Derived.Deep.RegionHeld3
import Derived.Deep.QuietTactic
import Derived.BigQuiet
import Derived.Test.YtkggmodabpjobaaDoorScanRulesG
namespace Go.Proofs.YtkggmodabpjobaaDoor
open Go.RowKit

theorem info_gift' : ∃ i, Tryd.prog.info? 44 = some i ∧ i.zero = some (.agg #[.string ⟨#[]⟩, .string ⟨#[]⟩]) ∧ i.size = 2 ∧ i.bytes = 32 := by
  have hinf := info_gift
  cases hi : Tryd.prog.info? 44 with
  | none => simp [hi] at hinf
  | some i =>
    simp only [hi, Option.map_some, Option.some.injEq, Prod.mk.injEq] at hinf
    exact ⟨i, rfl, hinf⟩
/-- An append of many to an empty row. -/
theorem wpList_many {w : World} {ops : Array Oper} {rest : List Oper} {o : Oper} {a : Act} {Q : Exit → Act → World → Prop} (hgd : o.guard = none) (s x : Operand)
    (ho : o.op = .call { callee := .builtin .append, args := #[s, x], argTypes := #[30, 30] }) {B g cap n : Nat} {v : Value} {l : List Gft} (hn : n = l.length) (h : w.ownsRow B 44 2 v 0 []) (hB : B ≤ w.heap.size) (hs : a.eval s = v) (hx : a.eval x = .slice (some ⟨g, 0, none⟩) n cap) (hc : ∀ j u, (flat gfV l)[j]? = some u → w.cell? ((⟨g, 0, none⟩ : Addr).add j) = some u) (hl : l.length ≤ 1000000)
    (hK : ∀ v' w', Row w' B 44 2 gfV v' l → w.grownBy w' v.ownBlock → wpList Tryd.prog ops Q rest (a.put o.dst v') w') : wpList Tryd.prog ops Q (o :: rest) a w := by
  refine wpList_plain hgd fun K hK' => ?_
  subst hn
  obtain ⟨i, hi, hz0, hz1, hz2⟩ := info_gift'
  obtain ⟨v', w', hr, h2, h3, -, -⟩ := run_append_own_at (P := Tryd.prog) w B 30 o.type 44 i _ 2 32 Tryd.underlying30 hi hz0 hz1 hz2 rfl (by decide) v 0 [] h ⟨g, 0, none⟩ l.length cap (flat gfV l) (flat_len gfV_len l) hc (fun u hu => by
    obtain ⟨x, _, hx⟩ := List.mem_flatMap.1 hu
    exact gfV_one x u hx) (by unfold maxLen; omega) (by omega) hB
  unfold Oper.wp execOp
  simp only [ho, resolve, invoke, builtin, Sem.run_bind, Sem.run_pure, Result.andThen_ok, List.map_toArray, List.map_cons, List.map_nil, hs, hx, hr]
  refine hK' _ _ (hK v' w' ?_ h3)
  unfold Row
  rw [Nat.zero_add, List.nil_append] at h2
  exact h2

set_option maxRecDepth 100000 in
set_option maxHeartbeats 1000000 in
theorem gifts_clone {w : World} {B : Nat} {v : Value} {G : List Gft} (h : Row w B 44 2 gfV v G) (hl : G.length ≤ 1000000) :
    Calls Tryd.prog 15 #[v] w fun e w' => ∃ v', e = .returned v' ∧ Row w' w.heap.size 44 2 gfV v' G ∧ Below w.heap.size w w' := by
  rcases h.2 with ⟨rfl, h0⟩ | ⟨g, cap, cur, hv, hbg, hg, hnc, hcm, hcs, htake⟩
  · have hG : G = [] := List.eq_nil_of_length_eq_zero h0
    subst hG
    have hnil : ∀ W, (binOp .eql 30 (.slice none 0 0) (.slice none 0 0)).run Tryd.prog W = .ok (.bool true) W := fun W => Lib.run_eql_slice_nil_nil W _ _ Tryd.underlying30
    go_enter Tryd.func15, Tryd.ntmps15
    go_wp2_with fail
    go_ret
    exact ⟨_, rfl, World.ownsRow_nil w _ _ 2, Below.refl _ _⟩
  · subst hv
    have hb1 : Below w.heap.size w (w.alloc (.cells #[] 44)) := (Below.refl _ _).alloc (Nat.le_refl _) _
    have hown : (w.alloc (.cells #[] 44)).ownsRow w.heap.size 44 2 (.slice (some ⟨w.heap.size, 0, none⟩) 0 0) 0 [] := ⟨rfl, .inr ⟨w.heap.size, 0, #[], rfl, Nat.le_refl _, at_new rfl, Nat.le_refl _, Nat.zero_le _, rfl, rfl⟩⟩
    have hcl : ∀ j u, (flat gfV G)[j]? = some u → (w.alloc (.cells #[] 44)).cell? ((⟨g, 0, none⟩ : Addr).add j) = some u := fun j u hj => cell_later hb1 (World.ownsRow.cells h rfl j u hj)
    have HH := hide (And.intro hb1 (And.intro hown hcl))
    clear hb1 hown hcl h hg hcs htake
    have hnil : ∀ W, (binOp .eql 30 (.slice (some ⟨g, 0, none⟩) G.length cap) (.slice none 0 0)).run Tryd.prog W = .ok (.bool false) W := fun W => Lib.run_eql_slice_some_nil W _ _ _ Tryd.underlying30
    go_enter Tryd.func15, Tryd.ntmps15
    go_wp2_with (refine wpList_many rfl (.tmp 5) (.tmp 6) rfl (l := G) (g := g) (cap := cap) (n := G.length) (B := w.heap.size) (v := .slice (some ⟨w.heap.size, 0, none⟩) 0 0) rfl (unhide HH).2.1 (unhide HH).1.size (by simp [Act.eval]) (by simp [Act.eval]) (unhide HH).2.2 hl ?_; intro v' w9 hr9 hg9; have H9 := hide (And.intro hr9 hg9); clear hr9 hg9)
    go_ret
    obtain ⟨hr9, hg9⟩ := unhide H9
    exact ⟨v', rfl, hr9, Below.grown (unhide HH).1 hg9 (unhide HH).1.size (fun i hi => by have hi : some w.heap.size = some i := hi; injection hi with hi; omega)⟩
end Go.Proofs.YtkggmodabpjobaaDoor

namespace Go.Proofs.YtkggmodabpjobaaDoor
open Go.RowKit

/-- What is told of the ways of a pattern at a place: k at most, with fuel f. -/
def told (RL : List (ByteArray × PT)) (dg : Nat → ByteArray) (T : PT) (s : ByteArray) (i k f : Nat) : List (Nat × List Gft) × Nat := tld (D s (fun nm => ruleOf nm RL) dg (f + 1) T i []).1 (D s (fun nm => ruleOf nm RL) dg (f + 1) T i []).2 k f
/-- What Ways tells. -/
def waysOf (RL : List (ByteArray × PT)) (dg : Nat → ByteArray) (T : PT) (s : ByteArray) (i k f : Int) : List (Nat × List Gft) × Bool × Int :=
  if wrongR RL T s f ≠ 0 then ([], false, wrongR RL T s f)
  else if i < 0 ∨ (s.size : Int) < i ∨ k < 0 ∨ 4096 < k then ([], false, 3)
  else if (told RL dg T s i.toNat k.toNat f.toNat).2 = 10 then ([], false, 10)
  else if (told RL dg T s i.toNat k.toNat f.toNat).2 = 2 then ([], false, 7)
  else ((told RL dg T s i.toNat k.toNat f.toNat).1, decide ((told RL dg T s i.toNat k.toNat f.toNat).2 = 1), 0)
/-- How numbers are written. -/
def ItoaSays (dg : Nat → ByteArray) (Wd : World) : Prop := ∀ n : Nat, n ≤ 65536 → ∀ W, Below Wd.heap.size Wd W → Calls Tryd.prog 33 #[.int .i64 (n : Int)] W fun e w' => e = .returned (.string (dg n)) ∧ Below W.heap.size W w'
/-- Rules that are right. -/
def RulesFine (RL : List (ByteArray × PT)) : Prop := ∀ (i : Nat) (R : ByteArray × PT), RL[i]? = some R → FineS R.2 ∧ NZ R.2 ∧ R.2.cnt ≤ 4096
theorem unl_new : ∀ n, unl (List.replicate n (-1)) = n
  | 0 => rfl
  | n + 1 => by
    have := unl_new n
    unfold unl at this ⊢
    rw [List.replicate_succ, List.filter_cons, if_pos (by decide), List.length_cons, this]
theorem rooted_new (X : Ctx) (N : List Nd) : Rooted X N (List.replicate X.RL.length (-1)) := ⟨List.length_replicate, fun r z hz => by
  rw [List.getElem?_replicate] at hz
  split at hz
  · injection hz with hz
    exact .inl hz.symm
  · cases hz⟩
theorem rc_new {X : Ctx} {v : Value} (h1 : X.Wd.heap.size ≤ X.B) (hV : RVal X.Wd X.RL v) (hrv : X.RL ≠ [] → X.m0.rv = v) (hl : X.RL.length ≤ 64) (hF : RulesFine X.RL) (e1 : X.rn = fun nm => ruleAt nm X.RL 0) (e2 : X.R = fun nm => ruleOf nm X.RL) (hI : ItoaSays X.dg X.Wd) (hr : X.m0.room ≤ 100000000000) (hy : X.y ≤ 5000) : RC X :=
  ⟨h1, fun q => by
    rcases hV.2 with ⟨z, -⟩ | ⟨b, o, cap, z, -, h3⟩
    · exact absurd z q
    · exact ⟨b, o, cap, h3, by rw [hrv q, z]⟩, hl, hF, e1, e2, hI, hr, hy⟩
theorem winv_start {RL : List (ByteArray × PT)} {dg : Nat → ByteArray} {T : PT} {s : ByteArray} {i k f B B1 g nd : Nat} {w0 w : World} {m : MS} {N : List Nd} {v : Value} (r : Rep w B1 g m N (List.replicate RL.length (-1)) [] [] [] []) (h1 : m.begun = false) (h2 : m.s = s) (h3 : m.fuel = f) (h4 : m.ticks = 0) (h5 : m.shut = false) (h6 : m.err = 0) (h7 : m.b = -1) (h8 : m.i = i) (h9 : m.node = nd) (hl : Lies (fun nm => ruleAt nm RL 0) N T nd) (hns : NS w s N) (hF : FineS T) (hf : f ≤ 100000) (hi : i ≤ s.size) (hs : s.size ≤ 65536) (hb : Below B w0 w) (hB : w0.heap.size = B) (hB1 : B ≤ B1) (hV : RVal w0 RL v) (hrv : RL ≠ [] → m.rv = v) (hRl : RL.length ≤ 64) (hRF : RulesFine RL) (hI : ItoaSays dg w0) (hroom : m.room = 0) (htd : m.told = 0) (hNl : N.length ≤ 4096) :
    WInv ⟨s, fun nm => ruleOf nm RL, dg, fun nm => ruleAt nm RL 0, f, k, B, B1, g, w0, D s (fun nm => ruleOf nm RL) dg (f + 1) T i [], RL⟩ [] (.slice none 0 0) w := by
  refine ⟨0, D s (fun nm => ruleOf nm RL) dg (f + 1) T i [], m, N, [], .inl ⟨m, N, _, [], f + 1, T, r, h1, h2, h3, hf, ?_, h4, ?_, hs, h5, h6, h7, Fr.refl _ _ _, ?_, hF, Nat.le_refl _, ?_, ⟨rfl, rfl, htd, ?_, Same.refl _⟩, hns, ?_, ?_, rooted_new _ N, ?_, ?_⟩, ⟨⟨World.ownsRow_nil w _ _ 2, (fun _ h => by cases h)⟩, (fun _ h => by cases h), hb⟩, Nat.zero_le _, ⟨N, _, [], [], [], [], r⟩, rfl⟩
  · show m.ticks ≤ f; omega
  · show m.i ≤ s.size; omega
  · rw [h9]; exact hl
  · show D s (fun nm => ruleOf nm RL) dg (f + 1) T i [] = dCome s (fun nm => ruleOf nm RL) dg (f + 1) T m.i [] [] []
    rw [h8, dCome_top]
  · show [] = ([] ++ []).take m.room
    simp
  · exact rc_new (v := v) (by show w0.heap.size ≤ B1; omega) hV hrv hRl hRF rfl rfl hI (by show m.room ≤ _; omega) (Nat.zero_le _)
  · show Below w0.heap.size w0 w
    rw [hB]; exact hb
  · show N.length + 4096 * unl (List.replicate RL.length (-1)) ≤ 300000
    rw [unl_new]; omega
  · show m.told ≤ _
    rw [htd]; exact Nat.zero_le _

theorem fresh_ns {w : World} {s : ByteArray} {N : List Nd} (h : Fresh 0 N) : NS w s N := fun i x hx => by
  obtain ⟨h1, h2⟩ := h i x (Nat.zero_le _) hx
  exact ⟨(fun b hb => by rw [h1] at hb; cases hb), (fun q => .inl (h2 (by omega))), (fun q => .inl (h2 (by omega)))⟩
/-- A way is put behind the others. -/
theorem held_more {Y : WC} {m : MS} {w w1 w2 w3 : World} {v v' v3 : Value} {L : List Wv} {N : List Nd} {O : List Int} {W : List Wr} {C : List Cr} {G S : List Gft} (hB0 : Y.B ≤ Y.w0.heap.size) (r : Rep w Y.B1 Y.g m N O W C G S) (h : Held Y m w v L) (hv : Row w1 w.heap.size 44 2 gfV v' G) (hb1 : Below w.heap.size w w1) (hb2 : Below w1.heap.size w1 w2) {y : Wv} (hyG : y.G = G) (hyv : y.gv = v') (hr3 : Row w3 Y.B 32 2 wyV v3 (L ++ [y])) (hg3 : w2.grownBy w3 v.ownBlock) (hns : NS w Y.s N) : Rep w3 Y.B1 Y.g m N O W C G S ∧ Held Y m w3 v3 (L ++ [y]) ∧ NS w3 Y.s N := by
  have r1 := r.later (bnext hb1 hb2)
  have hw2 := h.ways.later (bnext hb1 hb2)
  have hsz := Nat.le_trans hb1.size hb2.size
  refine ⟨⟨r.low, grown_blk r1.blk (fun j hj => hw2.row.type hj) (by decide) hg3, r1.nodes.keep hw2.row (by decide) hg3, r1.roots.keep hw2.row (by decide) hg3, r1.works.keep hw2.row (by decide) hg3, r1.choices.keep hw2.row (by decide) hg3, r1.given.keep hw2.row (by decide) hg3, r1.said.keep hw2.row (by decide) hg3, r.apart, Nat.le_trans r1.base hg3.size⟩, ⟨⟨hr3, fun x hx => ?_⟩, fun x hx k hk q => ?_, ?_⟩, fun i x hx => ⟨fun b hb => grown_blk (row_below ((hns i x hx).1 b hb) (bnext hb1 hb2)) (fun j hj => hw2.row.type hj) (by decide) hg3, (hns i x hx).2⟩⟩
  · rcases List.mem_append.1 hx with hx | hx
    · exact (hw2.gifts x hx).keep hw2.row (by decide) hg3
    · rw [List.mem_singleton] at hx
      subst hx
      have hq := ((hv.later hb2).keep hw2.row (by decide) hg3)
      rw [hyv, hyG]
      refine ⟨hq.1, ?_⟩
      rcases hq.2 with q | ⟨g, cap, cur, q1, q2, q3⟩
      · exact .inl q
      · exact .inr ⟨g, cap, cur, q1, Nat.le_trans (Nat.le_trans hB0 h.below.size) q2, q3⟩
  · rcases List.mem_append.1 hx with hx | hx
    · exact h.apart x hx k hk q
    · rw [List.mem_singleton] at hx
      subst hx
      rw [hyv] at hk
      have hlo := (hv.low hk).1
      have hlt := r.lt
      rcases q with q | q | q | q | q | q | q
      · omega
      · have := (r.nodes.low q).2; omega
      · have := (r.roots.low q).2; omega
      · have := (r.works.low q).2; omega
      · have := (r.choices.low q).2; omega
      · have := (r.given.low q).2; omega
      · have := (r.said.low q).2; omega
  · exact below_grown (bel_trans h.below ((bnext hb1 hb2).mono (Nat.le_trans hB0 h.below.size)) hB0) hw2.row hB0 hg3

/-- How Ways ends. -/
def WaysPost (RL : List (ByteArray × PT)) (dg : Nat → ByteArray) (T : PT) (s : ByteArray) (i k f : Int) (w : World) (e : Ending) (w' : World) : Prop :=
  ∃ v L cut err, e = .returned (.tuple #[v, .bool cut, .int .i64 err]) ∧ WaysAt w' w.heap.size v L ∧ Below w.heap.size w w' ∧ (L.map Wv.pr, cut, err) = waysOf RL dg T s i k f
theorem waysPost_err {RL : List (ByteArray × PT)} {dg : Nat → ByteArray} {T : PT} {s : ByteArray} {i k f : Int} {w w' : World} {err : Int} (h : waysOf RL dg T s i k f = ([], false, err)) (hb : Below w.heap.size w w') : WaysPost RL dg T s i k f w (.returned (.tuple #[.slice none 0 0, .bool false, .int .i64 err])) w' :=
  ⟨_, [], _, _, rfl, ⟨World.ownsRow_nil w' _ _ 2, (fun _ h => by cases h)⟩, hb, h.symm⟩

set_option maxRecDepth 100000 in
set_option maxHeartbeats 1000000 in
theorem ways_wrong {RL : List (ByteArray × PT)} {v : Value} (dg : Nat → ByteArray) (T : PT) (s : ByteArray) (i k f : Int) (w : World) (hV : RVal w RL v) (hT : T.In w) (hS : Shapes w) (hs : s.size ≤ maxLen) (hq : wrongR RL T s f ≠ 0) :
    Calls Tryd.prog 9 #[v, pv T, .string s, .int .i64 i, .int .i64 k, .int .i64 f] w (WaysPost RL dg T s i k f w) := by
  have hb0 : Below w.heap.size w (w.alloc (.cells #[.int .i64 T.k, .string T.t, .int .i64 T.n, .string T.nm, .slice T.xa T.len T.cap] 24)) := (Below.refl _ _).alloc (Nat.le_refl _) _
  have HW := hide (wrong_rules T s f _ (hV.later hb0) (PT.In.later hb0 hT) (hS.later hb0) hs)
  have HB0 := hide hb0
  have HE := hide (show waysOf RL dg T s i k f = ([], false, wrongR RL T s f) by unfold waysOf; rw [if_pos hq])
  unfold pv at HW ⊢
  obtain ⟨q, hqq⟩ : ∃ q, q = wrongR RL T s f := ⟨_, rfl⟩
  rw [← hqq] at hq HE HW
  clear hT hS hb0 hs hqq hV
  go_enter Tryd.func9, Tryd.ntmps9
  go_wp2_with (go_at_call 10; refine (unhide HW).mono ?_; rintro e w1 ⟨rfl, hb1⟩)
  go_ret3
  exact waysPost_err (unhide HE) (bnext (unhide HB0) hb1)

set_option maxRecDepth 100000 in
set_option maxHeartbeats 1000000 in
theorem ways_range {RL : List (ByteArray × PT)} {v : Value} (dg : Nat → ByteArray) (T : PT) (s : ByteArray) (i k f : Int) (w : World) (hV : RVal w RL v) (hT : T.In w) (hS : Shapes w) (hs : s.size ≤ maxLen) (hq : wrongR RL T s f = 0) (hr : i < 0 ∨ (s.size : Int) < i ∨ k < 0 ∨ 4096 < k) :
    Calls Tryd.prog 9 #[v, pv T, .string s, .int .i64 i, .int .i64 k, .int .i64 f] w (WaysPost RL dg T s i k f w) := by
  have hb0 : Below w.heap.size w (w.alloc (.cells #[.int .i64 T.k, .string T.t, .int .i64 T.n, .string T.nm, .slice T.xa T.len T.cap] 24)) := (Below.refl _ _).alloc (Nat.le_refl _) _
  have HW := hide (wrong_rules T s f _ (hV.later hb0) (PT.In.later hb0 hT) (hS.later hb0) hs)
  have HB0 := hide hb0
  have HE := hide (show waysOf RL dg T s i k f = ([], false, 3) by unfold waysOf; rw [if_neg (by rw [hq]; simp), if_pos hr])
  unfold pv at HW ⊢
  rw [hq] at HW
  clear hT hS hb0 hs hq hV
  rcases (show i < 0 ∨ (¬ i < 0 ∧ (s.size : Int) < i) ∨ (¬ i < 0 ∧ ¬ (s.size : Int) < i ∧ k < 0) ∨ (¬ i < 0 ∧ ¬ (s.size : Int) < i ∧ ¬ k < 0 ∧ 4096 < k) by omega) with h | ⟨h, h1⟩ | ⟨h, h1, h2⟩ | ⟨h, h1, h2, h3⟩
  all_goals
    clear hr
    go_enter Tryd.func9, Tryd.ntmps9
    go_wp2_with (go_at_call 10; refine (unhide HW).mono ?_; rintro e w1 ⟨rfl, hb1⟩)
    go_ret3
    exact waysPost_err (unhide HE) (bnext (unhide HB0) hb1)

theorem wend_err {RL : List (ByteArray × PT)} {dg : Nat → ByteArray} {T : PT} {s : ByteArray} {i k f : Nat} {x : List (Nat × List Gft) × Nat} (he : waysOf RL dg T s i k f = if (told RL dg T s i k f).2 = 10 then ([], false, 10) else if (told RL dg T s i k f).2 = 2 then ([], false, 7) else ((told RL dg T s i k f).1, decide ((told RL dg T s i k f).2 = 1), 0)) (ht : x = told RL dg T s i k f) (h : x.2 = 10) : waysOf RL dg T s i k f = ([], false, 10) := by
  rw [he, if_pos (by rw [← ht, h])]
theorem wend_name {RL : List (ByteArray × PT)} {dg : Nat → ByteArray} {T : PT} {s : ByteArray} {i k f : Nat} {x : List (Nat × List Gft) × Nat} (he : waysOf RL dg T s i k f = if (told RL dg T s i k f).2 = 10 then ([], false, 10) else if (told RL dg T s i k f).2 = 2 then ([], false, 7) else ((told RL dg T s i k f).1, decide ((told RL dg T s i k f).2 = 1), 0)) (ht : x = told RL dg T s i k f) (h : x.2 = 2) : waysOf RL dg T s i k f = ([], false, 7) := by
  rw [he, if_neg (by rw [← ht, h]; decide), if_pos (by rw [← ht, h])]
theorem wend_ok {RL : List (ByteArray × PT)} {dg : Nat → ByteArray} {T : PT} {s : ByteArray} {i k f : Nat} {x : List (Nat × List Gft) × Nat} {L : List Wv} {b : Bool} (he : waysOf RL dg T s i k f = if (told RL dg T s i k f).2 = 10 then ([], false, 10) else if (told RL dg T s i k f).2 = 2 then ([], false, 7) else ((told RL dg T s i k f).1, decide ((told RL dg T s i k f).2 = 1), 0)) (ht : x = told RL dg T s i k f) (h : x = (L.map Wv.pr, if b = true then 1 else 0)) : (L.map Wv.pr, b, 0) = waysOf RL dg T s i k f := by
  rw [he, ← ht, h]
  cases b <;> simp
theorem wend_below {Y : WC} {m : MS} {w w' : World} {v : Value} {L : List Wv} (h1 : Y.B = w.heap.size) (h2 : Y.w0 = w) (h : Held Y m w' v L) : Below w.heap.size w w' := by
  have := h.below
  rw [h1, h2] at this
  exact this
theorem wend_ways {Y : WC} {m : MS} {w w' : World} {v : Value} {L : List Wv} (h1 : Y.B = w.heap.size) (h : Held Y m w' v L) : WaysAt w' w.heap.size v L := by
  have := h.ways
  rw [h1] at this
  exact this

set_option maxRecDepth 100000 in
set_option maxHeartbeats 4000000 in
theorem ways_run {RL : List (ByteArray × PT)} {v : Value} (dg : Nat → ByteArray) (T : PT) (s : ByteArray) (i k f : Nat) (w : World) (hV : RVal w RL v) (hRF : RulesFine RL) (hIt : ItoaSays dg w) (hT : T.In w) (hS : Shapes w) (hs : s.size ≤ maxLen) (hq : wrongR RL T s f = 0) (hi : i ≤ s.size) (hk : k ≤ 4096) (hcn : T.cnt ≤ 4096) (hBare : NZ T) (hF : FineS T) (hRl : RL.length ≤ 64) :
    Calls Tryd.prog 9 #[v, pv T, .string s, .int .i64 (i : Int), .int .i64 (k : Int), .int .i64 (f : Int)] w (WaysPost RL dg T s i k f w) := by
  have hb0 : Below w.heap.size w (w.alloc (.cells #[.int .i64 T.k, .string T.t, .int .i64 T.n, .string T.nm, .slice T.xa T.len T.cap] 24)) := (Below.refl _ _).alloc (Nat.le_refl _) _
  have HW := hide (wrong_rules T s f _ (hV.later hb0) (PT.In.later hb0 hT) (hS.later hb0) hs)
  obtain ⟨-, -, hs6, -, hf6'⟩ := wrongR_ok hq
  have hf6 : f ≤ 100000 := by omega
  have HN := hide (fun W (h : Below w.heap.size w W) => new_val (w := W) T s f 0 (hV.later h) hRl (PT.In.later h hT) hs6 (by omega) hBare)
  have HB0 := hide hb0
  have HE := hide (show waysOf RL dg T s i k f = if (told RL dg T s i k f).2 = 10 then ([], false, 10) else if (told RL dg T s i k f).2 = 2 then ([], false, 7) else ((told RL dg T s i k f).1, decide ((told RL dg T s i k f).2 = 1), 0) by
    unfold waysOf
    rw [if_neg (by rw [hq]; simp), if_neg (by omega)]
    simp only [Int.toNat_natCast])
  have HF := hide (And.intro hF (And.intro hV (And.intro hRF (And.intro hIt (And.intro hRl hcn)))))
  have hi1 : ¬ (i : Int) < 0 := by omega
  have hi2 : ¬ (s.size : Int) < (i : Int) := by omega
  have hk1 : ¬ (k : Int) < 0 := by omega
  have hk2 : ¬ (4096 : Int) < (k : Int) := by omega
  unfold pv at HW HN ⊢
  rw [hq] at HW
  clear hT hS hb0 hs hq hBare hF hcn hV hRF hIt hRl hf6'
  go_enter Tryd.func9, Tryd.ntmps9
  go_wp2_with fail
  refine (unhide HW).mono ?_
  rintro e w1 ⟨rfl, hb1⟩
  have hbx : w1.heap[w.heap.size]? = some (.cells #[.int .i64 T.k, .string T.t, .int .i64 T.n, .string T.nm, .slice T.xa T.len T.cap] 24 (0, 0)) := row_below (at_new (w := w) rfl) hb1
  have z0 : w1.cell? ⟨w.heap.size, 0, none⟩ = some (.int .i64 T.k) := by rw [cell_of_row _ _ _ _ _ _ hbx]; rfl
  have z1 : w1.cell? ⟨w.heap.size, 1, none⟩ = some (.string T.t) := by rw [cell_of_row _ _ _ _ _ _ hbx]; rfl
  have z2 : w1.cell? ⟨w.heap.size, 2, none⟩ = some (.int .i64 T.n) := by rw [cell_of_row _ _ _ _ _ _ hbx]; rfl
  have z3 : w1.cell? ⟨w.heap.size, 3, none⟩ = some (.string T.nm) := by rw [cell_of_row _ _ _ _ _ _ hbx]; rfl
  have z4 : w1.cell? ⟨w.heap.size, 4, none⟩ = some (.slice T.xa T.len T.cap) := by rw [cell_of_row _ _ _ _ _ _ hbx]; rfl
  have HB1 := hide (bnext (unhide HB0) hb1)
  clear hbx hb1 HW
  go_wp2_with fail
  refine (unhide HN w1 (unhide HB1)).mono ?_
  rintro e w2 ⟨g, m, N, rfl, r2, m1, mr, m2, m3, m4, m5, m6, m7, m8, m9, l2, fr2, hb2⟩
  have HB2 := hide (bnext (unhide HB1) hb2)
  have HBg := hide (begin_any r2 i 0 m9)
  clear z0 z1 z2 z3 z4 HN
  go_wp2_with fail
  refine (unhide HBg).mono ?_
  rintro e w3 ⟨rfl, wv, cv, gv, r3, f3⟩
  have hw1 := (unhide HB1).size
  have hI : WInv ⟨s, fun nm => ruleOf nm RL, dg, fun nm => ruleAt nm RL 0, f, k, w.heap.size, w1.heap.size, g, w, D s (fun nm => ruleOf nm RL) dg (f + 1) T i [], RL⟩ [] (.slice none 0 0) w3 :=
    winv_start r3 rfl m1 m2 m4 m6 m7 rfl rfl rfl l2 (fresh_ns fr2.1) (unhide HF).1 hf6 hi hs6 (bel_trans (unhide HB2) ((Fr.below r2 f3).mono hw1) (Nat.le_refl _)) rfl hw1 (unhide HF).2.1 mr (unhide HF).2.2.2.2.1 (unhide HF).2.2.1 (unhide HF).2.2.2.1 m3 m5 (by have := (unhide HF).2.2.2.2.2; have := fr2.2; omega)
  obtain ⟨Y, hY⟩ : ∃ Y : WC, Y = ⟨s, fun nm => ruleOf nm RL, dg, fun nm => ruleAt nm RL 0, f, k, w.heap.size, w1.heap.size, g, w, D s (fun nm => ruleOf nm RL) dg (f + 1) T i [], RL⟩ := ⟨_, rfl⟩
  have hYg : Y.g = g := by rw [hY]
  have HYk := hide (show Y.most = k by rw [hY])
  have HK4 := hide (show k ≤ 4096 by omega)
  have HYB := hide (show Y.B ≤ Y.B1 ∧ Y.B ≤ Y.w0.heap.size by rw [hY]; exact ⟨hw1, Nat.le_refl _⟩)
  have HYC := hide (show Y.w0.heap.size ≤ Y.B by rw [hY]; exact Nat.le_refl _)
  have HYw := hide (show Y.B = w.heap.size ∧ Y.w0 = w ∧ tld Y.D.1 Y.D.2 Y.most Y.fuel = told RL dg T s i k f by rw [hY]; exact ⟨rfl, rfl, rfl⟩)
  rw [← hY] at hI
  have HI := hide hI
  clear hI hY f3 r3 HB2 HBg r2 m1 mr m2 m3 m4 m5 m6 m7 m8 m9 l2 fr2 hb2 HB1 HB0 HF hw1 hi1 hi2 hk1 hk2 hs6 hf6 hi
  subst hYg
  go_wp2_with fail
  go_loopw [12] (fun v wr => ∃ (L : List Wv) (a : Option Addr) (cap : Nat), v = .slice a L.length cap ∧ L.length ≤ k ∧ Hid (WInv Y L v wr)) (fun v _ => k - lenV v)
  case atStart => exact ⟨[], none, 0, rfl, Nat.zero_le _, HI⟩
  case round =>
    obtain ⟨L, a, cap, rfl, hL, HI⟩ := hrel
    rcases Nat.lt_or_ge L.length k with hlt | hge
    · have hlt' : (L.length : Int) < (k : Int) := by omega
      have HN := hide (next_ways (unhide HYB).1 (unhide HYB).2 (unhide HYC) (unhide HI) (by rw [unhide HYk]; exact hlt) (by rw [unhide HYk]; exact unhide HK4))
      go_wp2_with fail
      refine (unhide HN).mono ?_
      rintro e w4 ⟨ok, rfl, hy, hn⟩
      clear HN HI
      cases ok with
      | true =>
        obtain ⟨m, N, O, W, C, G, S, r, hh, -, hGl, hnsy, hmore⟩ := hy rfl
        have hd : Below w4.heap.size w4 w4.drew := (Below.refl _ _).drew
        have HR := hide (And.intro (r.later hd) (hh.fr (unhide HYB).1 (unhide HYB).2 r (Fr.later hd)))
        have HM := hide hmore
        have HNS := hide (show NS w4.drew Y.s N from hnsy.fr r (Fr.later hd))
        have c7 := r.c7
        have c11 := r.c11
        clear hy hn r hh hmore hd hnsy
        go_wp2_with fail
        go_region_held3 (fun w' => w'.cell? ⟨Y.g, 7, none⟩ = some (.int .i64 (m.i : Int)) ∧ w'.cell? ⟨Y.g, 11, none⟩ = some m.gv) (go_keep) (first
          | (go_at_call 15; refine (gifts_clone (unhide HR).1.given hGl).mono ?_; rintro e w5 ⟨v5, rfl, hr5, hb5⟩; obtain ⟨a5, c5, hv5, -, -⟩ := hr5.len; subst hv5; have k7 := ((unhide HR).1.later hb5).c7; have k11 := ((unhide HR).1.later hb5).c11; have H5 := hide (And.intro hr5 hb5); clear hr5 hb5)
          | (refine step_row Tryd.underlying26 info_way rfl (by decide) (by decide) wyV_len wyV_one rfl (.tmp 57) (.tmp 68) rfl (((unhide HR).2.ways.later (bnext (unhide H5).2 ((Below.refl _ _).alloc (Nat.le_refl _) _))).row) (Nat.le_trans (unhide HYB).2 (Nat.le_trans (unhide HR).2.below.size (Nat.le_trans (unhide H5).2.size ((Below.refl _ _).alloc (Nat.le_refl _) _).size))) ⟨m.i, a5, c5, G⟩ w5.heap.size 1 rfl rfl (made_cells (at_new rfl) rfl) (by omega) ?_; intro v6 w6 h6 g6 _; obtain ⟨a6, c6, hv6, -, -⟩ := h6.len; subst hv6; have HQ := hide (held_more (unhide HYB).2 (unhide HR).1 (unhide HR).2 (unhide H5).1 (unhide H5).2 ((Below.refl _ _).alloc (Nat.le_refl _) _) rfl rfl h6 g6 (unhide HNS)); have k7 := (unhide HQ).1.c7; have k11 := (unhide HQ).1.c11; clear h6 g6))
        go_wp2_with fail
        go_roundw
        case rel => exact ⟨L ++ [⟨m.i, a5, c5, G⟩], a6, c6, (by rw [List.length_append]; rfl), (by simp; omega), (by have q := unhide HM ⟨m.i, a5, c5, G⟩ _ _ rfl (unhide HQ).1 (unhide HQ).2.2 (unhide HQ).2.1; rw [List.length_append] at q; exact hide q)⟩
        case measure => simp [lenV]; omega
      | false =>
        have HX := hide (hn rfl)
        clear hy hn
        obtain ⟨m, N, O, W, C, G, S, r, hh, he⟩ := unhide HX
        have c17 := r.c17
        have c18 := r.c18
        have HR := hide (And.intro r hh)
        clear r hh HX
        rcases he with ⟨h1, h2⟩ | ⟨h1, h2⟩ | ⟨h1, h2⟩
        · rw [h1] at c18
          have H2 := hide h2
          clear h1 h2
          go_wp2_with fail
          go_quiet (fail)
          go_wp2_with fail
          go_ret3
          exact waysPost_err (wend_err (unhide HE) (unhide HYw).2.2 (unhide H2)) (below_drewN (wend_below (unhide HYw).1 (unhide HYw).2.1 (unhide HR).2) _)
        · rw [h1] at c18
          have H2 := hide h2
          clear h1 h2
          go_wp2_with fail
          go_quiet (fail)
          go_wp2_with fail
          go_ret3
          exact waysPost_err (wend_name (unhide HE) (unhide HYw).2.2 (unhide H2)) (below_drewN (wend_below (unhide HYw).1 (unhide HYw).2.1 (unhide HR).2) _)
        · rw [h1] at c18
          have H2 := hide h2
          clear h1 h2
          go_wp2_with fail
          go_quiet (fail)
          go_wp2_with fail
          go_ret3
          exact ⟨_, L, _, _, rfl, (wend_ways (unhide HYw).1 (unhide HR).2).later (below_drewN (Below.refl _ _) _), (below_drewN (wend_below (unhide HYw).1 (unhide HYw).2.1 (unhide HR).2) _), wend_ok (unhide HE) (unhide HYw).2.2 (unhide H2)⟩
    · have hge' : ¬ (L.length : Int) < (k : Int) := by omega
      have HX := hide (winv_full (unhide HYB).1 (unhide HYB).2 (unhide HI) (by rw [unhide HYk]; omega))
      clear HI
      obtain ⟨m, N, O, W, C, G, S, r, hh, he⟩ := unhide HX
      have c17 := r.c17
      have c18 := r.c18
      have HR := hide (And.intro r hh)
      clear r hh HX
      rcases he with ⟨h1, h2⟩ | ⟨h1, h2⟩ | ⟨h1, h2⟩
      · rw [h1] at c18
        have H2 := hide h2
        clear h1 h2
        go_wp2_with fail
        go_quiet (fail)
        go_wp2_with fail
        go_ret3
        exact waysPost_err (wend_err (unhide HE) (unhide HYw).2.2 (unhide H2)) (below_drewN (wend_below (unhide HYw).1 (unhide HYw).2.1 (unhide HR).2) _)
      · rw [h1] at c18
        have H2 := hide h2
        clear h1 h2
        go_wp2_with fail
        go_quiet (fail)
        go_wp2_with fail
        go_ret3
        exact waysPost_err (wend_name (unhide HE) (unhide HYw).2.2 (unhide H2)) (below_drewN (wend_below (unhide HYw).1 (unhide HYw).2.1 (unhide HR).2) _)
      · rw [h1] at c18
        have H2 := hide h2
        clear h1 h2
        go_wp2_with fail
        go_quiet (fail)
        go_wp2_with fail
        go_ret3
        exact ⟨_, L, _, _, rfl, (wend_ways (unhide HYw).1 (unhide HR).2).later (below_drewN (Below.refl _ _) _), (below_drewN (wend_below (unhide HYw).1 (unhide HYw).2.1 (unhide HR).2) _), wend_ok (unhide HE) (unhide HYw).2.2 (unhide H2)⟩
end Go.Proofs.YtkggmodabpjobaaDoor

namespace Go.Proofs.YtkggmodabpjobaaDoor
open Go.RowKit

set_option maxRecDepth 100000 in
set_option maxHeartbeats 1000000 in
theorem sameGifts_same {w : World} {B B' : Nat} {v v' : Value} {G : List Gft} (h : Row w B 44 2 gfV v G) (h' : Row w B' 44 2 gfV v' G) :
    Calls Tryd.prog 7 #[v, v'] w fun e w' => e = .returned (.bool true) ∧ Below w.heap.size w w' := by
  obtain ⟨a, cap, hv, -, hca⟩ := h.len
  obtain ⟨a', cap', hv', -, hca'⟩ := h'.len
  have HA := hide (And.intro h (And.intro h' (And.intro hv hv')))
  have hmax := h.max
  unfold maxLen at hmax
  rw [hv, hv']
  clear h h' hv hv'
  go_enter Tryd.func7, Tryd.ntmps7
  go_wp2_with fail
  go_loopw [13] (fun i wr => ∃ k : Nat, k ≤ G.length ∧ i = .int .i64 (k : Int) ∧ Below w.heap.size w wr) (fun i _ => G.length - (intOf i).toNat)
  case atStart => exact ⟨0, Nat.zero_le _, rfl, Below.refl _ _⟩
  case round =>
    obtain ⟨k, hk, rfl, hb⟩ := hrel
    rcases Nat.lt_or_ge k G.length with hlt | hge
    · have hlt' : (k : Int) < (G.length : Int) := by omega
      obtain ⟨h, h', hv, hv'⟩ := unhide HA
      obtain ⟨g, c2, hg, -⟩ := h.form (by intro e; rw [e] at hlt; simp at hlt)
      obtain ⟨g', c2', hg', -⟩ := h'.form (by intro e; rw [e] at hlt; simp at hlt)
      rw [hv] at hg
      rw [hv'] at hg'
      injection hg with hg1 hg2 hg3
      injection hg' with hg1' hg2' hg3'
      subst hg1 hg1' hg3 hg3'
      obtain ⟨x, hx⟩ : ∃ x, G[k]? = some x := ⟨_, List.getElem?_eq_getElem hlt⟩
      have hr := h.later hb
      have hr' := h'.later hb
      have o0 : wr.cell? ⟨g, k * 2, none⟩ = some (.string x.1) := hr.cell gfV_len hv hx (k := 0) rfl
      have o1 : wr.cell? ⟨g, k * 2 + 1, none⟩ = some (.string x.2) := hr.cell gfV_len hv hx (k := 1) rfl
      have p0 : wr.cell? ⟨g', k * 2, none⟩ = some (.string x.1) := hr'.cell gfV_len hv' hx (k := 0) rfl
      have p1 : wr.cell? ⟨g', k * 2 + 1, none⟩ = some (.string x.2) := hr'.cell gfV_len hv' hx (k := 1) rfl
      have i0 := idx_run (g := g) (n := G.length) (cap := cap) Tryd.underlying30 size_gift hlt
      have i1 := idx_run (g := g') (n := G.length) (cap := cap') Tryd.underlying30 size_gift hlt
      have HBB := hide hb
      clear h h' hv hv' hr hr' hx hb
      go_wp2_with fail
      go_quiet (fail)
      go_wp2_with fail
      go_roundw
      case rel => exact ⟨k + 1, by omega, by simp, below_drewN (unhide HBB) _⟩
      case measure => simp [intOf]; omega
    · have hge' : ¬ (k : Int) < (G.length : Int) := by omega
      go_wp2_with fail
      go_ret
      exact ⟨rfl, hb⟩

end Go.Proofs.YtkggmodabpjobaaDoor


namespace Go.Proofs.YtkggmodabpjobaaDoor
open Go.RowKit

theorem ItoaSays.later {dg : Nat → ByteArray} {w w' : World} (h : ItoaSays dg w) (hb : Below w.heap.size w w') : ItoaSays dg w' := fun n hn W hW => h n hn W (bnext hb hW)
theorem ways_any {RL : List (ByteArray × PT)} {rv : Value} (dg : Nat → ByteArray) (T : PT) (s : ByteArray) (i k f : Int) (w : World) (hV : RVal w RL rv) (hIt : ItoaSays dg w) (hT : T.In w) (hS : Shapes w) (hs : s.size ≤ maxLen) :
    Calls Tryd.prog 9 #[rv, pv T, .string s, .int .i64 i, .int .i64 k, .int .i64 f] w (WaysPost RL dg T s i k f w) := by
  by_cases hq : wrongR RL T s f = 0
  · by_cases hr : i < 0 ∨ (s.size : Int) < i ∨ k < 0 ∨ 4096 < k
    · exact ways_range dg T s i k f w hV hT hS hs hq hr
    · obtain ⟨q1, q2, q3, q4, q5⟩ := wrongR_ok hq
      obtain ⟨i', rfl⟩ : ∃ i' : Nat, i = i' := ⟨i.toNat, by omega⟩
      obtain ⟨k', rfl⟩ : ∃ k' : Nat, k = k' := ⟨k.toNat, by omega⟩
      obtain ⟨f', rfl⟩ : ∃ f' : Nat, f = f' := ⟨f.toNat, by omega⟩
      obtain ⟨h1, h2, h3⟩ := right_of q1
      exact ways_run dg T s i' k' f' w hV (fun i R hR => right_of ((rules_right q2).2 i R hR).2.2) hIt hT hS hs hq (by omega) (by omega) h3 h2 h1 (rules_right q2).1
  · exact ways_wrong dg T s i k f w hV hT hS hs hq

/-- Can all be told? -/
def allOk (r : List (Nat × List Gft) × Bool × Int) : Bool := decide (r.2.2 = 0) && decide (r.1.length < 4096)
def AllPost (r : List (Nat × List Gft) × Bool × Int) (w : World) (e : Ending) (w' : World) : Prop :=
  ∃ v L, e = .returned (.tuple #[v, .bool r.2.1, .bool (allOk r)]) ∧ WaysAt w' w.heap.size v L ∧ Below w.heap.size w w' ∧ L.map Wv.pr = r.1

theorem allPost_of {r : List (Nat × List Gft) × Bool × Int} {w w' : World} {v : Value} {L : List Wv} {cut : Bool} {err : Int} {b : Bool} (hL : WaysAt w' w.heap.size v L) (hb : Below w.heap.size w w') (hr : (L.map Wv.pr, cut, err) = r) (hq : b = (decide (err = 0) && decide (L.length < 4096))) : AllPost r w (.returned (.tuple #[v, .bool cut, .bool b])) w' := by
  subst hr hq
  exact ⟨v, L, by simp [allOk], hL, hb, rfl⟩

set_option maxRecDepth 100000 in
set_option maxHeartbeats 1000000 in
theorem all_any {RL : List (ByteArray × PT)} {rv : Value} (dg : Nat → ByteArray) (T : PT) (s : ByteArray) (i : Int) (w : World) (hV : RVal w RL rv) (hIt : ItoaSays dg w) (hT : T.In w) (hS : Shapes w) (hs : s.size ≤ maxLen) :
    Calls Tryd.prog 5 #[rv, pv T, .string s, .int .i64 i] w (AllPost (waysOf RL dg T s i 4096 20000) w) := by
  have hb0 : Below w.heap.size w (w.alloc (.cells #[.int .i64 T.k, .string T.t, .int .i64 T.n, .string T.nm, .slice T.xa T.len T.cap] 24)) := (Below.refl _ _).alloc (Nat.le_refl _) _
  have HW := hide (ways_any dg T s i 4096 20000 _ (hV.later hb0) (hIt.later hb0) (PT.In.later hb0 hT) (hS.later hb0) hs)
  have HB0 := hide hb0
  unfold pv at HW ⊢
  clear hT hS hb0 hs hV hIt
  go_enter Tryd.func5, Tryd.ntmps5
  go_wp2_with fail
  refine (unhide HW).mono ?_
  rintro e w1 ⟨v, L, cut, err, rfl, hL, hb1, hr⟩
  obtain ⟨a, cap, hv, -, -⟩ := hL.row.len
  subst hv
  have hL' : WaysAt w1 w.heap.size (.slice a L.length cap) L := hL.mono (unhide HB0).size
  have HL := hide (And.intro hL' (And.intro (bnext (unhide HB0) hb1) hr))
  clear hL hL' hb1 hr HW HB0
  by_cases h0 : err = 0
  · subst h0
    rcases Nat.lt_or_ge L.length 4096 with h | h
    · have h' : (L.length : Int) < 4096 := by omega
      go_wp2_with fail
      go_ret3
      obtain ⟨h1, h2, h3⟩ := unhide HL
      exact allPost_of h1 h2 h3 (by simp [h])
    · have h' : ¬ (L.length : Int) < 4096 := by omega
      go_wp2_with fail
      go_ret3
      obtain ⟨h1, h2, h3⟩ := unhide HL
      exact allPost_of h1 h2 h3 (by simp; omega)
  · have h0' : (err == 0) = false := by simpa using h0
    go_wp2_with fail
    go_ret3
    obtain ⟨h1, h2, h3⟩ := unhide HL
    exact allPost_of h1 h2 h3 (by simp [h0])

end Go.Proofs.YtkggmodabpjobaaDoor


namespace Go.Proofs.YtkggmodabpjobaaDoor
open Go.RowKit

theorem tld_whole : ∀ (l : List Ev) (en k f : Nat) (L : List (Nat × List Gft)) (e : Nat), tld l en k f = (L, e) → e ≠ 10 → L.length < k → prsW l = L ∧ en = e ∧ tks l ≤ f
  | [], en, k, f, L, e, h, _, hk => by
    rw [tld_nil en f (by omega)] at h
    injection h with h1 h2
    exact ⟨h1, h2, Nat.zero_le _⟩
  | x :: l, en, k, f, L, e, h, he, hk => by
    rw [tld, if_neg (by omega)] at h
    rw [prsW_cons, tks_cons]
    by_cases h3 : x.w = 3
    · rw [if_pos h3] at h
      injection h with h1 h2
      obtain ⟨q1, q2, q3⟩ := tld_whole l en (k - 1) f _ _ rfl (by rw [h2]; exact he) (by rw [← h1] at hk; simp at hk; omega)
      rw [if_pos h3, if_neg (by omega), q1, h1]
      exact ⟨rfl, q2.trans h2, by omega⟩
    · rw [if_neg h3] at h
      rw [if_neg h3]
      by_cases h0 : x.w = 0
      · rw [if_pos h0] at h
        rw [if_pos h0]
        split at h
        · injection h with h1 h2
          exact absurd h2.symm he
        · obtain ⟨q1, q2, q3⟩ := tld_whole l en k (f - 1) L e h he hk
          exact ⟨q1, q2, by omega⟩
      · rw [if_neg h0] at h
        rw [if_neg h0]
        obtain ⟨q1, q2, q3⟩ := tld_whole l en k f L e h he hk
        exact ⟨q1, q2, by omega⟩

section
variable (s : ByteArray) (R : ByteArray → Option PT) (dg : Nat → ByteArray)
/-- The ways alone. -/
def W (n : Nat) (T : PT) (i : Nat) (g : List Gft) : Sq := onlyW (D s R dg n T i g)
end
theorem waysOf_ok {RL : List (ByteArray × PT)} {dg : Nat → ByteArray} {T : PT} {s : ByteArray} {i : Int} (h : allOk (waysOf RL dg T s i 4096 20000) = true) :
    ∃ j : Nat, i = j ∧ j ≤ s.size ∧ wrongR RL T s 20000 = 0 ∧ (D s (fun nm => ruleOf nm RL) dg 20001 T j []).2 ≠ 3 ∧ (D s (fun nm => ruleOf nm RL) dg 20001 T j []).2 ≠ 2 ∧ tks (D s (fun nm => ruleOf nm RL) dg 20001 T j []).1 ≤ 20000 ∧ waysOf RL dg T s i 4096 20000 = (prsW (D s (fun nm => ruleOf nm RL) dg 20001 T j []).1, decide ((D s (fun nm => ruleOf nm RL) dg 20001 T j []).2 = 1), 0) := by
  unfold allOk at h
  rw [Bool.and_eq_true, decide_eq_true_eq, decide_eq_true_eq] at h
  obtain ⟨h1, h2⟩ := h
  unfold waysOf at h1 h2 ⊢
  by_cases hw : wrongR RL T s 20000 = 0
  · rw [if_neg (by rw [hw]; simp)] at h1 h2 ⊢
    by_cases hr : i < 0 ∨ (s.size : Int) < i ∨ (4096 : Int) < 0 ∨ (4096 : Int) < 4096
    · rw [if_pos hr] at h1
      exact absurd h1 (by show ¬ ((3 : Int) = 0); decide)
    · rw [if_neg hr] at h1 h2 ⊢
      obtain ⟨j, rfl⟩ : ∃ j : Nat, i = j := ⟨i.toNat, by omega⟩
      rw [Int.toNat_natCast, show ((4096 : Int).toNat) = 4096 from rfl, show ((20000 : Int).toNat) = 20000 from rfl] at h1 h2 ⊢
      by_cases h10 : (told RL dg T s j 4096 20000).2 = 10
      · rw [if_pos h10] at h1
        exact absurd h1 (by show ¬ ((10 : Int) = 0); decide)
      · rw [if_neg h10] at h1 h2 ⊢
        by_cases h7 : (told RL dg T s j 4096 20000).2 = 2
        · rw [if_pos h7] at h1
          exact absurd h1 (by show ¬ ((7 : Int) = 0); decide)
        · rw [if_neg h7] at h1 h2 ⊢
          have ht := tld_whole _ _ 4096 20000 (told RL dg T s j 4096 20000).1 (told RL dg T s j 4096 20000).2 (show tld (D s (fun nm => ruleOf nm RL) dg 20001 T j []).1 (D s (fun nm => ruleOf nm RL) dg 20001 T j []).2 4096 20000 = _ from rfl) h10 h2
          refine ⟨j, rfl, by omega, hw, fun q => ?_, fun q => h7 (by rw [← ht.2.1]; exact q), ht.2.2, ?_⟩
          · have := D_dp s (fun nm => ruleOf nm RL) dg 20001 T j [] q
            omega
          · rw [ht.1, ht.2.1]
  · rw [if_pos hw] at h1
    exact absurd h1 hw

theorem prsW_of {p q : Sq} (h : onlyW p = onlyW q) : prsW p.1 = prsW q.1 ∧ p.2 = q.2 := by
  have h1 : wys p.1 = wys q.1 := congrArg Prod.fst h
  have h2 : (onlyW p).2 = (onlyW q).2 := by rw [h]
  exact ⟨by unfold prsW; rw [h1], h2⟩
/-- What is told of one whole is told of the other. -/
theorem same_of_le {RL : List (ByteArray × PT)} {dg : Nat → ByteArray} {T U : PT} {s : ByteArray} {i : Int} (hT : allOk (waysOf RL dg T s i 4096 20000) = true) (hU : allOk (waysOf RL dg U s i 4096 20000) = true) (hle : ∀ j : Nat, j ≤ s.size → wrongR RL T s 20000 = 0 → ∃ n, 20001 ≤ n ∧ Le (W s (fun nm => ruleOf nm RL) dg 20001 T j []) (W s (fun nm => ruleOf nm RL) dg n U j [])) :
    (waysOf RL dg T s i 4096 20000).1 = (waysOf RL dg U s i 4096 20000).1 ∧ (waysOf RL dg T s i 4096 20000).2.1 = (waysOf RL dg U s i 4096 20000).2.1 := by
  obtain ⟨j, rfl, hj, hw, h3, -, -, he⟩ := waysOf_ok hT
  obtain ⟨j', e', -, -, h3', -, -, he'⟩ := waysOf_ok hU
  have : j' = j := by omega
  subst this
  obtain ⟨n, hn, hl⟩ := hle j' hj hw
  rcases hl with hl | ⟨hl, -⟩
  · rw [W, W, D_same s _ dg hn U j' [] h3'] at hl
    obtain ⟨q1, q2⟩ := prsW_of hl
    rw [he, he', q1, q2]
    exact ⟨rfl, rfl⟩
  · exact absurd hl h3

theorem le_onlyW {p q : Sq} (h : Le p q) : Le (onlyW p) (onlyW q) := by
  rcases h with rfl | ⟨h1, h2⟩
  · exact le_refl _
  · exact .inr ⟨h1, h2.filter _⟩
section
variable {s : ByteArray} {R : ByteArray → Option PT} {dg : Nat → ByteArray}
theorem W_le {n m : Nat} (h : n ≤ m) (T : PT) (i : Nat) (g : List Gft) : Le (W s R dg n T i g) (W s R dg m T i g) := by
  have := le_onlyW (D_le_add s R dg n T i g (m - n))
  rw [show n + (m - n) = m by omega] at this
  exact this
theorem onlyW_tk (q : Sq) : onlyW (put tk q) = onlyW q := onlyW_put (by decide) q
theorem onlyW_hs (q : Sq) : onlyW (put hs q) = onlyW q := onlyW_put (by decide) q
theorem W_cat2 {n : Nat} {T : PT} (hk : T.k = 18) (hl : T.len = 2) (i : Nat) (g : List Gft) : W s R dg (n + 1) T i g = bd (W s R dg n (T.kid 0) i g) fun e g' => W s R dg n (T.kid 1) e g' := by
  unfold W
  rw [D, if_neg (by omega), if_neg (by omega), if_neg (by omega), if_neg (by omega), if_neg (by omega), if_neg (by omega), if_neg (by omega), if_pos hk, onlyW_tk, hl]
  show onlyW (bd (D s R dg n (T.kid 0) i g) fun e g' => put hs (D s R dg n (T.kid 1) e g')) = _
  rw [onlyW_bd]
  exact bd_congr _ fun e g' => onlyW_hs _
theorem W_cat3 {n : Nat} {T : PT} (hk : T.k = 18) (hl : T.len = 3) (i : Nat) (g : List Gft) : W s R dg (n + 1) T i g = bd (W s R dg n (T.kid 0) i g) fun e g' => bd (W s R dg n (T.kid 1) e g') fun e g' => W s R dg n (T.kid 2) e g' := by
  unfold W
  rw [D, if_neg (by omega), if_neg (by omega), if_neg (by omega), if_neg (by omega), if_neg (by omega), if_neg (by omega), if_neg (by omega), if_pos hk, onlyW_tk, hl]
  show onlyW (bd (D s R dg n (T.kid 0) i g) fun e g' => put hs (bd (D s R dg n (T.kid 1) e g') fun e g' => put hs (D s R dg n (T.kid 2) e g'))) = _
  rw [onlyW_bd]
  refine bd_congr _ fun e g' => ?_
  rw [onlyW_hs, onlyW_bd]
  exact bd_congr _ fun e g' => onlyW_hs _
theorem W_alt2 {n : Nat} {T : PT} (hk : T.k = 19) (hl : T.len = 2) (i : Nat) (g : List Gft) : W s R dg (n + 1) T i g = thn (W s R dg n (T.kid 0) i g) (W s R dg n (T.kid 1) i g) := by
  unfold W
  rw [D, if_neg (by omega), if_neg (by omega), if_neg (by omega), if_pos hk, onlyW_tk, hl]
  show onlyW (put hs (thn (D s R dg n (T.kid 0) i g) (put hs (thn (D s R dg n (T.kid 1) i g) nil)))) = _
  rw [nil_thn, onlyW_hs, onlyW_thn, onlyW_hs]
theorem W_alt3 {n : Nat} {T : PT} (hk : T.k = 19) (hl : T.len = 3) (i : Nat) (g : List Gft) : W s R dg (n + 1) T i g = thn (W s R dg n (T.kid 0) i g) (thn (W s R dg n (T.kid 1) i g) (W s R dg n (T.kid 2) i g)) := by
  unfold W
  rw [D, if_neg (by omega), if_neg (by omega), if_neg (by omega), if_pos hk, onlyW_tk, hl]
  show onlyW (put hs (thn (D s R dg n (T.kid 0) i g) (put hs (thn (D s R dg n (T.kid 1) i g) (put hs (thn (D s R dg n (T.kid 2) i g) nil)))))) = _
  rw [nil_thn, onlyW_hs, onlyW_thn, onlyW_hs, onlyW_thn, onlyW_hs]
theorem W_leaf {n : Nat} {T : PT} (h : leafK T.k) (i : Nat) (g : List Gft) : W s R dg (n + 1) T i g = match onl s T i with | some e => one (wy e g) | none => nil := by
  unfold W
  rw [D_leaf h, onlyW_tk]
  cases onl s T i <;> rfl
end

/-- A pattern of others. -/
def kidsP (k : Int) (b : Nat) (l : List PT) : PT := ⟨k, ⟨#[]⟩, 0, ⟨#[]⟩, some ⟨b, 0, none⟩, b, 0, l.length, l.length, fun i => l[i]⟩
theorem kidsP_kid {k : Int} {b : Nat} {l : List PT} {j : Nat} {x : PT} (h : l[j]? = some x) : (kidsP k b l).kid j = x := by
  obtain ⟨hj, hx⟩ := List.getElem?_eq_some_iff.1 h
  rw [PT.kid_at (T := kidsP k b l) hj]
  exact hx
def fiveV (T : PT) : List Value := [.int .i64 T.k, .string T.t, .int .i64 T.n, .string T.nm, .slice T.xa T.len T.cap]
theorem fiveV_len (T : PT) : (fiveV T).length = 5 := rfl
end Go.Proofs.YtkggmodabpjobaaDoor
