/- What Match does: of anything. -/
import Derived.Test.YtbmngbpillihaaaDoorLaw5MP
namespace Go.Proofs.YtbmngbpillihaaaDoor
open Go.RowKit

def Made (RL : List (ByteArray × PT)) (v : Value) (T : PT) (s : ByteArray) (f room : Nat) (w1 : World) (g : Nat) (w2 : World) : Prop := ∃ m N, Rep w2 w1.heap.size g m N (List.replicate RL.length (-1)) [] [] [] [] ∧ m.s = s ∧ (RL ≠ [] → m.rv = v) ∧ m.fuel = f ∧ m.room = room ∧ m.ticks = 0 ∧ m.told = 0 ∧ m.shut = false ∧ m.err = 0 ∧ m.begun = false ∧ m.root = 0 ∧ Lies (fun nm => ruleAt nm RL 0) N T 0 ∧ (Fresh 0 N ∧ N.length = T.cnt) ∧ Below w1.heap.size w1 w2
def Looked (r : MR) (room : Nat) (w1 : World) (g : Nat) (w2 : World) (e : Ending) (w' : World) : Prop := ∃ m N O W C G S a1 c1 a2 n2 c2, Rep w' w1.heap.size g m N O W C G S ∧ m.room = room ∧ Below w1.heap.size w2 w' ∧ m.err = r.err ∧ Tl m r.told ∧
  e = .returned (.agg #[.bool r.found, .int .i64 (r.fr : Int), .int .i64 (r.to : Int), .slice a1 r.G.length c1, .slice a2 n2 c2, .int .i64 (r.ticks : Int)]) ∧
  Row w' w1.heap.size 74 2 gfV (.slice a1 r.G.length c1) r.G ∧ (r.err = 0 → Row w' w1.heap.size 74 2 gfV (.slice a2 n2 c2) (r.told.take room))
theorem look_new {RL : List (ByteArray × PT)} {v : Value} {dg : Nat → ByteArray} {T : PT} {s : ByteArray} {f room g : Nat} {w1 w2 : World} (hM : Made RL v T s f room w1 g w2) (hq : wrongR RL T s f = 0) (hV : RVal w1 RL v) (hIt : ItoaSays dg w1) (hr : room ≤ 100000000000) (last : Nat) (hl : last ≤ s.size) :
    Calls Tryd.prog 37 #[.pointer (some ⟨g, 0, none⟩), .int .i64 (last : Int)] w2 (Looked (matchOf RL dg T s last f) room w1 g w2) := by
  obtain ⟨m, N, r2, m1, mr, m2, m3, m4, m5, m6, m7, m8, m9, l2, fr2, hb2⟩ := hM
  obtain ⟨hw1, hw2, hs6, -, hf6'⟩ := wrongR_ok hq
  have hf6 : f ≤ 100000 := by omega
  obtain ⟨hF, hNZ, hcn⟩ := right_of hw1
  have hRR := rules_right hw2
  have hI : Idle ⟨s, fun nm => ruleOf nm RL, dg, fun nm => ruleAt nm RL 0, f, w1.heap.size, g, T, 0, room, RL, w1, m.rv⟩ 0 [] w2 m N (List.replicate RL.length (-1)) [] [] [] [] :=
    ⟨r2, m1, m2, m9, m3, m4, Nat.zero_le _, m7, m6, m5, l2, fresh_ns fr2.1, List.take_nil.symm, rfl, rooted_new ⟨0, 0, s, fun nm => ruleAt nm RL 0, fun _ => none, dg, 0, 0, nil, m, w1, [], [], RL, w1, 0⟩ N, by rw [unl_new]; have := hRR.1; have := fr2.2; omega, by rw [m5]; exact Nat.zero_le _, hb2⟩
  have hOk : LC.Ok ⟨s, fun nm => ruleOf nm RL, dg, fun nm => ruleAt nm RL 0, f, w1.heap.size, g, T, 0, room, RL, w1, m.rv⟩ := by
    intro t0 D0 m0 w' N0 L0 e1 e2
    exact rc_new (v := v) (Nat.le_refl _) hV (fun q => e1.trans (mr q)) hRR.1 (fun i R hR => right_of (hRR.2 i R hR).2.2) rfl rfl hIt (by show m0.room ≤ _; rw [e2]; exact hr) (Nat.zero_le _)
  exact look_any hI hOk hF hf6 hs6 last hl
def matchSaid (RL : List (ByteArray × PT)) (dg : Nat → ByteArray) (T : PT) (s : ByteArray) (an : Bool) (f : Int) : MR :=
  if wrongR RL T s f ≠ 0 then ⟨false, 0, 0, [], 0, [], wrongR RL T s f⟩ else matchOf RL dg T s (if an = true then 0 else s.size) f.toNat
set_option maxRecDepth 100000 in
set_option maxHeartbeats 1000000 in
theorem match_wrong {RL : List (ByteArray × PT)} {v : Value} (T : PT) (s : ByteArray) (an : Bool) (f : Int) (w : World) (hV : RVal w RL v) (hT : T.In w) (hS : Shapes w) (hs : s.size ≤ maxLen) (hq : wrongR RL T s f ≠ 0) :
    Calls Tryd.prog 17 #[v, pv T, .string s, .bool an, .int .i64 f] w (MatchPost ⟨false, 0, 0, [], 0, [], wrongR RL T s f⟩ w) := by
  have hb0 : Below w.heap.size w ((w.alloc (.cells #[.int .i64 T.k, .string T.t, .int .i64 T.n, .string T.nm, .slice T.xa T.len T.cap] 24)).alloc (.cells zeroM 46)) := ((Below.refl _ _).alloc (Nat.le_refl _) _).alloc (by simp) _
  have HW := hide (wrong_rules T s f _ (hV.later hb0) (PT.In.later hb0 hT) (hS.later hb0) hs)
  have HB0 := hide hb0
  obtain ⟨er, her⟩ : ∃ er, er = wrongR RL T s f := ⟨_, rfl⟩
  rw [← her] at HW hq ⊢
  have he' : (er == 0) = false := by simpa using hq
  have he2 : (er != 0) = true := by simpa using hq
  unfold MatchPost
  dsimp only
  unfold pv at HW ⊢
  unfold zeroM at HW
  clear hT hS hb0 hs hV her
  go_enter Tryd.func17, Tryd.ntmps17
  go_wp2_with fail
  refine (unhide HW).mono ?_
  rintro e w1 ⟨rfl, hb1⟩
  have hz1 : w1.heap[w.heap.size + 1]? = some (.cells zeroM 46 (0, 0)) := row_below (at_new (by simp)) hb1
  have HB1 := hide (And.intro (bnext (unhide HB0) hb1) hz1)
  have hf : ∀ o, w1.frozen? ⟨w.heap.size + 1, o, none⟩ = false := fun o => frozen_of_row w1 _ o _ _ hz1
  have z0 := hf 0
  have z1 := hf 1
  have z2 := hf 2
  have z3 := hf 3
  have z4 := hf 4
  have z5 := hf 5
  have y0 : w1.cell? ⟨w.heap.size + 1, 0, none⟩ = some (.bool false) := by rw [cell_of_row _ _ _ _ _ _ hz1]; rfl
  have y1 : w1.cell? ⟨w.heap.size + 1, 1, none⟩ = some (.int .i64 0) := by rw [cell_of_row _ _ _ _ _ _ hz1]; rfl
  have y2 : w1.cell? ⟨w.heap.size + 1, 2, none⟩ = some (.int .i64 0) := by rw [cell_of_row _ _ _ _ _ _ hz1]; rfl
  have y3 : w1.cell? ⟨w.heap.size + 1, 3, none⟩ = some (.slice none 0 0) := by rw [cell_of_row _ _ _ _ _ _ hz1]; rfl
  have y4 : w1.cell? ⟨w.heap.size + 1, 4, none⟩ = some (.slice none 0 0) := by rw [cell_of_row _ _ _ _ _ _ hz1]; rfl
  have y5 : w1.cell? ⟨w.heap.size + 1, 5, none⟩ = some (.int .i64 0) := by rw [cell_of_row _ _ _ _ _ _ hz1]; rfl
  clear hb1 hz1 HW HB0 hf
  go_wp2_with fail
  exact bodyPost_ret (results_match rfl _ _ (w.heap.size + 1) zeroM rfl (set6_nd (unhide HB1).2 _ _ _ _ _ _) size_match) rfl ⟨none, 0, none, 0, 0, rfl, But.below (unhide HB1).1 (set6_but0 _ _ _ _ _ _ _ _) (by omega), World.ownsRow_nil _ _ _ 2, fun q => absurd q hq⟩
theorem new_made {w : World} {RL : List (ByteArray × PT)} {v : Value} (T : PT) (s : ByteArray) (fuel room : Nat) (h : RVal w RL v) (hl : RL.length ≤ 64) (hT : T.In w) (hs : s.size ≤ 65536) (hcn : T.cnt ≤ 100000) (hNZ : NZ T) :
    Calls Tryd.prog 33 #[v, pv T, .string s, .int .i64 (fuel : Int), .int .i64 (room : Int)] w fun e w' => ∃ g, e = .returned (.pointer (some ⟨g, 0, none⟩)) ∧ Made RL v T s fuel room w g w' := by
  refine (new_val T s fuel room h hl hT hs hcn hNZ).mono ?_
  rintro e w' ⟨g, m, N, rfl, q⟩
  exact ⟨g, rfl, m, N, q⟩
theorem Made.below {RL : List (ByteArray × PT)} {v : Value} {T : PT} {s : ByteArray} {f room g : Nat} {w1 w2 : World} (h : Made RL v T s f room w1 g w2) : Below w1.heap.size w1 w2 := by
  obtain ⟨m, N, r2, m1, mr, m2, m3, m4, m5, m6, m7, m8, m9, l2, fr2, hb2⟩ := h
  exact hb2
theorem pats5 {w : World} {z : Nat} {v0 v1 v2 v3 v4 : Value} (h : w.heap[z]? = some (.cells #[v0, v1, v2, v3, v4] 24 (0, 0))) :
    w.cell? ⟨z, 0, none⟩ = some v0 ∧ w.cell? ⟨z, 1, none⟩ = some v1 ∧ w.cell? ⟨z, 2, none⟩ = some v2 ∧ w.cell? ⟨z, 3, none⟩ = some v3 ∧ w.cell? ⟨z, 4, none⟩ = some v4 :=
  ⟨(cell_of_row w _ _ _ _ _ h).trans rfl, (cell_of_row w _ _ _ _ _ h).trans rfl, (cell_of_row w _ _ _ _ _ h).trans rfl, (cell_of_row w _ _ _ _ _ h).trans rfl, (cell_of_row w _ _ _ _ _ h).trans rfl⟩
theorem cells6 {w : World} {z : Nat} {v0 v1 v2 v3 v4 v5 : Value} (h : w.heap[z]? = some (.cells #[v0, v1, v2, v3, v4, v5] 46 (0, 0))) :
    (w.cell? ⟨z, 0, none⟩ = some v0 ∧ w.cell? ⟨z, 1, none⟩ = some v1 ∧ w.cell? ⟨z, 2, none⟩ = some v2 ∧ w.cell? ⟨z, 3, none⟩ = some v3 ∧ w.cell? ⟨z, 4, none⟩ = some v4 ∧ w.cell? ⟨z, 5, none⟩ = some v5) ∧ ∀ o, w.frozen? ⟨z, o, none⟩ = false :=
  ⟨⟨(cell_of_row w _ _ _ _ _ h).trans rfl, (cell_of_row w _ _ _ _ _ h).trans rfl, (cell_of_row w _ _ _ _ _ h).trans rfl, (cell_of_row w _ _ _ _ _ h).trans rfl, (cell_of_row w _ _ _ _ _ h).trans rfl, (cell_of_row w _ _ _ _ _ h).trans rfl⟩, fun o => frozen_of_row w z o _ _ h⟩
theorem wpList_store_eqM {ops : Array Oper} {rest : List Oper} {o : Oper} {a : Act} {w W : World} {Q : Exit → Act → World → Prop} (hgd : o.guard = none) (ty : TypeId) (x y : Operand) (ho : o.op = .store ty x y)
    (g : Nat) (cells : Array Value) (hx : a.eval x = .pointer (some ⟨g, 0, none⟩)) (hy : a.eval y = .agg cells)
    (t : TypeId) (old : Array Value) (hg : w.heap[g]? = some (.cells old t (0, 0))) (hi : (Tryd.prog.info? ty).map (·.size) = some cells.size)
    (hold : old.size = cells.size) (h1 : cells.all (·.oneCell') = true) (hW : W = w.setRow g cells)
    (h : wpList Tryd.prog ops Q rest (a.put o.dst undef) W) : wpList Tryd.prog ops Q (o :: rest) a w :=
  wpList_store_row hgd ty x y ho g cells hx hy t old hg hi hold h1 (hW ▸ h)
theorem but_setRow (w : World) (z : Nat) (c : Array Value) : But z w (w.setRow z c) := ⟨rfl, rfl, rfl, by simp, fun k _ hk => setRow_other w z k c hk⟩
theorem cell_setRow {w : World} {z g k : Nat} {c : Array Value} {v : Value} (hne : ¬ g = z) (h : w.cell? ⟨g, k, none⟩ = some v) : (w.setRow z c).cell? ⟨g, k, none⟩ = some v := by
  have e : (w.setRow z c).heap[g]? = w.heap[g]? := setRow_other _ _ _ _ hne
  unfold World.cell? at h ⊢
  rw [e]
  exact h
set_option maxRecDepth 100000 in
set_option maxHeartbeats 600000 in
theorem match_onceF {RL : List (ByteArray × PT)} {v : Value} (dg : Nat → ByteArray) (T : PT) (s : ByteArray) (f : Nat) (w : World) (hV : RVal w RL v) (hIt : ItoaSays dg w) (hT : T.In w) (hS : Shapes w) (hs : s.size ≤ maxLen) (hq : wrongR RL T s f = 0) (r : MR) (hr : matchOf RL dg T s s.size f = r) (ht : r.err = 0 → r.told.length ≤ 65536) :
    Calls Tryd.prog 17 #[v, pv T, .string s, .bool false, .int .i64 (f : Int)] w (MatchPost r w) := by
  obtain ⟨fd, fr, tz, GG, tt, td, er⟩ := r
  have ht : er = 0 → td.length ≤ 65536 := ht
  have hb0 : Below w.heap.size w ((w.alloc (.cells #[.int .i64 T.k, .string T.t, .int .i64 T.n, .string T.nm, .slice T.xa T.len T.cap] 24)).alloc (.cells zeroM 46)) := ((Below.refl _ _).alloc (Nat.le_refl _) _).alloc (by simp) _
  have HW := hide (wrong_rules T s f _ (hV.later hb0) (PT.In.later hb0 hT) (hS.later hb0) hs)
  obtain ⟨hw1, hw2, hs6, -, hf6'⟩ := wrongR_ok hq
  have hf6 : f ≤ 100000 := by omega
  obtain ⟨hF, hNZ, hcn⟩ := right_of hw1
  have hRR := rules_right hw2
  have HN := hide (fun W (h : Below w.heap.size w W) => new_val (w := W) T s f 65536 (hV.later h) hRR.1 (PT.In.later h hT) hs6 (by omega) hNZ)
  have HB0 := hide hb0
  have HF := hide (And.intro hF (And.intro hf6 (And.intro hs6 (And.intro ht (And.intro hV (And.intro hIt (And.intro hRR hcn)))))))
  unfold pv at HW HN ⊢
  unfold zeroM at HW
  rw [hq] at HW
  clear hT hS hb0 hs hq hF hcn ht hNZ hRR hV hIt hw1 hw2 hf6'
  go_enter Tryd.func17, Tryd.ntmps17
  go_wp2_with fail
  refine (unhide HW).mono ?_
  rintro e w1 ⟨rfl, hb1⟩
  have hbx : w1.heap[w.heap.size]? = some (.cells #[.int .i64 T.k, .string T.t, .int .i64 T.n, .string T.nm, .slice T.xa T.len T.cap] 24 (0, 0)) := row_below (at_old (by simp) (at_new (w := w) rfl)) hb1
  have hz1 : w1.heap[w.heap.size + 1]? = some (.cells zeroM 46 (0, 0)) := row_below (at_new (by simp)) hb1
  have z0 : w1.cell? ⟨w.heap.size, 0, none⟩ = some (.int .i64 T.k) := by rw [cell_of_row _ _ _ _ _ _ hbx]; rfl
  have z1 : w1.cell? ⟨w.heap.size, 1, none⟩ = some (.string T.t) := by rw [cell_of_row _ _ _ _ _ _ hbx]; rfl
  have z2 : w1.cell? ⟨w.heap.size, 2, none⟩ = some (.int .i64 T.n) := by rw [cell_of_row _ _ _ _ _ _ hbx]; rfl
  have z3 : w1.cell? ⟨w.heap.size, 3, none⟩ = some (.string T.nm) := by rw [cell_of_row _ _ _ _ _ _ hbx]; rfl
  have z4 : w1.cell? ⟨w.heap.size, 4, none⟩ = some (.slice T.xa T.len T.cap) := by rw [cell_of_row _ _ _ _ _ _ hbx]; rfl
  have HB1 := hide (And.intro (bnext (unhide HB0) hb1) hz1)
  clear hbx hb1 hz1 HW HB0
  go_wp2_with fail
  refine (unhide HN w1 (unhide HB1).1).mono ?_
  rintro e w2 ⟨g, m, N, rfl, r2, m1, mr, m2, m3, m4, m5, m6, m7, m8, m9, l2, fr2, hb2⟩
  obtain ⟨Z, hZ⟩ : ∃ Z : LC, Z = ⟨s, fun nm => ruleOf nm RL, dg, fun nm => ruleAt nm RL 0, f, w1.heap.size, g, T, 0, 65536, RL, w1, m.rv⟩ := ⟨_, rfl⟩
  have hI : Idle Z 0 [] w2 m N (List.replicate RL.length (-1)) [] [] [] [] := by
    rw [hZ]
    exact ⟨r2, m1, m2, m9, m3, m4, Nat.zero_le _, m7, m6, m5, l2, fresh_ns fr2.1, rfl, rfl, rooted_new ⟨0, 0, s, fun nm => ruleAt nm RL 0, fun _ => none, dg, 0, 0, nil, m, w, [], [], RL, w, 0⟩ N, by rw [unl_new]; have := (unhide HF).2.2.2.2.2.2.1.1; have := (unhide HF).2.2.2.2.2.2.2; have := fr2.2; omega, by rw [m5]; exact Nat.zero_le _, hb2⟩
  have hOk : Z.Ok := by
    rw [hZ]
    intro t0 D0 m0 w' N0 L0 e1 e2
    exact rc_new (v := v) (Nat.le_refl _) ((unhide HF).2.2.2.2.1.later (unhide HB1).1) (fun q => e1.trans (mr q)) (unhide HF).2.2.2.2.2.2.1.1 (fun i R hR => right_of ((unhide HF).2.2.2.2.2.2.1.2 i R hR).2.2) rfl rfl ((fun (n : Nat) hn W hW => (unhide HF).2.2.2.2.2.1 n hn W (bnext (unhide HB1).1 hW))) (by show m0.room ≤ _; rw [e2]; show 65536 ≤ 100000000000; decide) (Nat.zero_le _)
  have hZg : Z.g = g := by rw [hZ]
  have HL := hide (look_any hI hOk (by rw [hZ]; exact (unhide HF).1) (by rw [hZ]; exact (unhide HF).2.1) (by rw [hZ]; exact (unhide HF).2.2.1) s.size (by rw [hZ]; exact Nat.le_refl _))
  have HZ := hide (show Z.B = w1.heap.size ∧ Z.room = 65536 ∧ lk Z.Q Z.fuel (s.size + 1) 0 0 [] = ⟨fd, fr, tz, GG, tt, td, er⟩ by rw [hZ]; exact ⟨rfl, rfl, hr⟩)
  have HZ1 := hide (show w.heap.size + 1 < w1.heap.size from (Array.getElem?_eq_some_iff.1 (unhide HB1).2).1)
  have HB2 := hide (And.intro (bnext (unhide HB1).1 hb2) (And.intro hb2 (row_below (unhide HB1).2 hb2)))
  rw [← hZg]
  clear hZ hZg hI hOk r2 m1 mr m2 m3 m4 m5 m6 m7 m8 m9 l2 fr2 hb2 z0 z1 z2 z3 z4 HN HB1
  go_wp2_with fail
  refine (unhide HL).mono ?_
  rintro e w3 ⟨m, N, O, W, C, G, S, a1, c1, a2, n2, c2, r3, hrm, hb3, her, htd, rfl, hG, hSd⟩
  rw [(unhide HZ).2.2] at her htd hG hSd ⊢
  dsimp only at her htd hG hSd ⊢
  have hSd : er = 0 → Row w3 Z.B 74 2 gfV (.slice a2 n2 c2) td := fun q => by have := hSd q; rwa [(unhide HZ).2.1, List.take_of_length_le (ht q)] at this
  have c13 := r3.c13
  have c14 := r3.c14
  have c18 := r3.c18
  rw [her] at c18
  rw [htd.1] at c13
  rw [hrm, (unhide HZ).2.1] at c14
  have HR := hide (And.intro r3 (And.intro hb3 hG))
  have HSD := hide hSd
  clear hSd
  have HT := hide ht
  clear r3 hrm hb3 hG her htd hr HF
  have hz3 : w3.heap[w.heap.size + 1]? = some (.cells zeroM 46 (0, 0)) := ((unhide HR).2.1.block _ (by rw [(unhide HZ).1]; exact unhide HZ1)).trans (unhide HB2).2.2
  have hd : Below w3.heap.size w3 (w3.alloc (.cells #[.bool fd, .int .i64 (fr : Int), .int .i64 (tz : Int), .slice a1 GG.length c1, .slice a2 n2 c2, .int .i64 (tt : Int)] 46)) := (Below.refl _ _).alloc (Nat.le_refl _) _
  have r4 := (unhide HR).1.later hd
  have hz4 := row_below hz3 hd
  have hy4 : (w3.alloc (.cells #[.bool fd, .int .i64 (fr : Int), .int .i64 (tz : Int), .slice a1 GG.length c1, .slice a2 n2 c2, .int .i64 (tt : Int)] 46)).heap[w3.heap.size]? = some (.cells #[.bool fd, .int .i64 (fr : Int), .int .i64 (tz : Int), .slice a1 GG.length c1, .slice a2 n2 c2, .int .i64 (tt : Int)] 46 (0, 0)) := at_new rfl
  have hw1 : w1.heap.size ≤ w3.heap.size := Nat.le_trans (unhide HB2).2.1.size (unhide HR).2.1.size
  have hne : ¬ w.heap.size + 1 = w3.heap.size := by have := unhide HZ1; omega
  have hne' : ¬ w3.heap.size = w.heap.size + 1 := fun e => hne e.symm
  have hgz : ¬ Z.g = w.heap.size + 1 := fun e => blk_not_owned (unhide HR).1 hz3 (.inl e.symm)
  have hzg : ¬ w.heap.size + 1 = Z.g := fun e => hgz e.symm
  have HGG := hide ((unhide HR).2.2.later hd)
  have HSG := hide (fun q => (unhide HSD q).later hd)
  have HBB : Hid (Below w.heap.size w (w3.alloc (.cells #[.bool fd, .int .i64 (fr : Int), .int .i64 (tz : Int), .slice a1 GG.length c1, .slice a2 n2 c2, .int .i64 (tt : Int)] 46))) := hide (bnext (bel_trans (unhide HB2).1 ((unhide HR).2.1.mono (by rw [(unhide HZ).1]; have := unhide HZ1; omega)) (Nat.le_refl _)) hd)
  have HZB := hide (show w.heap.size ≤ Z.B by rw [(unhide HZ).1]; have := unhide HZ1; omega)
  obtain ⟨w4, hw4⟩ : ∃ w4, w4 = w3.alloc (.cells #[.bool fd, .int .i64 (fr : Int), .int .i64 (tz : Int), .slice a1 GG.length c1, .slice a2 n2 c2, .int .i64 (tt : Int)] 46) := ⟨_, rfl⟩
  have d13 := cell_later hd c13
  have d14 := cell_later hd c14
  have d18 := cell_later hd c18
  rw [← hw4] at d13 d14 d18 HBB hz4 hy4 r4 HGG HSG
  clear c13 c14 c18 r4 hz3 hd HR HB2 hw1
  have y0 : w4.cell? ⟨w.heap.size + 1, 0, none⟩ = some (.bool false) := by rw [cell_of_row _ _ _ _ _ _ hz4]; rfl
  have x0 : w4.cell? ⟨w3.heap.size, 0, none⟩ = some (.bool fd) := by rw [cell_of_row _ _ _ _ _ _ hy4]; rfl
  have z0 : w4.frozen? ⟨w.heap.size + 1, 0, none⟩ = false := frozen_of_row w4 _ _ _ _ hz4
  have y1 : w4.cell? ⟨w.heap.size + 1, 1, none⟩ = some (.int .i64 0) := by rw [cell_of_row _ _ _ _ _ _ hz4]; rfl
  have x1 : w4.cell? ⟨w3.heap.size, 1, none⟩ = some (.int .i64 (fr : Int)) := by rw [cell_of_row _ _ _ _ _ _ hy4]; rfl
  have z1 : w4.frozen? ⟨w.heap.size + 1, 1, none⟩ = false := frozen_of_row w4 _ _ _ _ hz4
  have y2 : w4.cell? ⟨w.heap.size + 1, 2, none⟩ = some (.int .i64 0) := by rw [cell_of_row _ _ _ _ _ _ hz4]; rfl
  have x2 : w4.cell? ⟨w3.heap.size, 2, none⟩ = some (.int .i64 (tz : Int)) := by rw [cell_of_row _ _ _ _ _ _ hy4]; rfl
  have z2 : w4.frozen? ⟨w.heap.size + 1, 2, none⟩ = false := frozen_of_row w4 _ _ _ _ hz4
  have y3 : w4.cell? ⟨w.heap.size + 1, 3, none⟩ = some (.slice none 0 0) := by rw [cell_of_row _ _ _ _ _ _ hz4]; rfl
  have x3 : w4.cell? ⟨w3.heap.size, 3, none⟩ = some (.slice a1 GG.length c1) := by rw [cell_of_row _ _ _ _ _ _ hy4]; rfl
  have z3 : w4.frozen? ⟨w.heap.size + 1, 3, none⟩ = false := frozen_of_row w4 _ _ _ _ hz4
  have y4 : w4.cell? ⟨w.heap.size + 1, 4, none⟩ = some (.slice none 0 0) := by rw [cell_of_row _ _ _ _ _ _ hz4]; rfl
  have x4 : w4.cell? ⟨w3.heap.size, 4, none⟩ = some (.slice a2 n2 c2) := by rw [cell_of_row _ _ _ _ _ _ hy4]; rfl
  have z4 : w4.frozen? ⟨w.heap.size + 1, 4, none⟩ = false := frozen_of_row w4 _ _ _ _ hz4
  have y5 : w4.cell? ⟨w.heap.size + 1, 5, none⟩ = some (.int .i64 0) := by rw [cell_of_row _ _ _ _ _ _ hz4]; rfl
  have x5 : w4.cell? ⟨w3.heap.size, 5, none⟩ = some (.int .i64 (tt : Int)) := by rw [cell_of_row _ _ _ _ _ _ hy4]; rfl
  have z5 : w4.frozen? ⟨w.heap.size + 1, 5, none⟩ = false := frozen_of_row w4 _ _ _ _ hz4
  have HZ4 := hide hz4
  clear hz4 hy4
  by_cases he : er = 0
  · subst he
    have ht' : ¬ ((65536 : Nat) : Int) < (td.length : Int) := by have := ht rfl; omega
    clear ht
    go_wp2_with fail
    rw [← hw4]
    clear hw4
    go_quiet (fail)
    go_wp2_with fail
    go_region
    go_wp2_with fail
    exact bodyPost_ret (results_match rfl _ _ (w.heap.size + 1) #[.bool fd, .int .i64 (fr : Int), .int .i64 (tz : Int), .slice a1 GG.length c1, .slice a2 n2 c2, .int .i64 (tt : Int)] rfl (set6_nd (row_below (unhide HZ4) (below_drewN (Below.refl _ _) (nq + 1))) _ _ _ _ _ _) size_match) rfl ⟨a1, c1, a2, n2, c2, rfl, But.below (below_drewN (unhide HBB) (nq + 1)) (set6_but0 _ _ _ _ _ _ _ _) (by omega), (((unhide HGG).later (below_drewN (Below.refl _ _) (nq + 1))).keepBut (row_below (unhide HZ4) (below_drewN (Below.refl _ _) (nq + 1))) (by decide) (set6_but0 _ _ _ _ _ _ _ _)).lower (unhide HZB), fun q => (((unhide HSG (by first | trivial | exact q)).later (below_drewN (Below.refl _ _) (nq + 1))).keepBut (row_below (unhide HZ4) (below_drewN (Below.refl _ _) (nq + 1))) (by decide) (set6_but0 _ _ _ _ _ _ _ _)).lower (unhide HZB)⟩
  · have he' : (er == 0) = false := by simpa using he
    clear ht
    go_wp2_with fail
    rw [← hw4]
    clear hw4
    go_quiet (fail)
    go_wp2_with fail
    go_region
    go_wp2_with fail
    exact bodyPost_ret (results_match rfl _ _ (w.heap.size + 1) #[.bool fd, .int .i64 (fr : Int), .int .i64 (tz : Int), .slice a1 GG.length c1, .slice a2 n2 c2, .int .i64 (tt : Int)] rfl (set6_nd (row_below (unhide HZ4) (below_drewN (Below.refl _ _) (nq + 1))) _ _ _ _ _ _) size_match) rfl ⟨a1, c1, a2, n2, c2, rfl, But.below (below_drewN (unhide HBB) (nq + 1)) (set6_but0 _ _ _ _ _ _ _ _) (by omega), (((unhide HGG).later (below_drewN (Below.refl _ _) (nq + 1))).keepBut (row_below (unhide HZ4) (below_drewN (Below.refl _ _) (nq + 1))) (by decide) (set6_but0 _ _ _ _ _ _ _ _)).lower (unhide HZB), fun q => (((unhide HSG (by first | trivial | exact q)).later (below_drewN (Below.refl _ _) (nq + 1))).keepBut (row_below (unhide HZ4) (below_drewN (Below.refl _ _) (nq + 1))) (by decide) (set6_but0 _ _ _ _ _ _ _ _)).lower (unhide HZB)⟩
set_option maxRecDepth 100000 in
set_option maxHeartbeats 600000 in
theorem match_onceT {RL : List (ByteArray × PT)} {v : Value} (dg : Nat → ByteArray) (T : PT) (s : ByteArray) (f : Nat) (w : World) (hV : RVal w RL v) (hIt : ItoaSays dg w) (hT : T.In w) (hS : Shapes w) (hs : s.size ≤ maxLen) (hq : wrongR RL T s f = 0) (r : MR) (hr : matchOf RL dg T s 0 f = r) (ht : r.err = 0 → r.told.length ≤ 65536) :
    Calls Tryd.prog 17 #[v, pv T, .string s, .bool true, .int .i64 (f : Int)] w (MatchPost r w) := by
  obtain ⟨fd, fr, tz, GG, tt, td, er⟩ := r
  have ht : er = 0 → td.length ≤ 65536 := ht
  have hb0 : Below w.heap.size w ((w.alloc (.cells #[.int .i64 T.k, .string T.t, .int .i64 T.n, .string T.nm, .slice T.xa T.len T.cap] 24)).alloc (.cells zeroM 46)) := ((Below.refl _ _).alloc (Nat.le_refl _) _).alloc (by simp) _
  have HW := hide (wrong_rules T s f _ (hV.later hb0) (PT.In.later hb0 hT) (hS.later hb0) hs)
  obtain ⟨hw1, hw2, hs6, -, hf6'⟩ := wrongR_ok hq
  have hf6 : f ≤ 100000 := by omega
  obtain ⟨hF, hNZ, hcn⟩ := right_of hw1
  have hRR := rules_right hw2
  have HN := hide (fun W (h : Below w.heap.size w W) => new_val (w := W) T s f 65536 (hV.later h) hRR.1 (PT.In.later h hT) hs6 (by omega) hNZ)
  have HB0 := hide hb0
  have HF := hide (And.intro hF (And.intro hf6 (And.intro hs6 (And.intro ht (And.intro hV (And.intro hIt (And.intro hRR hcn)))))))
  unfold pv at HW HN ⊢
  unfold zeroM at HW
  rw [hq] at HW
  clear hT hS hb0 hs hq hF hcn ht hNZ hRR hV hIt hw1 hw2 hf6'
  go_enter Tryd.func17, Tryd.ntmps17
  go_wp2_with fail
  refine (unhide HW).mono ?_
  rintro e w1 ⟨rfl, hb1⟩
  have hbx : w1.heap[w.heap.size]? = some (.cells #[.int .i64 T.k, .string T.t, .int .i64 T.n, .string T.nm, .slice T.xa T.len T.cap] 24 (0, 0)) := row_below (at_old (by simp) (at_new (w := w) rfl)) hb1
  have hz1 : w1.heap[w.heap.size + 1]? = some (.cells zeroM 46 (0, 0)) := row_below (at_new (by simp)) hb1
  have z0 : w1.cell? ⟨w.heap.size, 0, none⟩ = some (.int .i64 T.k) := by rw [cell_of_row _ _ _ _ _ _ hbx]; rfl
  have z1 : w1.cell? ⟨w.heap.size, 1, none⟩ = some (.string T.t) := by rw [cell_of_row _ _ _ _ _ _ hbx]; rfl
  have z2 : w1.cell? ⟨w.heap.size, 2, none⟩ = some (.int .i64 T.n) := by rw [cell_of_row _ _ _ _ _ _ hbx]; rfl
  have z3 : w1.cell? ⟨w.heap.size, 3, none⟩ = some (.string T.nm) := by rw [cell_of_row _ _ _ _ _ _ hbx]; rfl
  have z4 : w1.cell? ⟨w.heap.size, 4, none⟩ = some (.slice T.xa T.len T.cap) := by rw [cell_of_row _ _ _ _ _ _ hbx]; rfl
  have HB1 := hide (And.intro (bnext (unhide HB0) hb1) hz1)
  clear hbx hb1 hz1 HW HB0
  go_wp2_with fail
  refine (unhide HN w1 (unhide HB1).1).mono ?_
  rintro e w2 ⟨g, m, N, rfl, r2, m1, mr, m2, m3, m4, m5, m6, m7, m8, m9, l2, fr2, hb2⟩
  obtain ⟨Z, hZ⟩ : ∃ Z : LC, Z = ⟨s, fun nm => ruleOf nm RL, dg, fun nm => ruleAt nm RL 0, f, w1.heap.size, g, T, 0, 65536, RL, w1, m.rv⟩ := ⟨_, rfl⟩
  have hI : Idle Z 0 [] w2 m N (List.replicate RL.length (-1)) [] [] [] [] := by
    rw [hZ]
    exact ⟨r2, m1, m2, m9, m3, m4, Nat.zero_le _, m7, m6, m5, l2, fresh_ns fr2.1, rfl, rfl, rooted_new ⟨0, 0, s, fun nm => ruleAt nm RL 0, fun _ => none, dg, 0, 0, nil, m, w, [], [], RL, w, 0⟩ N, by rw [unl_new]; have := (unhide HF).2.2.2.2.2.2.1.1; have := (unhide HF).2.2.2.2.2.2.2; have := fr2.2; omega, by rw [m5]; exact Nat.zero_le _, hb2⟩
  have hOk : Z.Ok := by
    rw [hZ]
    intro t0 D0 m0 w' N0 L0 e1 e2
    exact rc_new (v := v) (Nat.le_refl _) ((unhide HF).2.2.2.2.1.later (unhide HB1).1) (fun q => e1.trans (mr q)) (unhide HF).2.2.2.2.2.2.1.1 (fun i R hR => right_of ((unhide HF).2.2.2.2.2.2.1.2 i R hR).2.2) rfl rfl ((fun (n : Nat) hn W hW => (unhide HF).2.2.2.2.2.1 n hn W (bnext (unhide HB1).1 hW))) (by show m0.room ≤ _; rw [e2]; show 65536 ≤ 100000000000; decide) (Nat.zero_le _)
  have hZg : Z.g = g := by rw [hZ]
  have HL := hide (look_any hI hOk (by rw [hZ]; exact (unhide HF).1) (by rw [hZ]; exact (unhide HF).2.1) (by rw [hZ]; exact (unhide HF).2.2.1) 0 (by rw [hZ]; exact Nat.zero_le _))
  have HZ := hide (show Z.B = w1.heap.size ∧ Z.room = 65536 ∧ lk Z.Q Z.fuel (0 + 1) 0 0 [] = ⟨fd, fr, tz, GG, tt, td, er⟩ by rw [hZ]; exact ⟨rfl, rfl, hr⟩)
  have HZ1 := hide (show w.heap.size + 1 < w1.heap.size from (Array.getElem?_eq_some_iff.1 (unhide HB1).2).1)
  have HB2 := hide (And.intro (bnext (unhide HB1).1 hb2) (And.intro hb2 (row_below (unhide HB1).2 hb2)))
  rw [← hZg]
  clear hZ hZg hI hOk r2 m1 mr m2 m3 m4 m5 m6 m7 m8 m9 l2 fr2 hb2 z0 z1 z2 z3 z4 HN HB1
  go_wp2_with fail
  refine (unhide HL).mono ?_
  rintro e w3 ⟨m, N, O, W, C, G, S, a1, c1, a2, n2, c2, r3, hrm, hb3, her, htd, rfl, hG, hSd⟩
  rw [(unhide HZ).2.2] at her htd hG hSd ⊢
  dsimp only at her htd hG hSd ⊢
  have hSd : er = 0 → Row w3 Z.B 74 2 gfV (.slice a2 n2 c2) td := fun q => by have := hSd q; rwa [(unhide HZ).2.1, List.take_of_length_le (ht q)] at this
  have c13 := r3.c13
  have c14 := r3.c14
  have c18 := r3.c18
  rw [her] at c18
  rw [htd.1] at c13
  rw [hrm, (unhide HZ).2.1] at c14
  have HR := hide (And.intro r3 (And.intro hb3 hG))
  have HSD := hide hSd
  clear hSd
  have HT := hide ht
  clear r3 hrm hb3 hG her htd hr HF
  have hz3 : w3.heap[w.heap.size + 1]? = some (.cells zeroM 46 (0, 0)) := ((unhide HR).2.1.block _ (by rw [(unhide HZ).1]; exact unhide HZ1)).trans (unhide HB2).2.2
  have hd : Below w3.heap.size w3 (w3.alloc (.cells #[.bool fd, .int .i64 (fr : Int), .int .i64 (tz : Int), .slice a1 GG.length c1, .slice a2 n2 c2, .int .i64 (tt : Int)] 46)) := (Below.refl _ _).alloc (Nat.le_refl _) _
  have r4 := (unhide HR).1.later hd
  have hz4 := row_below hz3 hd
  have hy4 : (w3.alloc (.cells #[.bool fd, .int .i64 (fr : Int), .int .i64 (tz : Int), .slice a1 GG.length c1, .slice a2 n2 c2, .int .i64 (tt : Int)] 46)).heap[w3.heap.size]? = some (.cells #[.bool fd, .int .i64 (fr : Int), .int .i64 (tz : Int), .slice a1 GG.length c1, .slice a2 n2 c2, .int .i64 (tt : Int)] 46 (0, 0)) := at_new rfl
  have hw1 : w1.heap.size ≤ w3.heap.size := Nat.le_trans (unhide HB2).2.1.size (unhide HR).2.1.size
  have hne : ¬ w.heap.size + 1 = w3.heap.size := by have := unhide HZ1; omega
  have hne' : ¬ w3.heap.size = w.heap.size + 1 := fun e => hne e.symm
  have hgz : ¬ Z.g = w.heap.size + 1 := fun e => blk_not_owned (unhide HR).1 hz3 (.inl e.symm)
  have hzg : ¬ w.heap.size + 1 = Z.g := fun e => hgz e.symm
  have HGG := hide ((unhide HR).2.2.later hd)
  have HSG := hide (fun q => (unhide HSD q).later hd)
  have HBB : Hid (Below w.heap.size w (w3.alloc (.cells #[.bool fd, .int .i64 (fr : Int), .int .i64 (tz : Int), .slice a1 GG.length c1, .slice a2 n2 c2, .int .i64 (tt : Int)] 46))) := hide (bnext (bel_trans (unhide HB2).1 ((unhide HR).2.1.mono (by rw [(unhide HZ).1]; have := unhide HZ1; omega)) (Nat.le_refl _)) hd)
  have HZB := hide (show w.heap.size ≤ Z.B by rw [(unhide HZ).1]; have := unhide HZ1; omega)
  obtain ⟨w4, hw4⟩ : ∃ w4, w4 = w3.alloc (.cells #[.bool fd, .int .i64 (fr : Int), .int .i64 (tz : Int), .slice a1 GG.length c1, .slice a2 n2 c2, .int .i64 (tt : Int)] 46) := ⟨_, rfl⟩
  have d13 := cell_later hd c13
  have d14 := cell_later hd c14
  have d18 := cell_later hd c18
  rw [← hw4] at d13 d14 d18 HBB hz4 hy4 r4 HGG HSG
  clear c13 c14 c18 r4 hz3 hd HR HB2 hw1
  have y0 : w4.cell? ⟨w.heap.size + 1, 0, none⟩ = some (.bool false) := by rw [cell_of_row _ _ _ _ _ _ hz4]; rfl
  have x0 : w4.cell? ⟨w3.heap.size, 0, none⟩ = some (.bool fd) := by rw [cell_of_row _ _ _ _ _ _ hy4]; rfl
  have z0 : w4.frozen? ⟨w.heap.size + 1, 0, none⟩ = false := frozen_of_row w4 _ _ _ _ hz4
  have y1 : w4.cell? ⟨w.heap.size + 1, 1, none⟩ = some (.int .i64 0) := by rw [cell_of_row _ _ _ _ _ _ hz4]; rfl
  have x1 : w4.cell? ⟨w3.heap.size, 1, none⟩ = some (.int .i64 (fr : Int)) := by rw [cell_of_row _ _ _ _ _ _ hy4]; rfl
  have z1 : w4.frozen? ⟨w.heap.size + 1, 1, none⟩ = false := frozen_of_row w4 _ _ _ _ hz4
  have y2 : w4.cell? ⟨w.heap.size + 1, 2, none⟩ = some (.int .i64 0) := by rw [cell_of_row _ _ _ _ _ _ hz4]; rfl
  have x2 : w4.cell? ⟨w3.heap.size, 2, none⟩ = some (.int .i64 (tz : Int)) := by rw [cell_of_row _ _ _ _ _ _ hy4]; rfl
  have z2 : w4.frozen? ⟨w.heap.size + 1, 2, none⟩ = false := frozen_of_row w4 _ _ _ _ hz4
  have y3 : w4.cell? ⟨w.heap.size + 1, 3, none⟩ = some (.slice none 0 0) := by rw [cell_of_row _ _ _ _ _ _ hz4]; rfl
  have x3 : w4.cell? ⟨w3.heap.size, 3, none⟩ = some (.slice a1 GG.length c1) := by rw [cell_of_row _ _ _ _ _ _ hy4]; rfl
  have z3 : w4.frozen? ⟨w.heap.size + 1, 3, none⟩ = false := frozen_of_row w4 _ _ _ _ hz4
  have y4 : w4.cell? ⟨w.heap.size + 1, 4, none⟩ = some (.slice none 0 0) := by rw [cell_of_row _ _ _ _ _ _ hz4]; rfl
  have x4 : w4.cell? ⟨w3.heap.size, 4, none⟩ = some (.slice a2 n2 c2) := by rw [cell_of_row _ _ _ _ _ _ hy4]; rfl
  have z4 : w4.frozen? ⟨w.heap.size + 1, 4, none⟩ = false := frozen_of_row w4 _ _ _ _ hz4
  have y5 : w4.cell? ⟨w.heap.size + 1, 5, none⟩ = some (.int .i64 0) := by rw [cell_of_row _ _ _ _ _ _ hz4]; rfl
  have x5 : w4.cell? ⟨w3.heap.size, 5, none⟩ = some (.int .i64 (tt : Int)) := by rw [cell_of_row _ _ _ _ _ _ hy4]; rfl
  have z5 : w4.frozen? ⟨w.heap.size + 1, 5, none⟩ = false := frozen_of_row w4 _ _ _ _ hz4
  have HZ4 := hide hz4
  clear hz4 hy4
  by_cases he : er = 0
  · subst he
    have ht' : ¬ ((65536 : Nat) : Int) < (td.length : Int) := by have := ht rfl; omega
    clear ht
    go_wp2_with fail
    rw [← hw4]
    clear hw4
    go_quiet (fail)
    go_wp2_with fail
    go_region
    go_wp2_with fail
    exact bodyPost_ret (results_match rfl _ _ (w.heap.size + 1) #[.bool fd, .int .i64 (fr : Int), .int .i64 (tz : Int), .slice a1 GG.length c1, .slice a2 n2 c2, .int .i64 (tt : Int)] rfl (set6_nd (row_below (unhide HZ4) (below_drewN (Below.refl _ _) (nq + 1))) _ _ _ _ _ _) size_match) rfl ⟨a1, c1, a2, n2, c2, rfl, But.below (below_drewN (unhide HBB) (nq + 1)) (set6_but0 _ _ _ _ _ _ _ _) (by omega), (((unhide HGG).later (below_drewN (Below.refl _ _) (nq + 1))).keepBut (row_below (unhide HZ4) (below_drewN (Below.refl _ _) (nq + 1))) (by decide) (set6_but0 _ _ _ _ _ _ _ _)).lower (unhide HZB), fun q => (((unhide HSG (by first | trivial | exact q)).later (below_drewN (Below.refl _ _) (nq + 1))).keepBut (row_below (unhide HZ4) (below_drewN (Below.refl _ _) (nq + 1))) (by decide) (set6_but0 _ _ _ _ _ _ _ _)).lower (unhide HZB)⟩
  · have he' : (er == 0) = false := by simpa using he
    clear ht
    go_wp2_with fail
    rw [← hw4]
    clear hw4
    go_quiet (fail)
    go_wp2_with fail
    go_region
    go_wp2_with fail
    exact bodyPost_ret (results_match rfl _ _ (w.heap.size + 1) #[.bool fd, .int .i64 (fr : Int), .int .i64 (tz : Int), .slice a1 GG.length c1, .slice a2 n2 c2, .int .i64 (tt : Int)] rfl (set6_nd (row_below (unhide HZ4) (below_drewN (Below.refl _ _) (nq + 1))) _ _ _ _ _ _) size_match) rfl ⟨a1, c1, a2, n2, c2, rfl, But.below (below_drewN (unhide HBB) (nq + 1)) (set6_but0 _ _ _ _ _ _ _ _) (by omega), (((unhide HGG).later (below_drewN (Below.refl _ _) (nq + 1))).keepBut (row_below (unhide HZ4) (below_drewN (Below.refl _ _) (nq + 1))) (by decide) (set6_but0 _ _ _ _ _ _ _ _)).lower (unhide HZB), fun q => (((unhide HSG (by first | trivial | exact q)).later (below_drewN (Below.refl _ _) (nq + 1))).keepBut (row_below (unhide HZ4) (below_drewN (Below.refl _ _) (nq + 1))) (by decide) (set6_but0 _ _ _ _ _ _ _ _)).lower (unhide HZB)⟩
set_option maxRecDepth 100000 in
set_option maxHeartbeats 2000000 in
theorem match_twiceF {RL : List (ByteArray × PT)} {v : Value} (dg : Nat → ByteArray) (T : PT) (s : ByteArray) (f : Nat) (w : World) (hV : RVal w RL v) (hIt : ItoaSays dg w) (hT : T.In w) (hS : Shapes w) (hs : s.size ≤ maxLen) (hq : wrongR RL T s f = 0) (r : MR) (hr : matchOf RL dg T s s.size f = r) (he : r.err = 0) (ht : 65536 < r.told.length) :
    Calls Tryd.prog 17 #[v, pv T, .string s, .bool false, .int .i64 (f : Int)] w (MatchPost r w) := by
  obtain ⟨fd, fr, tz, GG, tt, td, er⟩ := r
  have ht : 65536 < td.length := ht
  have he : er = 0 := he
  subst he
  have hb0 : Below w.heap.size w ((w.alloc (.cells #[.int .i64 T.k, .string T.t, .int .i64 T.n, .string T.nm, .slice T.xa T.len T.cap] 24)).alloc (.cells zeroM 46)) := ((Below.refl _ _).alloc (Nat.le_refl _) _).alloc (by simp) _
  have HW := hide (wrong_rules T s f _ (hV.later hb0) (PT.In.later hb0 hT) (hS.later hb0) hs)
  obtain ⟨hw1, hw2, hs6, -, hf6'⟩ := wrongR_ok hq
  obtain ⟨hF, hNZ, hcn⟩ := right_of hw1
  have hRR := rules_right hw2
  have HN := hide (fun W (h : Below w.heap.size w W) room => new_made (w := W) T s f room (hV.later h) hRR.1 (PT.In.later h hT) hs6 (by omega) hNZ)
  have HL := hide (fun W W2 g room (h : Below w.heap.size w W) (hM : Made RL v T s f room W g W2) (hro : room ≤ 100000000000) => look_new (dg := dg) hM hq (hV.later h) (hIt.later h) hro s.size (Nat.le_refl _))
  have HB0 := hide hb0
  rw [hr] at HL
  unfold pv at HW HN ⊢
  unfold zeroM at HW
  rw [hq] at HW
  clear hT hS hb0 hs hq hF hcn hNZ hRR hV hIt hw1 hw2 hf6' hs6 hr
  go_enter Tryd.func17, Tryd.ntmps17
  go_wp2_with fail
  refine (unhide HW).mono ?_
  rintro e w1 ⟨rfl, hb1⟩
  have hbx : w1.heap[w.heap.size]? = some (.cells #[.int .i64 T.k, .string T.t, .int .i64 T.n, .string T.nm, .slice T.xa T.len T.cap] 24 (0, 0)) := row_below (at_old (by simp) (at_new (w := w) rfl)) hb1
  have hz1 : w1.heap[w.heap.size + 1]? = some (.cells zeroM 46 (0, 0)) := row_below (at_new (by simp)) hb1
  obtain ⟨z0, z1, z2, z3, z4⟩ := pats5 hbx
  have HB1 := hide (And.intro (bnext (unhide HB0) hb1) (And.intro hz1 hbx))
  have HZ1 := hide (show w.heap.size + 1 < w1.heap.size from (Array.getElem?_eq_some_iff.1 hz1).1)
  clear hbx hb1 hz1 HW HB0
  go_wp2_with fail
  refine (unhide HN w1 (unhide HB1).1 65536).mono ?_
  rintro e w2 ⟨g, rfl, hMd⟩
  have HL1 := hide (unhide HL w1 w2 g 65536 (unhide HB1).1 hMd (by decide))
  have HB2 := hide (And.intro (bnext (unhide HB1).1 hMd.below) (And.intro (row_below (unhide HB1).2.1 hMd.below) (And.intro (row_below (unhide HB1).2.2 hMd.below) hMd.below.size)))
  clear hMd z0 z1 z2 z3 z4 HB1
  go_wp2_with fail
  refine (unhide HL1).mono ?_
  rintro e w3 ⟨m, N, O, W, C, G, S, a1, c1, a2, n2, c2, r3, hrm, hb3, her, htd, rfl, -, -⟩
  dsimp only at her htd ⊢
  have c13 := r3.c13
  have c14 := r3.c14
  have c18 := r3.c18
  rw [her] at c18
  rw [htd.1] at c13
  rw [hrm] at c14
  have hz3 : w3.heap[w.heap.size + 1]? = some (.cells zeroM 46 (0, 0)) := (hb3.block _ (unhide HZ1)).trans (unhide HB2).2.1
  have hx3 := (hb3.block _ (by have := unhide HZ1; omega)).trans (unhide HB2).2.2.1
  have hw13 : w1.heap.size ≤ w3.heap.size := Nat.le_trans (unhide HB2).2.2.2 hb3.size
  have hbw : Below w.heap.size w w3 := bel_trans (unhide HB2).1 (hb3.mono (by have := unhide HZ1; omega)) (Nat.le_refl _)
  have HTD := hide htd.2
  rw [htd.1] at HTD
  clear r3 hrm hb3 her htd HL1
  have hd : Below w3.heap.size w3 (w3.alloc (.cells #[.bool fd, .int .i64 (fr : Int), .int .i64 (tz : Int), .slice a1 GG.length c1, .slice a2 n2 c2, .int .i64 (tt : Int)] 46)) := (Below.refl _ _).alloc (Nat.le_refl _) _
  have hy4 : (w3.alloc (.cells #[.bool fd, .int .i64 (fr : Int), .int .i64 (tz : Int), .slice a1 GG.length c1, .slice a2 n2 c2, .int .i64 (tt : Int)] 46)).heap[w3.heap.size]? = some (.cells #[.bool fd, .int .i64 (fr : Int), .int .i64 (tz : Int), .slice a1 GG.length c1, .slice a2 n2 c2, .int .i64 (tt : Int)] 46 (0, 0)) := at_new rfl
  obtain ⟨w4, hw4⟩ : ∃ w4, w4 = w3.alloc (.cells #[.bool fd, .int .i64 (fr : Int), .int .i64 (tz : Int), .slice a1 GG.length c1, .slice a2 n2 c2, .int .i64 (tt : Int)] 46) := ⟨_, rfl⟩
  have d13 := cell_later hd c13
  have d14 := cell_later hd c14
  have d18 := cell_later hd c18
  have hz4 := row_below hz3 hd
  have hx4 := row_below hx3 hd
  have hb4 := bnext hbw hd
  rw [← hw4] at d13 d14 d18 hz4 hx4 hy4 hb4
  have HR4 := hide (And.intro hz4 (And.intro hx4 (And.intro hy4 hb4)))
  obtain ⟨p0, p1, p2, p3, p4⟩ := pats5 hx4
  have HL4 := hide (Array.getElem?_eq_some_iff.1 hy4).1
  clear c13 c14 c18 hz3 hx3 hz4 hx4 hy4 hb4 hbw hd HB2
  have ht' : ((65536 : Nat) : Int) < (td.length : Int) := by omega
  have ht2 : (65536 : Int) < (td.length : Int) := by omega
  go_wp2_with fail
  rw [← hw4]
  clear hw4
  go_quiet (fail)
  go_wp2_with fail
  have hA : Below w4.heap.size w4 (w4.drewN (nq + 1)) := below_drewN (Below.refl _ _) (nq + 1)
  obtain ⟨Wc, hWc⟩ : ∃ Wc, Wc = (w4.drewN (nq + 1)) := ⟨_, rfl⟩
  have hA0 := hA
  have HK : Hid (Wc = (w4.drewN (nq + 1))) := hide hWc
  clear hWc
  go_region_held3 (fun w' => w'.cell? ⟨w.heap.size, 0, none⟩ = some (.int .i64 T.k) ∧ w'.cell? ⟨w.heap.size, 1, none⟩ = some (.string T.t) ∧ w'.cell? ⟨w.heap.size, 2, none⟩ = some (.int .i64 T.n) ∧ w'.cell? ⟨w.heap.size, 3, none⟩ = some (.string T.nm) ∧ w'.cell? ⟨w.heap.size, 4, none⟩ = some (.slice T.xa T.len T.cap) ∧ w'.cell? ⟨g, 13, none⟩ = some (.int .i64 (td.length : Int)))
    (first | exact ⟨cell_later hA p0, cell_later hA p1, cell_later hA p2, cell_later hA p3, cell_later hA p4, cell_later hA d13⟩)
    (first
      | (go_at_call 33; (with_reducible refine (unhide HN _ (bnext (unhide HR4).2.2.2 hA) td.length).mono ?_); rintro e w5 ⟨g5, rfl, hMd⟩; have hA := bnext hA hMd.below))
  have HL5 := hide (unhide HL _ w5 g5 td.length (bnext (unhide HR4).2.2.2 hA0) hMd (unhide HTD))
  have hz5 := row_below (unhide HR4).1 hA
  have hy5 := row_below (unhide HR4).2.2.1 hA
  have HS5 := hide (show w3.heap.size < (w4.drewN (nq + 1)).heap.size from Nat.lt_of_lt_of_le (unhide HL4) hA0.size)
  have HB5 := hide (bnext (unhide HR4).2.2.2 hA)
  have HR5 := hide (And.intro hz5 hy5)
  clear hz5 hy5 hA hMd HN HL HR4 p0 p1 p2 p3 p4 d13 d14 d18 ht' ht2
  go_wp2_with fail
  refine (unhide HL5).mono ?_
  rintro e w6 ⟨m6, N6, O6, W6, C6, G6, S6, b1, e1, b2, k2, e2, r6, hrm6, hb6, her6, htd6, rfl, hG6, hSd6⟩
  dsimp only at her6 htd6 hG6 hSd6 ⊢
  rw [List.take_of_length_le (Nat.le_refl _)] at hSd6
  have c18 := r6.c18
  rw [her6] at c18
  have hlt := unhide HS5
  have hz6 := (hb6.block _ (by have := unhide HZ1; omega)).trans (unhide HR5).1
  have hy6 := (hb6.block _ hlt).trans (unhide HR5).2
  have hgo : ¬ g5 = w3.heap.size := fun e => blk_not_owned r6 hy6 (.inl e.symm)
  have hgz : ¬ g5 = w.heap.size + 1 := fun e => blk_not_owned r6 hz6 (.inl e.symm)
  have hzg : ¬ w.heap.size + 1 = g5 := fun e => hgz e.symm
  have hne : ¬ w.heap.size + 1 = w3.heap.size := by have := unhide HZ1; omega
  have hne' : ¬ w3.heap.size = w.heap.size + 1 := fun e => hne e.symm
  have hb7 := but_setRow w6 w3.heap.size (#[.bool fd, .int .i64 (fr : Int), .int .i64 (tz : Int), .slice b1 GG.length e1, .slice b2 k2 e2, .int .i64 (tt : Int)] : Array Value)
  have hy7 := setRow_heap w6 w3.heap.size (#[.bool fd, .int .i64 (fr : Int), .int .i64 (tz : Int), .slice a1 GG.length c1, .slice a2 n2 c2, .int .i64 (tt : Int)] : Array Value) (#[.bool fd, .int .i64 (fr : Int), .int .i64 (tz : Int), .slice b1 GG.length e1, .slice b2 k2 e2, .int .i64 (tt : Int)] : Array Value) _ _ hy6
  have hz7 := (setRow_other w6 w3.heap.size (w.heap.size + 1) (#[.bool fd, .int .i64 (fr : Int), .int .i64 (tz : Int), .slice b1 GG.length e1, .slice b2 k2 e2, .int .i64 (tt : Int)] : Array Value) hne).trans hz6
  have c187 := cell_setRow (c := (#[.bool fd, .int .i64 (fr : Int), .int .i64 (tz : Int), .slice b1 GG.length e1, .slice b2 k2 e2, .int .i64 (tt : Int)] : Array Value)) hgo c18
  have hG7 := (hG6.keepBut hy6 (by decide) hb7).lower (B' := w.heap.size) (by have := unhide HZ1; omega)
  have hT7 := ((hSd6 rfl).keepBut hy6 (by decide) hb7).lower (B' := w.heap.size) (by have := unhide HZ1; omega)
  have hB7 : Below w.heap.size w (w6.setRow w3.heap.size (#[.bool fd, .int .i64 (fr : Int), .int .i64 (tz : Int), .slice b1 GG.length e1, .slice b2 k2 e2, .int .i64 (tt : Int)] : Array Value)) := But.below (bel_trans (unhide HB5) (hb6.mono (by have := unhide HZ1; omega)) (Nat.le_refl _)) hb7 (by have := unhide HZ1; omega)
  obtain ⟨W7, hW7⟩ : ∃ W7, W7 = w6.setRow w3.heap.size (#[.bool fd, .int .i64 (fr : Int), .int .i64 (tz : Int), .slice b1 GG.length e1, .slice b2 k2 e2, .int .i64 (tt : Int)] : Array Value) := ⟨_, rfl⟩
  rw [← hW7] at hy7 hz7 c187 hG7 hT7 hB7
  have HW7 := hide hW7
  have HY6 := hide hy6
  have HE := hide (And.intro hz7 (And.intro hG7 (And.intro hT7 hB7)))
  obtain ⟨⟨x0, x1, x2, x3, x4, x5⟩, -⟩ := cells6 hy7
  obtain ⟨⟨y0, y1, y2, y3, y4, y5⟩, fz⟩ := cells6 hz7
  have z0 := fz 0
  have z1 := fz 1
  have z2 := fz 2
  have z3 := fz 3
  have z4 := fz 4
  have z5 := fz 5
  have HSZ := hide size_match
  clear r6 hrm6 hb6 her6 htd6 hG6 hSd6 c18 hz6 hy6 hb7 hy7 hz7 hG7 hT7 hB7 hW7 fz hlt HR5 HB5 HL5 HS5
  go_wp2_with (first
    | (refine wpList_store_eqM rfl 46 _ _ rfl w3.heap.size (#[.bool fd, .int .i64 (fr : Int), .int .i64 (tz : Int), .slice b1 GG.length e1, .slice b2 k2 e2, .int .i64 (tt : Int)] : Array Value) rfl rfl 46 (#[.bool fd, .int .i64 (fr : Int), .int .i64 (tz : Int), .slice a1 GG.length c1, .slice a2 n2 c2, .int .i64 (tt : Int)] : Array Value) (unhide HY6) (unhide HSZ) rfl (by simp [Value.oneCell']) (unhide HW7) ?_)
    | fail)
  (try simp only [Act.put])
  go_region
  go_wp2_with fail
  exact bodyPost_ret (results_match rfl _ _ (w.heap.size + 1) (#[.bool fd, .int .i64 (fr : Int), .int .i64 (tz : Int), .slice b1 GG.length e1, .slice b2 k2 e2, .int .i64 (tt : Int)] : Array Value) rfl (set6_row (unhide HE).1 _ _ _ _ _ _) size_match) rfl ⟨b1, e1, b2, k2, e2, rfl, But.below (unhide HE).2.2.2 (set6_but _ _ _ _ _ _ _ _) (by omega), (unhide HE).2.1.keepBut (unhide HE).1 (by decide) (set6_but _ _ _ _ _ _ _ _), fun _ => (unhide HE).2.2.1.keepBut (unhide HE).1 (by decide) (set6_but _ _ _ _ _ _ _ _)⟩
set_option maxRecDepth 100000 in
set_option maxHeartbeats 2000000 in
theorem match_twiceT {RL : List (ByteArray × PT)} {v : Value} (dg : Nat → ByteArray) (T : PT) (s : ByteArray) (f : Nat) (w : World) (hV : RVal w RL v) (hIt : ItoaSays dg w) (hT : T.In w) (hS : Shapes w) (hs : s.size ≤ maxLen) (hq : wrongR RL T s f = 0) (r : MR) (hr : matchOf RL dg T s 0 f = r) (he : r.err = 0) (ht : 65536 < r.told.length) :
    Calls Tryd.prog 17 #[v, pv T, .string s, .bool true, .int .i64 (f : Int)] w (MatchPost r w) := by
  obtain ⟨fd, fr, tz, GG, tt, td, er⟩ := r
  have ht : 65536 < td.length := ht
  have he : er = 0 := he
  subst he
  have hb0 : Below w.heap.size w ((w.alloc (.cells #[.int .i64 T.k, .string T.t, .int .i64 T.n, .string T.nm, .slice T.xa T.len T.cap] 24)).alloc (.cells zeroM 46)) := ((Below.refl _ _).alloc (Nat.le_refl _) _).alloc (by simp) _
  have HW := hide (wrong_rules T s f _ (hV.later hb0) (PT.In.later hb0 hT) (hS.later hb0) hs)
  obtain ⟨hw1, hw2, hs6, -, hf6'⟩ := wrongR_ok hq
  obtain ⟨hF, hNZ, hcn⟩ := right_of hw1
  have hRR := rules_right hw2
  have HN := hide (fun W (h : Below w.heap.size w W) room => new_made (w := W) T s f room (hV.later h) hRR.1 (PT.In.later h hT) hs6 (by omega) hNZ)
  have HL := hide (fun W W2 g room (h : Below w.heap.size w W) (hM : Made RL v T s f room W g W2) (hro : room ≤ 100000000000) => look_new (dg := dg) hM hq (hV.later h) (hIt.later h) hro 0 (Nat.zero_le _))
  have HB0 := hide hb0
  rw [hr] at HL
  unfold pv at HW HN ⊢
  unfold zeroM at HW
  rw [hq] at HW
  clear hT hS hb0 hs hq hF hcn hNZ hRR hV hIt hw1 hw2 hf6' hs6 hr
  go_enter Tryd.func17, Tryd.ntmps17
  go_wp2_with fail
  refine (unhide HW).mono ?_
  rintro e w1 ⟨rfl, hb1⟩
  have hbx : w1.heap[w.heap.size]? = some (.cells #[.int .i64 T.k, .string T.t, .int .i64 T.n, .string T.nm, .slice T.xa T.len T.cap] 24 (0, 0)) := row_below (at_old (by simp) (at_new (w := w) rfl)) hb1
  have hz1 : w1.heap[w.heap.size + 1]? = some (.cells zeroM 46 (0, 0)) := row_below (at_new (by simp)) hb1
  obtain ⟨z0, z1, z2, z3, z4⟩ := pats5 hbx
  have HB1 := hide (And.intro (bnext (unhide HB0) hb1) (And.intro hz1 hbx))
  have HZ1 := hide (show w.heap.size + 1 < w1.heap.size from (Array.getElem?_eq_some_iff.1 hz1).1)
  clear hbx hb1 hz1 HW HB0
  go_wp2_with fail
  refine (unhide HN w1 (unhide HB1).1 65536).mono ?_
  rintro e w2 ⟨g, rfl, hMd⟩
  have HL1 := hide (unhide HL w1 w2 g 65536 (unhide HB1).1 hMd (by decide))
  have HB2 := hide (And.intro (bnext (unhide HB1).1 hMd.below) (And.intro (row_below (unhide HB1).2.1 hMd.below) (And.intro (row_below (unhide HB1).2.2 hMd.below) hMd.below.size)))
  clear hMd z0 z1 z2 z3 z4 HB1
  go_wp2_with fail
  refine (unhide HL1).mono ?_
  rintro e w3 ⟨m, N, O, W, C, G, S, a1, c1, a2, n2, c2, r3, hrm, hb3, her, htd, rfl, -, -⟩
  dsimp only at her htd ⊢
  have c13 := r3.c13
  have c14 := r3.c14
  have c18 := r3.c18
  rw [her] at c18
  rw [htd.1] at c13
  rw [hrm] at c14
  have hz3 : w3.heap[w.heap.size + 1]? = some (.cells zeroM 46 (0, 0)) := (hb3.block _ (unhide HZ1)).trans (unhide HB2).2.1
  have hx3 := (hb3.block _ (by have := unhide HZ1; omega)).trans (unhide HB2).2.2.1
  have hw13 : w1.heap.size ≤ w3.heap.size := Nat.le_trans (unhide HB2).2.2.2 hb3.size
  have hbw : Below w.heap.size w w3 := bel_trans (unhide HB2).1 (hb3.mono (by have := unhide HZ1; omega)) (Nat.le_refl _)
  have HTD := hide htd.2
  rw [htd.1] at HTD
  clear r3 hrm hb3 her htd HL1
  have hd : Below w3.heap.size w3 (w3.alloc (.cells #[.bool fd, .int .i64 (fr : Int), .int .i64 (tz : Int), .slice a1 GG.length c1, .slice a2 n2 c2, .int .i64 (tt : Int)] 46)) := (Below.refl _ _).alloc (Nat.le_refl _) _
  have hy4 : (w3.alloc (.cells #[.bool fd, .int .i64 (fr : Int), .int .i64 (tz : Int), .slice a1 GG.length c1, .slice a2 n2 c2, .int .i64 (tt : Int)] 46)).heap[w3.heap.size]? = some (.cells #[.bool fd, .int .i64 (fr : Int), .int .i64 (tz : Int), .slice a1 GG.length c1, .slice a2 n2 c2, .int .i64 (tt : Int)] 46 (0, 0)) := at_new rfl
  obtain ⟨w4, hw4⟩ : ∃ w4, w4 = w3.alloc (.cells #[.bool fd, .int .i64 (fr : Int), .int .i64 (tz : Int), .slice a1 GG.length c1, .slice a2 n2 c2, .int .i64 (tt : Int)] 46) := ⟨_, rfl⟩
  have d13 := cell_later hd c13
  have d14 := cell_later hd c14
  have d18 := cell_later hd c18
  have hz4 := row_below hz3 hd
  have hx4 := row_below hx3 hd
  have hb4 := bnext hbw hd
  rw [← hw4] at d13 d14 d18 hz4 hx4 hy4 hb4
  have HR4 := hide (And.intro hz4 (And.intro hx4 (And.intro hy4 hb4)))
  obtain ⟨p0, p1, p2, p3, p4⟩ := pats5 hx4
  have HL4 := hide (Array.getElem?_eq_some_iff.1 hy4).1
  clear c13 c14 c18 hz3 hx3 hz4 hx4 hy4 hb4 hbw hd HB2
  have ht' : ((65536 : Nat) : Int) < (td.length : Int) := by omega
  have ht2 : (65536 : Int) < (td.length : Int) := by omega
  go_wp2_with fail
  rw [← hw4]
  clear hw4
  go_quiet (fail)
  go_wp2_with fail
  have hA : Below w4.heap.size w4 (w4.drewN (nq + 1)) := below_drewN (Below.refl _ _) (nq + 1)
  obtain ⟨Wc, hWc⟩ : ∃ Wc, Wc = (w4.drewN (nq + 1)) := ⟨_, rfl⟩
  have hA0 := hA
  have HK : Hid (Wc = (w4.drewN (nq + 1))) := hide hWc
  clear hWc
  go_region_held3 (fun w' => w'.cell? ⟨w.heap.size, 0, none⟩ = some (.int .i64 T.k) ∧ w'.cell? ⟨w.heap.size, 1, none⟩ = some (.string T.t) ∧ w'.cell? ⟨w.heap.size, 2, none⟩ = some (.int .i64 T.n) ∧ w'.cell? ⟨w.heap.size, 3, none⟩ = some (.string T.nm) ∧ w'.cell? ⟨w.heap.size, 4, none⟩ = some (.slice T.xa T.len T.cap) ∧ w'.cell? ⟨g, 13, none⟩ = some (.int .i64 (td.length : Int)))
    (first | exact ⟨cell_later hA p0, cell_later hA p1, cell_later hA p2, cell_later hA p3, cell_later hA p4, cell_later hA d13⟩)
    (first
      | (go_at_call 33; (with_reducible refine (unhide HN _ (bnext (unhide HR4).2.2.2 hA) td.length).mono ?_); rintro e w5 ⟨g5, rfl, hMd⟩; have hA := bnext hA hMd.below))
  have HL5 := hide (unhide HL _ w5 g5 td.length (bnext (unhide HR4).2.2.2 hA0) hMd (unhide HTD))
  have hz5 := row_below (unhide HR4).1 hA
  have hy5 := row_below (unhide HR4).2.2.1 hA
  have HS5 := hide (show w3.heap.size < (w4.drewN (nq + 1)).heap.size from Nat.lt_of_lt_of_le (unhide HL4) hA0.size)
  have HB5 := hide (bnext (unhide HR4).2.2.2 hA)
  have HR5 := hide (And.intro hz5 hy5)
  clear hz5 hy5 hA hMd HN HL HR4 p0 p1 p2 p3 p4 d13 d14 d18 ht' ht2
  go_wp2_with fail
  refine (unhide HL5).mono ?_
  rintro e w6 ⟨m6, N6, O6, W6, C6, G6, S6, b1, e1, b2, k2, e2, r6, hrm6, hb6, her6, htd6, rfl, hG6, hSd6⟩
  dsimp only at her6 htd6 hG6 hSd6 ⊢
  rw [List.take_of_length_le (Nat.le_refl _)] at hSd6
  have c18 := r6.c18
  rw [her6] at c18
  have hlt := unhide HS5
  have hz6 := (hb6.block _ (by have := unhide HZ1; omega)).trans (unhide HR5).1
  have hy6 := (hb6.block _ hlt).trans (unhide HR5).2
  have hgo : ¬ g5 = w3.heap.size := fun e => blk_not_owned r6 hy6 (.inl e.symm)
  have hgz : ¬ g5 = w.heap.size + 1 := fun e => blk_not_owned r6 hz6 (.inl e.symm)
  have hzg : ¬ w.heap.size + 1 = g5 := fun e => hgz e.symm
  have hne : ¬ w.heap.size + 1 = w3.heap.size := by have := unhide HZ1; omega
  have hne' : ¬ w3.heap.size = w.heap.size + 1 := fun e => hne e.symm
  have hb7 := but_setRow w6 w3.heap.size (#[.bool fd, .int .i64 (fr : Int), .int .i64 (tz : Int), .slice b1 GG.length e1, .slice b2 k2 e2, .int .i64 (tt : Int)] : Array Value)
  have hy7 := setRow_heap w6 w3.heap.size (#[.bool fd, .int .i64 (fr : Int), .int .i64 (tz : Int), .slice a1 GG.length c1, .slice a2 n2 c2, .int .i64 (tt : Int)] : Array Value) (#[.bool fd, .int .i64 (fr : Int), .int .i64 (tz : Int), .slice b1 GG.length e1, .slice b2 k2 e2, .int .i64 (tt : Int)] : Array Value) _ _ hy6
  have hz7 := (setRow_other w6 w3.heap.size (w.heap.size + 1) (#[.bool fd, .int .i64 (fr : Int), .int .i64 (tz : Int), .slice b1 GG.length e1, .slice b2 k2 e2, .int .i64 (tt : Int)] : Array Value) hne).trans hz6
  have c187 := cell_setRow (c := (#[.bool fd, .int .i64 (fr : Int), .int .i64 (tz : Int), .slice b1 GG.length e1, .slice b2 k2 e2, .int .i64 (tt : Int)] : Array Value)) hgo c18
  have hG7 := (hG6.keepBut hy6 (by decide) hb7).lower (B' := w.heap.size) (by have := unhide HZ1; omega)
  have hT7 := ((hSd6 rfl).keepBut hy6 (by decide) hb7).lower (B' := w.heap.size) (by have := unhide HZ1; omega)
  have hB7 : Below w.heap.size w (w6.setRow w3.heap.size (#[.bool fd, .int .i64 (fr : Int), .int .i64 (tz : Int), .slice b1 GG.length e1, .slice b2 k2 e2, .int .i64 (tt : Int)] : Array Value)) := But.below (bel_trans (unhide HB5) (hb6.mono (by have := unhide HZ1; omega)) (Nat.le_refl _)) hb7 (by have := unhide HZ1; omega)
  obtain ⟨W7, hW7⟩ : ∃ W7, W7 = w6.setRow w3.heap.size (#[.bool fd, .int .i64 (fr : Int), .int .i64 (tz : Int), .slice b1 GG.length e1, .slice b2 k2 e2, .int .i64 (tt : Int)] : Array Value) := ⟨_, rfl⟩
  rw [← hW7] at hy7 hz7 c187 hG7 hT7 hB7
  have HW7 := hide hW7
  have HY6 := hide hy6
  have HE := hide (And.intro hz7 (And.intro hG7 (And.intro hT7 hB7)))
  obtain ⟨⟨x0, x1, x2, x3, x4, x5⟩, -⟩ := cells6 hy7
  obtain ⟨⟨y0, y1, y2, y3, y4, y5⟩, fz⟩ := cells6 hz7
  have z0 := fz 0
  have z1 := fz 1
  have z2 := fz 2
  have z3 := fz 3
  have z4 := fz 4
  have z5 := fz 5
  have HSZ := hide size_match
  clear r6 hrm6 hb6 her6 htd6 hG6 hSd6 c18 hz6 hy6 hb7 hy7 hz7 hG7 hT7 hB7 hW7 fz hlt HR5 HB5 HL5 HS5
  go_wp2_with (first
    | (refine wpList_store_eqM rfl 46 _ _ rfl w3.heap.size (#[.bool fd, .int .i64 (fr : Int), .int .i64 (tz : Int), .slice b1 GG.length e1, .slice b2 k2 e2, .int .i64 (tt : Int)] : Array Value) rfl rfl 46 (#[.bool fd, .int .i64 (fr : Int), .int .i64 (tz : Int), .slice a1 GG.length c1, .slice a2 n2 c2, .int .i64 (tt : Int)] : Array Value) (unhide HY6) (unhide HSZ) rfl (by simp [Value.oneCell']) (unhide HW7) ?_)
    | fail)
  (try simp only [Act.put])
  go_region
  go_wp2_with fail
  exact bodyPost_ret (results_match rfl _ _ (w.heap.size + 1) (#[.bool fd, .int .i64 (fr : Int), .int .i64 (tz : Int), .slice b1 GG.length e1, .slice b2 k2 e2, .int .i64 (tt : Int)] : Array Value) rfl (set6_row (unhide HE).1 _ _ _ _ _ _) size_match) rfl ⟨b1, e1, b2, k2, e2, rfl, But.below (unhide HE).2.2.2 (set6_but _ _ _ _ _ _ _ _) (by omega), (unhide HE).2.1.keepBut (unhide HE).1 (by decide) (set6_but _ _ _ _ _ _ _ _), fun _ => (unhide HE).2.2.1.keepBut (unhide HE).1 (by decide) (set6_but _ _ _ _ _ _ _ _)⟩
theorem match_any {RL : List (ByteArray × PT)} {v : Value} (dg : Nat → ByteArray) (T : PT) (s : ByteArray) (an : Bool) (f : Int) (w : World) (hV : RVal w RL v) (hIt : ItoaSays dg w) (hT : T.In w) (hS : Shapes w) (hs : s.size ≤ maxLen) :
    Calls Tryd.prog 17 #[v, pv T, .string s, .bool an, .int .i64 f] w (MatchPost (matchSaid RL dg T s an f) w) := by
  unfold matchSaid
  by_cases hq : wrongR RL T s f ≠ 0
  · rw [if_pos hq]
    exact match_wrong T s an f w hV hT hS hs hq
  · rw [if_neg hq]
    have hq : wrongR RL T s f = 0 := Classical.not_not.1 hq
    obtain ⟨-, -, -, hf, -⟩ := wrongR_ok hq
    obtain ⟨n, rfl⟩ : ∃ n : Nat, f = n := ⟨f.toNat, by omega⟩
    rw [Int.toNat_natCast]
    cases an with
    | false =>
      by_cases h : (matchOf RL dg T s s.size n).err = 0 ∧ 65536 < (matchOf RL dg T s s.size n).told.length
      · exact match_twiceF dg T s n w hV hIt hT hS hs hq _ rfl h.1 h.2
      · exact match_onceF dg T s n w hV hIt hT hS hs hq _ rfl fun e => by
          rcases Nat.lt_or_ge 65536 (matchOf RL dg T s s.size n).told.length with q | q
          · exact absurd ⟨e, q⟩ h
          · exact q
    | true =>
      by_cases h : (matchOf RL dg T s 0 n).err = 0 ∧ 65536 < (matchOf RL dg T s 0 n).told.length
      · exact match_twiceT dg T s n w hV hIt hT hS hs hq _ rfl h.1 h.2
      · exact match_onceT dg T s n w hV hIt hT hS hs hq _ rfl fun e => by
          rcases Nat.lt_or_ge 65536 (matchOf RL dg T s 0 n).told.length with q | q
          · exact absurd ⟨e, q⟩ h
          · exact q
end Go.Proofs.YtbmngbpillihaaaDoor
