/- The writer of lines: expressions without brackets around them: what stands between two. -/
import Derived.Test.YtpphjddljngkmaaGreatDoorWrGP
namespace Go.Proofs.YtpphjddljngkmaaGreatDoor
open Go.RowKit

theorem sign_op {k : Int} (h1 : 8 ≤ k) (h2 : k ≤ 13) : signX k = sgn (opB k) ∧ 1 ≤ levelX k ∧ levelX k ≤ 3 := by
  have : k = 8 ∨ k = 9 ∨ k = 10 ∨ k = 11 ∨ k = 12 ∨ k = 13 := by omega
  rcases this with rfl | rfl | rfl | rfl | rfl | rfl <;> exact ⟨rfl, by decide, by decide⟩
theorem two_cnt {T : PT} (h : T.len = 2) : T.cnt = 1 + ((T.kid 0).cnt + (T.kid 1).cnt) := by
  rw [T.cnt_eq, h]
  show 1 + (0 + (T.kid 0).cnt + (T.kid 1).cnt) = _
  omega
set_option maxRecDepth 100000 in
set_option maxHeartbeats 8000000 in
theorem bare_two {T : PT} (h8 : 8 ≤ T.k) (h13 : T.k ≤ 13) (hl : T.len = 2) (hkid : ∀ i, i < T.len → ExSays (T.kid i)) : BaSays T := by
  intro W w B z v o f hE hT hb hz hW hbad hlen
  obtain ⟨K, hkK⟩ : ∃ K : Nat, T.k = (K : Int) := ⟨T.k.toNat, by omega⟩
  obtain ⟨s0, s1, s2, s3, s4⟩ := shx_at (hE.shx.later hb) K (K : Int) rfl (by omega) (by omega)
  have hgl : (0 : Nat) < w.heap.size := World.block_lt_of_cell? _ _ s0
  have hgl' : ¬ w.heap.size = 0 := by omega
  have hgl2 : ¬ w.heap.size + 1 = 0 := by omega
  have hcp := T.cnt_pos
  have hzl : z < w.heap.size := (Array.getElem?_eq_some_iff.1 hW.blk).1
  have hnz : w.heap.size ≠ z := by omega
  have hnz2 : w.heap.size + 1 ≠ z := by omega
  obtain ⟨w1, hw1⟩ : ∃ w1, w1 = (w.alloc (.cells #[.int .i64 (K : Int), .string T.t, .int .i64 T.n, .string T.nm, .slice T.xa T.len T.cap] 25)).alloc (.cells #[.string (signX (K : Int)), .int .i64 (levelX (K : Int)), .bool (namedX (K : Int)), .int .i64 (leastX (K : Int)), .int .i64 (mostX (K : Int))] 78) := ⟨_, rfl⟩
  have hal : Below w.heap.size w w1 := by rw [hw1]; exact (ba _).alloc (by simp) _
  have hbx : w1.heap[w.heap.size]? = some (.cells #[.int .i64 (K : Int), .string T.t, .int .i64 T.n, .string T.nm, .slice T.xa T.len T.cap] 25 (0, 0)) := by rw [hw1]; exact at_old (by simp) (at_new rfl)
  have hbs : w1.heap[w.heap.size + 1]? = some (.cells #[.string (signX (K : Int)), .int .i64 (levelX (K : Int)), .bool (namedX (K : Int)), .int .i64 (leastX (K : Int)), .int .i64 (mostX (K : Int))] 78 (0, 0)) := by rw [hw1]; exact at_new (by simp)
  have H1 := hide ((Wn.start hb hW).below hal)
  have HBX := hide hbx
  have HBS := hide hbs
  have HS1 : Hid (w1.heap.size = w.heap.size + 1 + 1) := hide (by rw [hw1]; simp)
  have HW1 : Hid ((w.alloc (.cells #[.int .i64 (K : Int), .string T.t, .int .i64 T.n, .string T.nm, .slice T.xa T.len T.cap] 25)).alloc (.cells #[.string (signX (K : Int)), .int .i64 (levelX (K : Int)), .bool (namedX (K : Int)), .int .i64 (leastX (K : Int)), .int .i64 (mostX (K : Int))] 78) = w1) := hide (hw1.symm)
  have HZ := hide (And.intro hE hz)
  have HT := hide hT
  unfold pv
  rw [hkK]
  obtain ⟨hsg, hl1, hl3⟩ := sign_op h8 h13
  have HI : Hid (flt T.exI = (flt ((T.kid 0).atl (levelX (K : Int))) ++ (([32] ++ [opB T.k]) ++ [32])) ++ flt ((T.kid 1).atl (levelX (K : Int) + 1))) := hide (by
    rw [exI_two h8 hl, flt_app, flt_cons, flt_cons, flt_cons, hkK]
    show flt ((T.kid 0).atl (levelX (K : Int))) ++ ([32] ++ ([opB (K : Int)] ++ ([32] ++ flt ((T.kid 1).atl (levelX (K : Int) + 1))))) = _
    simp)
  have hc2 := two_cnt hl
  rw [hkK] at hsg hl1 hl3 h8 h13
  have u1 : ¬ (K : Int) < 0 := by omega
  have u2 : (K : Int) < 14 := by omega
  have r1 : ((K : Int) == 1) = false := bn
  have r2 : ((K : Int) == 2) = false := bn
  have r3 : ((K : Int) == 3) = false := bn
  have r4 : ((K : Int) == 4) = false := bn
  have r5 : ((K : Int) == 5) = false := bn
  have r6 : ((K : Int) == 6) = false := bn
  have r7 : ((K : Int) == 7) = false := bn
  obtain ⟨q0, hq0⟩ : ∃ q, q = T.o + 0 * 5 := ⟨_, rfl⟩
  have hix0 : ∀ w, (Instr.indexAt 23 (.slice T.xa T.len T.cap) (.int .i64 0)).run Tryz.prog w = .ok (.pointer (some ⟨T.b, q0, none⟩)) w := fun w => by rw [hq0]; exact kidx_at hT (k := 0) (by omega) w
  have HKC0 := hide (fun (W1 : World) (h : Below W.heap.size W W1) => show W1.cell? ⟨T.b, q0, none⟩ = some (.int .i64 (T.kid 0).k) ∧ W1.cell? ⟨T.b, q0 + 1, none⟩ = some (.string (T.kid 0).t) ∧ W1.cell? ⟨T.b, q0 + 2, none⟩ = some (.int .i64 (T.kid 0).n) ∧ W1.cell? ⟨T.b, q0 + 3, none⟩ = some (.string (T.kid 0).nm) ∧ W1.cell? ⟨T.b, q0 + 4, none⟩ = some (.slice (T.kid 0).xa (T.kid 0).len (T.kid 0).cap) from by rw [hq0]; exact (PT.In.later h hT).cells (i := 0) (by omega))
  have HKS0 := hide (fun (lv : Int) (w2 : World) (v2 : Value) (o2 : List UInt8) (f2 : Bool) h3 h4 h5 => show Calls Tryz.prog 43 #[.pointer (some ⟨z, 0, none⟩), .agg #[.int .i64 (T.kid 0).k, .string (T.kid 0).t, .int .i64 (T.kid 0).n, .string (T.kid 0).nm, .slice (T.kid 0).xa (T.kid 0).len (T.kid 0).cap], .int .i64 lv] w2 fun e w' => WPost B z w2 v2 o2 (flt ((T.kid 0).atl lv)) f2 (40 * (T.kid 0).cnt) e w' from hkid 0 (by omega) W w2 B z v2 o2 f2 lv hE (hT.kids (by omega)) h3 hz h4 ((badX_node hbad).2 0 (by omega)) h5)
  obtain ⟨q1, hq1⟩ : ∃ q, q = T.o + 1 * 5 := ⟨_, rfl⟩
  have hix1 : ∀ w, (Instr.indexAt 23 (.slice T.xa T.len T.cap) (.int .i64 1)).run Tryz.prog w = .ok (.pointer (some ⟨T.b, q1, none⟩)) w := fun w => by rw [hq1]; exact kidx_at hT (k := 1) (by omega) w
  have HKC1 := hide (fun (W1 : World) (h : Below W.heap.size W W1) => show W1.cell? ⟨T.b, q1, none⟩ = some (.int .i64 (T.kid 1).k) ∧ W1.cell? ⟨T.b, q1 + 1, none⟩ = some (.string (T.kid 1).t) ∧ W1.cell? ⟨T.b, q1 + 2, none⟩ = some (.int .i64 (T.kid 1).n) ∧ W1.cell? ⟨T.b, q1 + 3, none⟩ = some (.string (T.kid 1).nm) ∧ W1.cell? ⟨T.b, q1 + 4, none⟩ = some (.slice (T.kid 1).xa (T.kid 1).len (T.kid 1).cap) from by rw [hq1]; exact (PT.In.later h hT).cells (i := 1) (by omega))
  have HKS1 := hide (fun (lv : Int) (w2 : World) (v2 : Value) (o2 : List UInt8) (f2 : Bool) h3 h4 h5 => show Calls Tryz.prog 43 #[.pointer (some ⟨z, 0, none⟩), .agg #[.int .i64 (T.kid 1).k, .string (T.kid 1).t, .int .i64 (T.kid 1).n, .string (T.kid 1).nm, .slice (T.kid 1).xa (T.kid 1).len (T.kid 1).cap], .int .i64 lv] w2 fun e w' => WPost B z w2 v2 o2 (flt ((T.kid 1).atl lv)) f2 (40 * (T.kid 1).cnt) e w' from hkid 1 (by omega) W w2 B z v2 o2 f2 lv hE (hT.kids (by omega)) h3 hz h4 ((badX_node hbad).2 1 (by omega)) h5)
  have HSG : Hid ((signX (K : Int)).data.toList = [opB T.k]) := hide (by rw [hsg, hkK]; rfl)
  have e0 : (signX (K : Int)).size = 1 := by rw [hsg]; rfl
  clear hsg h8 h13
  clear hkK hbad hT hE hb hW hal hbx hbs hw1 hkid hl
  clear hq0 hq1
  generalize signX (K : Int) = sgx at *
  generalize levelX (K : Int) = lvx at *
  generalize namedX (K : Int) = nmx at *
  generalize leastX (K : Int) = lsx at *
  generalize mostX (K : Int) = msx at *
  have hwp : IntKind.i64.wrap (lvx + 1) = lvx + 1 := (IntWalk.i64_left _).trans (IntWalk.wrap64_in _ (by omega))
  go_enter Tryz.func59, Tryz.ntmps59
  go_wp2_with fail
  rw [unhide HW1]
  obtain ⟨x0, x1, x2, x3, x4⟩ := cells5x (unhide HBX)
  obtain ⟨y0, y1, y2, y3, y4⟩ := cells5x (unhide HBS)
  obtain ⟨k0, k1, k2, k3, k4⟩ := unhide HKC0 w1 (unhide H1).bel
  obtain ⟨S0, hS0⟩ : ∃ S0 : World → Prop, S0 = fun W1 => W1.cell? ⟨w.heap.size, 4, none⟩ = some (.slice T.xa T.len T.cap) ∧ W1.cell? ⟨w.heap.size + 1, 1, none⟩ = some (.int .i64 lvx) ∧ W1.cell? ⟨T.b, q0, none⟩ = some (.int .i64 (T.kid 0).k) ∧ W1.cell? ⟨T.b, q0 + 1, none⟩ = some (.string (T.kid 0).t) ∧ W1.cell? ⟨T.b, q0 + 2, none⟩ = some (.int .i64 (T.kid 0).n) ∧ W1.cell? ⟨T.b, q0 + 3, none⟩ = some (.string (T.kid 0).nm) ∧ W1.cell? ⟨T.b, q0 + 4, none⟩ = some (.slice (T.kid 0).xa (T.kid 0).len (T.kid 0).cap) := ⟨_, rfl⟩
  have HS0 := hide hS0
  have hS0w : S0 w1.drew := by rw [hS0]; exact ⟨x4, y1, k0, k1, k2, k3, k4⟩
  have h1d := (unhide H1).below (Below.refl _ _).drew
  have HK1 := hide (unhide HKS0 lvx w1.drew v o f h1d.bel h1d.wr (h1d.len2 (by omega)))
  have HD1 := hide h1d
  clear hS0 h1d x0 x1 x2 x3 x4 y0 y1 y2 y3 y4 k0 k1 k2 k3 k4
  refine startQ 7 S0 ?_
  intro F
  refine takeR F 0 HS0 hS0w ?_
  (try simp only [List.getElem_toArray, List.getElem_cons_zero])
  (try go_frame)
  refine takeR F 1 HS0 hS0w ?_
  (try simp only [List.getElem_toArray, List.getElem_cons_succ, List.getElem_cons_zero])
  (try go_frame)
  refine takeR F 2 HS0 hS0w ?_
  (try simp only [List.getElem_toArray, List.getElem_cons_succ, List.getElem_cons_zero])
  (try go_frame)
  refine takeR F 3 HS0 hS0w ?_
  (try simp only [List.getElem_toArray, List.getElem_cons_succ, List.getElem_cons_zero])
  (try go_frame)
  refine takeR F 4 HS0 hS0w ?_
  (try simp only [List.getElem_toArray, List.getElem_cons_succ, List.getElem_cons_zero])
  (try go_frame)
  refine takeR F 5 HS0 hS0w ?_
  (try simp only [List.getElem_toArray, List.getElem_cons_succ, List.getElem_cons_zero])
  (try go_frame)
  refine takeR F 6 HS0 hS0w ?_
  (try simp only [List.getElem_toArray, List.getElem_cons_succ, List.getElem_cons_zero])
  (try go_frame)
  refine lastE (by kernel_rfl) rfl (by kernel_rfl) (fun K4 hK4 => ?_)
  go_simp
  refine (unhide HK1).mono ?_
  rintro e w2 ⟨rfl, hst⟩
  obtain ⟨v2, o2, f2, h2, hx2⟩ := (unhide HD1).sub (unhide HZ).2 hst
  have HBX2 := hide (hx2.keep (unhide HD1).wr (unhide HBX) (by decide) hnz)
  have HBS2 := hide (hx2.keep (unhide HD1).wr (unhide HBS) (by decide) hnz2)
  have H2 := hide h2
  refine hK4 _ _ ?_
  (try simp only [List.getElem_toArray, List.getElem_cons_succ, List.getElem_cons_zero])
  (try go_frame)
  clear hK4 K4 F hS0w HS0 hst h2 hx2 HK1 HD1 H1
  have e1 : (sgn 32).size = 1 := rfl
  have HP2 : Hid (Calls Tryz.prog 42 #[.pointer (some ⟨z, 0, none⟩), .slice (some ⟨w2.heap.size, 0, none⟩) 3 3] (w2.alloc (.cells #[.string ⟨#[32]⟩, .string sgx, .string ⟨#[32]⟩] 9)) _) := hide ((unhide H2).put (unhide HZ).1 (unhide HZ).2 (by omega) [sgn 32, sgx, sgn 32] (by simp) (fun t ht => by simp only [List.mem_cons, List.not_mem_nil, or_false] at ht; rcases ht with rfl | rfl | rfl <;> omega) 3 (by show (cat [sgn 32, sgx, sgn 32]).length ≤ 3; unfold cat; simp only [List.flatMap_cons, List.flatMap_nil, List.length_append, List.length_nil, tlen]; omega))
  obtain ⟨y0, y1, y2, y3, y4⟩ := cells5x (unhide HBS2)
  go_wp2_with fail
  clear y0 y1 y2 y3 y4
  refine (unhide HP2).mono ?_
  rintro e w3 ⟨rfl, v3, o3, f3, h3, hx3⟩
  have HBX3 := hide (hx3.keep (unhide H2).wr (unhide HBX2) (by decide) hnz)
  have HBS3 := hide (hx3.keep (unhide H2).wr (unhide HBS2) (by decide) hnz2)
  have H3 := hide h3
  clear h3 hx3 HP2 H2
  go_wp2_with fail
  obtain ⟨x0, x1, x2, x3, x4⟩ := cells5x (unhide HBX3)
  obtain ⟨y0, y1, y2, y3, y4⟩ := cells5x (unhide HBS3)
  obtain ⟨k0, k1, k2, k3, k4⟩ := unhide HKC1 w3 (unhide H3).bel
  obtain ⟨S0, hS0⟩ : ∃ S0 : World → Prop, S0 = fun W1 => W1.cell? ⟨w.heap.size, 4, none⟩ = some (.slice T.xa T.len T.cap) ∧ W1.cell? ⟨w.heap.size + 1, 1, none⟩ = some (.int .i64 lvx) ∧ W1.cell? ⟨T.b, q1, none⟩ = some (.int .i64 (T.kid 1).k) ∧ W1.cell? ⟨T.b, q1 + 1, none⟩ = some (.string (T.kid 1).t) ∧ W1.cell? ⟨T.b, q1 + 2, none⟩ = some (.int .i64 (T.kid 1).n) ∧ W1.cell? ⟨T.b, q1 + 3, none⟩ = some (.string (T.kid 1).nm) ∧ W1.cell? ⟨T.b, q1 + 4, none⟩ = some (.slice (T.kid 1).xa (T.kid 1).len (T.kid 1).cap) := ⟨_, rfl⟩
  have HS0 := hide hS0
  have hS0w : S0 w3.drew := by rw [hS0]; exact ⟨x4, y1, k0, k1, k2, k3, k4⟩
  have h3d := (unhide H3).below (Below.refl _ _).drew
  have HK3 := hide (unhide HKS1 (lvx + 1) w3.drew v3 o3 f3 h3d.bel h3d.wr (h3d.len2 (by omega)))
  have HD3 := hide h3d
  clear hS0 h3d x0 x1 x2 x3 x4 y0 y1 y2 y3 y4 k0 k1 k2 k3 k4
  refine startQ 8 S0 ?_
  intro F
  refine takeR F 0 HS0 hS0w ?_
  (try simp only [List.getElem_toArray, List.getElem_cons_zero])
  (try go_frame)
  refine takeR F 1 HS0 hS0w ?_
  (try simp only [List.getElem_toArray, List.getElem_cons_succ, List.getElem_cons_zero])
  (try go_frame)
  refine takeR F 2 HS0 hS0w ?_
  (try simp only [List.getElem_toArray, List.getElem_cons_succ, List.getElem_cons_zero])
  (try go_frame)
  refine takeR F 3 HS0 hS0w ?_
  (try simp only [List.getElem_toArray, List.getElem_cons_succ, List.getElem_cons_zero])
  (try go_frame)
  refine takeR F 4 HS0 hS0w ?_
  (try simp only [List.getElem_toArray, List.getElem_cons_succ, List.getElem_cons_zero])
  (try go_frame)
  refine takeR F 5 HS0 hS0w ?_
  (try simp only [List.getElem_toArray, List.getElem_cons_succ, List.getElem_cons_zero])
  (try go_frame)
  refine takeR F 6 HS0 hS0w ?_
  (try simp only [List.getElem_toArray, List.getElem_cons_succ, List.getElem_cons_zero])
  (try go_frame)
  refine takeR F 7 HS0 hS0w ?_
  (try simp only [List.getElem_toArray, List.getElem_cons_succ, List.getElem_cons_zero])
  (try go_frame)
  refine lastE (by kernel_rfl) rfl (by kernel_rfl) (fun K4 hK4 => ?_)
  go_simp
  refine (unhide HK3).mono ?_
  rintro e w4 ⟨rfl, hst⟩
  obtain ⟨v4, o4, f4, h4, hx4⟩ := (unhide HD3).sub (unhide HZ).2 hst
  have HBX4 := hide (hx4.keep (unhide HD3).wr (unhide HBX3) (by decide) hnz)
  have HBS4 := hide (hx4.keep (unhide HD3).wr (unhide HBS3) (by decide) hnz2)
  have H4 := hide h4
  refine hK4 _ _ ?_
  (try simp only [List.getElem_toArray, List.getElem_cons_succ, List.getElem_cons_zero])
  (try go_frame)
  clear hK4 K4 F hS0w HS0 hst h4 hx4 HK3 HD3 H3
  have HF := hide ((unhide H4).done (t := flt T.exI) (c := 40 * T.cnt - 2) (by rw [unhide HI]; rw [cat_cons, cat_cons, cat_one, unhide HSG]; show [] ++ flt ((T.kid 0).atl lvx) ++ ([32] ++ ([opB T.k] ++ [32])) ++ flt ((T.kid 1).atl (lvx + 1)) = _; simp) (by omega))
  go_wp2_with fail
  go_end0
  exact ⟨rfl, unhide HF⟩
end Go.Proofs.YtpphjddljngkmaaGreatDoor
