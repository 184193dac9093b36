/- The writer of lines: expressions without brackets around them: what has kids. -/
import Derived.Test.YtpphjddljngkmaaGreatDoorWrFP
import Derived.Test.YtpphjddljngkmaaGreatDoorRegionSinkM
namespace Go.Proofs.YtpphjddljngkmaaGreatDoor
open Go.RowKit

set_option maxRecDepth 100000 in
set_option maxHeartbeats 8000000 in
theorem bare_5 {T : PT} (hk : T.k = 5) (hl : T.len = 1) (hkid : ∀ i, i < T.len → ExSays (T.kid i)) : BaSays T := by
  intro W w B z v o f hE hT hb hz hW hbad hlen
  obtain ⟨s0, s1, s2, s3, s4⟩ := shx_at (hE.shx.later hb) 5 5 rfl (by decide) (by decide)
  have hgl : (0 : Nat) < w.heap.size := World.block_lt_of_cell? _ _ s0
  have hgl' : ¬ w.heap.size = 0 := by omega
  have hgl2 : ¬ w.heap.size + 1 = 0 := by omega
  have hcp := T.cnt_pos
  have hzl : z < w.heap.size := (Array.getElem?_eq_some_iff.1 hW.blk).1
  have hnz : w.heap.size ≠ z := by omega
  have hnz2 : w.heap.size + 1 ≠ z := by omega
  obtain ⟨w1, hw1⟩ : ∃ w1, w1 = (w.alloc (.cells #[.int .i64 5, .string T.t, .int .i64 T.n, .string T.nm, .slice T.xa T.len T.cap] 25)).alloc (.cells #[.string (signX 5), .int .i64 (levelX 5), .bool (namedX 5), .int .i64 (leastX 5), .int .i64 (mostX 5)] 78) := ⟨_, rfl⟩
  have hal : Below w.heap.size w w1 := by rw [hw1]; exact (ba _).alloc (by simp) _
  have hbx : w1.heap[w.heap.size]? = some (.cells #[.int .i64 5, .string T.t, .int .i64 T.n, .string T.nm, .slice T.xa T.len T.cap] 25 (0, 0)) := by rw [hw1]; exact at_old (by simp) (at_new rfl)
  have hbs : w1.heap[w.heap.size + 1]? = some (.cells #[.string (signX 5), .int .i64 (levelX 5), .bool (namedX 5), .int .i64 (leastX 5), .int .i64 (mostX 5)] 78 (0, 0)) := by rw [hw1]; exact at_new (by simp)
  have H1 := hide ((Wn.start hb hW).below hal)
  have HBX := hide hbx
  have HBS := hide hbs
  have HS1 : Hid (w1.heap.size = w.heap.size + 1 + 1) := hide (by rw [hw1]; simp)
  have HW1 : Hid ((w.alloc (.cells #[.int .i64 5, .string T.t, .int .i64 T.n, .string T.nm, .slice T.xa T.len T.cap] 25)).alloc (.cells #[.string (signX 5), .int .i64 (levelX 5), .bool (namedX 5), .int .i64 (leastX 5), .int .i64 (mostX 5)] 78) = w1) := hide (hw1.symm)
  have HZ := hide (And.intro hE hz)
  have HT := hide hT
  unfold pv
  rw [hk]
  have e0 : (sgn 36).size = 1 := rfl
  have HI : Hid (flt T.exI = [36] ++ flt ((T.kid 0).atl 5)) := hide (by
    rw [T.exI_eq, hk]
    show flt (sg 36 :: T.kidI 5 0) = _
    rw [kidI_at (by omega), flt_cons]; rfl)
  have hc1 := kid_cnt (T := T) (i := 0) (by omega)
  obtain ⟨q0, hq0⟩ : ∃ q, q = T.o + 0 * 5 := ⟨_, rfl⟩
  have hix0 : ∀ w, (Instr.indexAt 23 (.slice T.xa T.len T.cap) (.int .i64 0)).run Tryz.prog w = .ok (.pointer (some ⟨T.b, q0, none⟩)) w := fun w => by rw [hq0]; exact kidx_at hT (k := 0) (by omega) w
  have HKC0 := hide (fun (W1 : World) (h : Below W.heap.size W W1) => show W1.cell? ⟨T.b, q0, none⟩ = some (.int .i64 (T.kid 0).k) ∧ W1.cell? ⟨T.b, q0 + 1, none⟩ = some (.string (T.kid 0).t) ∧ W1.cell? ⟨T.b, q0 + 2, none⟩ = some (.int .i64 (T.kid 0).n) ∧ W1.cell? ⟨T.b, q0 + 3, none⟩ = some (.string (T.kid 0).nm) ∧ W1.cell? ⟨T.b, q0 + 4, none⟩ = some (.slice (T.kid 0).xa (T.kid 0).len (T.kid 0).cap) from by rw [hq0]; exact (PT.In.later h hT).cells (i := 0) (by omega))
  have HKS0 := hide (fun (lv : Int) (w2 : World) (v2 : Value) (o2 : List UInt8) (f2 : Bool) h3 h4 h5 => show Calls Tryz.prog 43 #[.pointer (some ⟨z, 0, none⟩), .agg #[.int .i64 (T.kid 0).k, .string (T.kid 0).t, .int .i64 (T.kid 0).n, .string (T.kid 0).nm, .slice (T.kid 0).xa (T.kid 0).len (T.kid 0).cap], .int .i64 lv] w2 fun e w' => WPost B z w2 v2 o2 (flt ((T.kid 0).atl lv)) f2 (40 * (T.kid 0).cnt) e w' from hkid 0 (by omega) W w2 B z v2 o2 f2 lv hE (hT.kids (by omega)) h3 hz h4 ((badX_node hbad).2 0 (by omega)) h5)
  clear hk hbad hT hE hb hW hal hbx hbs hw1 hkid hl
  clear hq0
  generalize hsgx : signX 5 = sgx at *
  have hsgx : sgx = ⟨#[36]⟩ := hsgx.symm.trans rfl
  subst hsgx
  generalize hlvx : levelX 5 = lvx at *
  have HLX : Hid (lvx = 5) := hide (hlvx.symm.trans rfl)
  clear hlvx
  generalize namedX 5 = nmx at *
  generalize leastX 5 = lsx at *
  generalize mostX 5 = msx at *
  have HP1 : Hid (Calls Tryz.prog 42 #[.pointer (some ⟨z, 0, none⟩), .slice (some ⟨w1.heap.size, 0, none⟩) 1 1] (w1.alloc (.cells #[.string ⟨#[36]⟩] 9)) _) := hide ((unhide H1).put (unhide HZ).1 (unhide HZ).2 (by omega) [sgn 36] (by simp) (fun t ht => by simp only [List.mem_cons, List.not_mem_nil, or_false] at ht; subst ht; omega) 1 (by show (cat [sgn 36]).length ≤ 1; unfold cat; simp only [List.flatMap_cons, List.flatMap_nil, List.length_append, List.length_nil, tlen]; omega))
  rw [unhide HS1] at HP1
  go_enter Tryz.func59, Tryz.ntmps59
  go_wp2_with fail
  rw [unhide HW1]
  refine (unhide HP1).mono ?_
  rintro e w2 ⟨rfl, v2, o2, f2, h2, hx2⟩
  have HBX2 := hide (hx2.keep (unhide H1).wr (unhide HBX) (by decide) hnz)
  have HBS2 := hide (hx2.keep (unhide H1).wr (unhide HBS) (by decide) hnz2)
  have H2 := hide h2
  clear h2 hx2 HP1 H1
  rw [show ((5 : Int)) = lvx from (unhide HLX).symm] at HI
  go_wp2_with fail
  obtain ⟨x0, x1, x2, x3, x4⟩ := cells5x (unhide HBX2)
  obtain ⟨y0, y1, y2, y3, y4⟩ := cells5x (unhide HBS2)
  obtain ⟨k0, k1, k2, k3, k4⟩ := unhide HKC0 w2 (unhide H2).bel
  obtain ⟨S0, hS0⟩ : ∃ S0 : World → Prop, S0 = fun W1 => W1.cell? ⟨w.heap.size, 4, none⟩ = some (.slice T.xa T.len T.cap) ∧ W1.cell? ⟨w.heap.size + 1, 1, none⟩ = some (.int .i64 lvx) ∧ W1.cell? ⟨T.b, q0, none⟩ = some (.int .i64 (T.kid 0).k) ∧ W1.cell? ⟨T.b, q0 + 1, none⟩ = some (.string (T.kid 0).t) ∧ W1.cell? ⟨T.b, q0 + 2, none⟩ = some (.int .i64 (T.kid 0).n) ∧ W1.cell? ⟨T.b, q0 + 3, none⟩ = some (.string (T.kid 0).nm) ∧ W1.cell? ⟨T.b, q0 + 4, none⟩ = some (.slice (T.kid 0).xa (T.kid 0).len (T.kid 0).cap) := ⟨_, rfl⟩
  have HS0 := hide hS0
  have hS0w : S0 w2.drew := by rw [hS0]; exact ⟨x4, y1, k0, k1, k2, k3, k4⟩
  have h2d := (unhide H2).below (Below.refl _ _).drew
  have HK2 := hide (unhide HKS0 lvx w2.drew v2 o2 f2 h2d.bel h2d.wr (h2d.len2 (by omega)))
  have HD2 := hide h2d
  clear hS0 h2d x0 x1 x2 x3 x4 y0 y1 y2 y3 y4 k0 k1 k2 k3 k4
  refine startQ 7 S0 ?_
  intro F
  refine takeR F 0 HS0 hS0w ?_
  (try simp only [List.getElem_toArray, List.getElem_cons_zero])
  (try go_frame)
  refine takeR F 1 HS0 hS0w ?_
  (try simp only [List.getElem_toArray, List.getElem_cons_succ, List.getElem_cons_zero])
  (try go_frame)
  refine takeR F 2 HS0 hS0w ?_
  (try simp only [List.getElem_toArray, List.getElem_cons_succ, List.getElem_cons_zero])
  (try go_frame)
  refine takeR F 3 HS0 hS0w ?_
  (try simp only [List.getElem_toArray, List.getElem_cons_succ, List.getElem_cons_zero])
  (try go_frame)
  refine takeR F 4 HS0 hS0w ?_
  (try simp only [List.getElem_toArray, List.getElem_cons_succ, List.getElem_cons_zero])
  (try go_frame)
  refine takeR F 5 HS0 hS0w ?_
  (try simp only [List.getElem_toArray, List.getElem_cons_succ, List.getElem_cons_zero])
  (try go_frame)
  refine takeR F 6 HS0 hS0w ?_
  (try simp only [List.getElem_toArray, List.getElem_cons_succ, List.getElem_cons_zero])
  (try go_frame)
  refine lastE (by kernel_rfl) rfl (by kernel_rfl) (fun K4 hK4 => ?_)
  go_simp
  refine (unhide HK2).mono ?_
  rintro e w3 ⟨rfl, hst⟩
  obtain ⟨v3, o3, f3, h3, hx3⟩ := (unhide HD2).sub (unhide HZ).2 hst
  have HBX3 := hide (hx3.keep (unhide HD2).wr (unhide HBX2) (by decide) hnz)
  have HBS3 := hide (hx3.keep (unhide HD2).wr (unhide HBS2) (by decide) hnz2)
  have H3 := hide h3
  refine hK4 _ _ ?_
  (try simp only [List.getElem_toArray, List.getElem_cons_succ, List.getElem_cons_zero])
  (try go_frame)
  clear hK4 K4 F hS0w HS0 hst h3 hx3 HK2 HD2 H2
  have HF := hide ((unhide H3).done (t := flt T.exI) (c := 40 * T.cnt - 2) (by rw [unhide HI]; rw [cat_one]; rfl) (by omega))
  go_wp2_with fail
  go_end0
  exact ⟨rfl, unhide HF⟩
set_option maxRecDepth 100000 in
set_option maxHeartbeats 8000000 in
theorem bare_7 {T : PT} (hk : T.k = 7) (hl : T.len = 1) (hkid : ∀ i, i < T.len → ExSays (T.kid i)) : BaSays T := by
  intro W w B z v o f hE hT hb hz hW hbad hlen
  obtain ⟨s0, s1, s2, s3, s4⟩ := shx_at (hE.shx.later hb) 7 7 rfl (by decide) (by decide)
  have hgl : (0 : Nat) < w.heap.size := World.block_lt_of_cell? _ _ s0
  have hgl' : ¬ w.heap.size = 0 := by omega
  have hgl2 : ¬ w.heap.size + 1 = 0 := by omega
  have hcp := T.cnt_pos
  have hzl : z < w.heap.size := (Array.getElem?_eq_some_iff.1 hW.blk).1
  have hnz : w.heap.size ≠ z := by omega
  have hnz2 : w.heap.size + 1 ≠ z := by omega
  obtain ⟨w1, hw1⟩ : ∃ w1, w1 = (w.alloc (.cells #[.int .i64 7, .string T.t, .int .i64 T.n, .string T.nm, .slice T.xa T.len T.cap] 25)).alloc (.cells #[.string (signX 7), .int .i64 (levelX 7), .bool (namedX 7), .int .i64 (leastX 7), .int .i64 (mostX 7)] 78) := ⟨_, rfl⟩
  have hal : Below w.heap.size w w1 := by rw [hw1]; exact (ba _).alloc (by simp) _
  have hbx : w1.heap[w.heap.size]? = some (.cells #[.int .i64 7, .string T.t, .int .i64 T.n, .string T.nm, .slice T.xa T.len T.cap] 25 (0, 0)) := by rw [hw1]; exact at_old (by simp) (at_new rfl)
  have hbs : w1.heap[w.heap.size + 1]? = some (.cells #[.string (signX 7), .int .i64 (levelX 7), .bool (namedX 7), .int .i64 (leastX 7), .int .i64 (mostX 7)] 78 (0, 0)) := by rw [hw1]; exact at_new (by simp)
  have H1 := hide ((Wn.start hb hW).below hal)
  have HBX := hide hbx
  have HBS := hide hbs
  have HS1 : Hid (w1.heap.size = w.heap.size + 1 + 1) := hide (by rw [hw1]; simp)
  have HW1 : Hid ((w.alloc (.cells #[.int .i64 7, .string T.t, .int .i64 T.n, .string T.nm, .slice T.xa T.len T.cap] 25)).alloc (.cells #[.string (signX 7), .int .i64 (levelX 7), .bool (namedX 7), .int .i64 (leastX 7), .int .i64 (mostX 7)] 78) = w1) := hide (hw1.symm)
  have HZ := hide (And.intro hE hz)
  have HT := hide hT
  unfold pv
  rw [hk]
  have e0 : (sgn 45).size = 1 := rfl
  have HI : Hid (flt T.exI = [45] ++ flt ((T.kid 0).atl 4)) := hide (by
    rw [T.exI_eq, hk]
    show flt (sg 45 :: T.kidI 4 0) = _
    rw [kidI_at (by omega), flt_cons]; rfl)
  have hc1 := kid_cnt (T := T) (i := 0) (by omega)
  obtain ⟨q0, hq0⟩ : ∃ q, q = T.o + 0 * 5 := ⟨_, rfl⟩
  have hix0 : ∀ w, (Instr.indexAt 23 (.slice T.xa T.len T.cap) (.int .i64 0)).run Tryz.prog w = .ok (.pointer (some ⟨T.b, q0, none⟩)) w := fun w => by rw [hq0]; exact kidx_at hT (k := 0) (by omega) w
  have HKC0 := hide (fun (W1 : World) (h : Below W.heap.size W W1) => show W1.cell? ⟨T.b, q0, none⟩ = some (.int .i64 (T.kid 0).k) ∧ W1.cell? ⟨T.b, q0 + 1, none⟩ = some (.string (T.kid 0).t) ∧ W1.cell? ⟨T.b, q0 + 2, none⟩ = some (.int .i64 (T.kid 0).n) ∧ W1.cell? ⟨T.b, q0 + 3, none⟩ = some (.string (T.kid 0).nm) ∧ W1.cell? ⟨T.b, q0 + 4, none⟩ = some (.slice (T.kid 0).xa (T.kid 0).len (T.kid 0).cap) from by rw [hq0]; exact (PT.In.later h hT).cells (i := 0) (by omega))
  have HKS0 := hide (fun (lv : Int) (w2 : World) (v2 : Value) (o2 : List UInt8) (f2 : Bool) h3 h4 h5 => show Calls Tryz.prog 43 #[.pointer (some ⟨z, 0, none⟩), .agg #[.int .i64 (T.kid 0).k, .string (T.kid 0).t, .int .i64 (T.kid 0).n, .string (T.kid 0).nm, .slice (T.kid 0).xa (T.kid 0).len (T.kid 0).cap], .int .i64 lv] w2 fun e w' => WPost B z w2 v2 o2 (flt ((T.kid 0).atl lv)) f2 (40 * (T.kid 0).cnt) e w' from hkid 0 (by omega) W w2 B z v2 o2 f2 lv hE (hT.kids (by omega)) h3 hz h4 ((badX_node hbad).2 0 (by omega)) h5)
  clear hk hbad hT hE hb hW hal hbx hbs hw1 hkid hl
  clear hq0
  generalize hsgx : signX 7 = sgx at *
  have hsgx : sgx = ⟨#[45]⟩ := hsgx.symm.trans rfl
  subst hsgx
  generalize hlvx : levelX 7 = lvx at *
  have HLX : Hid (lvx = 4) := hide (hlvx.symm.trans rfl)
  clear hlvx
  generalize namedX 7 = nmx at *
  generalize leastX 7 = lsx at *
  generalize mostX 7 = msx at *
  have HP1 : Hid (Calls Tryz.prog 42 #[.pointer (some ⟨z, 0, none⟩), .slice (some ⟨w1.heap.size, 0, none⟩) 1 1] (w1.alloc (.cells #[.string ⟨#[45]⟩] 9)) _) := hide ((unhide H1).put (unhide HZ).1 (unhide HZ).2 (by omega) [sgn 45] (by simp) (fun t ht => by simp only [List.mem_cons, List.not_mem_nil, or_false] at ht; subst ht; omega) 1 (by show (cat [sgn 45]).length ≤ 1; unfold cat; simp only [List.flatMap_cons, List.flatMap_nil, List.length_append, List.length_nil, tlen]; omega))
  rw [unhide HS1] at HP1
  go_enter Tryz.func59, Tryz.ntmps59
  go_wp2_with fail
  rw [unhide HW1]
  refine (unhide HP1).mono ?_
  rintro e w2 ⟨rfl, v2, o2, f2, h2, hx2⟩
  have HBX2 := hide (hx2.keep (unhide H1).wr (unhide HBX) (by decide) hnz)
  have HBS2 := hide (hx2.keep (unhide H1).wr (unhide HBS) (by decide) hnz2)
  have H2 := hide h2
  clear h2 hx2 HP1 H1
  rw [show ((4 : Int)) = lvx from (unhide HLX).symm] at HI
  go_wp2_with fail
  obtain ⟨x0, x1, x2, x3, x4⟩ := cells5x (unhide HBX2)
  obtain ⟨y0, y1, y2, y3, y4⟩ := cells5x (unhide HBS2)
  obtain ⟨k0, k1, k2, k3, k4⟩ := unhide HKC0 w2 (unhide H2).bel
  obtain ⟨S0, hS0⟩ : ∃ S0 : World → Prop, S0 = fun W1 => W1.cell? ⟨w.heap.size, 4, none⟩ = some (.slice T.xa T.len T.cap) ∧ W1.cell? ⟨w.heap.size + 1, 1, none⟩ = some (.int .i64 lvx) ∧ W1.cell? ⟨T.b, q0, none⟩ = some (.int .i64 (T.kid 0).k) ∧ W1.cell? ⟨T.b, q0 + 1, none⟩ = some (.string (T.kid 0).t) ∧ W1.cell? ⟨T.b, q0 + 2, none⟩ = some (.int .i64 (T.kid 0).n) ∧ W1.cell? ⟨T.b, q0 + 3, none⟩ = some (.string (T.kid 0).nm) ∧ W1.cell? ⟨T.b, q0 + 4, none⟩ = some (.slice (T.kid 0).xa (T.kid 0).len (T.kid 0).cap) := ⟨_, rfl⟩
  have HS0 := hide hS0
  have hS0w : S0 w2.drew := by rw [hS0]; exact ⟨x4, y1, k0, k1, k2, k3, k4⟩
  have h2d := (unhide H2).below (Below.refl _ _).drew
  have HK2 := hide (unhide HKS0 lvx w2.drew v2 o2 f2 h2d.bel h2d.wr (h2d.len2 (by omega)))
  have HD2 := hide h2d
  clear hS0 h2d x0 x1 x2 x3 x4 y0 y1 y2 y3 y4 k0 k1 k2 k3 k4
  refine startQ 7 S0 ?_
  intro F
  refine takeR F 0 HS0 hS0w ?_
  (try simp only [List.getElem_toArray, List.getElem_cons_zero])
  (try go_frame)
  refine takeR F 1 HS0 hS0w ?_
  (try simp only [List.getElem_toArray, List.getElem_cons_succ, List.getElem_cons_zero])
  (try go_frame)
  refine takeR F 2 HS0 hS0w ?_
  (try simp only [List.getElem_toArray, List.getElem_cons_succ, List.getElem_cons_zero])
  (try go_frame)
  refine takeR F 3 HS0 hS0w ?_
  (try simp only [List.getElem_toArray, List.getElem_cons_succ, List.getElem_cons_zero])
  (try go_frame)
  refine takeR F 4 HS0 hS0w ?_
  (try simp only [List.getElem_toArray, List.getElem_cons_succ, List.getElem_cons_zero])
  (try go_frame)
  refine takeR F 5 HS0 hS0w ?_
  (try simp only [List.getElem_toArray, List.getElem_cons_succ, List.getElem_cons_zero])
  (try go_frame)
  refine takeR F 6 HS0 hS0w ?_
  (try simp only [List.getElem_toArray, List.getElem_cons_succ, List.getElem_cons_zero])
  (try go_frame)
  refine lastE (by kernel_rfl) rfl (by kernel_rfl) (fun K4 hK4 => ?_)
  go_simp
  refine (unhide HK2).mono ?_
  rintro e w3 ⟨rfl, hst⟩
  obtain ⟨v3, o3, f3, h3, hx3⟩ := (unhide HD2).sub (unhide HZ).2 hst
  have HBX3 := hide (hx3.keep (unhide HD2).wr (unhide HBX2) (by decide) hnz)
  have HBS3 := hide (hx3.keep (unhide HD2).wr (unhide HBS2) (by decide) hnz2)
  have H3 := hide h3
  refine hK4 _ _ ?_
  (try simp only [List.getElem_toArray, List.getElem_cons_succ, List.getElem_cons_zero])
  (try go_frame)
  clear hK4 K4 F hS0w HS0 hst h3 hx3 HK2 HD2 H2
  have HF := hide ((unhide H3).done (t := flt T.exI) (c := 40 * T.cnt - 2) (by rw [unhide HI]; rw [cat_one]; rfl) (by omega))
  go_wp2_with fail
  go_end0
  exact ⟨rfl, unhide HF⟩
end Go.Proofs.YtpphjddljngkmaaGreatDoor
