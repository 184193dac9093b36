/- The writer of lines: expressions without brackets around them, kind by kind. -/
import Derived.Test.YtpphjddljngkmaaGreatDoorRegionSinkM
import Derived.Test.YtpphjddljngkmaaGreatDoorQuote4M
namespace Go.Proofs.YtpphjddljngkmaaGreatDoor
open Go.RowKit

theorem tlen (t : ByteArray) : t.data.toList.length = t.size := by simp
theorem itoa_len (n : Int) (h0 : -9223372036854775808 ≤ n) (h1 : n ≤ 9223372036854775807) : (Lib.itoa n).length ≤ 20 := by
  have hk : ∀ k u : Nat, 1 ≤ k → u < 10 ^ k → (Lib.decDigits u).length ≤ k := by
    intro k
    induction k with
    | zero => intro u h; omega
    | succ k ih =>
      intro u _ h
      rw [Lib.decDigits]
      by_cases q : u < 10
      · rw [dif_pos q]; show 1 ≤ k + 1; omega
      · rw [dif_neg q, List.length_append, List.length_singleton]
        have h2 : u / 10 < 10 ^ k := by rw [Nat.pow_succ] at h; omega
        by_cases k0 : k = 0
        · subst k0
          simp only [Nat.pow_zero] at h2
          omega
        · have := ih (u / 10) (by omega) h2; omega
  have hd : ∀ u : Nat, u ≤ 9223372036854775808 → (Lib.decDigits u).length ≤ 19 := fun u hu => hk 19 u (by decide) (by omega)
  unfold Lib.itoa
  split
  · rw [List.length_cons]; have := hd n.natAbs (by omega); omega
  · have := hd n.toNat (by omega); omega
theorem kid_cnt {T : PT} {i : Nat} (h : i < T.len) : (T.kid i).cnt + 1 ≤ T.cnt := by
  rw [T.cnt_eq]
  have : ∀ n, i < n → (T.kid i).cnt ≤ sumTo (fun i => (T.kid i).cnt) n := by
    intro n
    induction n with
    | zero => intro h; omega
    | succ n ih =>
      intro h
      rw [sumTo]
      by_cases e : i = n
      · subst e; omega
      · have := ih (by omega); omega
  have := this T.len h
  omega
theorem shx_at {w : World} (h : ShapesX w) (K : Nat) (k : Int) (hk : k = (K : Int)) (h1 : 1 ≤ K) (h2 : K ≤ 13) : w.cell? ⟨0, K * 5, none⟩ = some (.string (signX k)) ∧ w.cell? ⟨0, K * 5 + 1, none⟩ = some (.int .i64 (levelX k)) ∧ w.cell? ⟨0, K * 5 + 2, none⟩ = some (.bool (namedX k)) ∧ w.cell? ⟨0, K * 5 + 3, none⟩ = some (.int .i64 (leastX k)) ∧ w.cell? ⟨0, K * 5 + 4, none⟩ = some (.int .i64 (mostX k)) := by
  subst hk
  exact h K h1 h2
set_option maxRecDepth 100000 in
set_option maxHeartbeats 4000000 in
theorem bare_1 {T : PT} (hk : T.k = 1) (ht : T.t.size ≤ 65536) : BaSays T := by
  intro W w B z v o f hE hT hb hz hW hbad hlen
  obtain ⟨s0, s1, s2, s3, s4⟩ := shx_at (hE.shx.later hb) 1 1 rfl (by decide) (by decide)
  have hgl : (0 : Nat) < w.heap.size := World.block_lt_of_cell? _ _ s0
  have hgl' : ¬ w.heap.size = 0 := by omega
  have hgl2 : ¬ w.heap.size + 1 = 0 := by omega
  have hcp := T.cnt_pos
  have hzl : z < w.heap.size := (Array.getElem?_eq_some_iff.1 hW.blk).1
  have hnz : w.heap.size ≠ z := by omega
  have hnz2 : w.heap.size + 1 ≠ z := by omega
  obtain ⟨w1, hw1⟩ : ∃ w1, w1 = (w.alloc (.cells #[.int .i64 1, .string T.t, .int .i64 T.n, .string T.nm, .slice T.xa T.len T.cap] 25)).alloc (.cells #[.string (signX 1), .int .i64 (levelX 1), .bool (namedX 1), .int .i64 (leastX 1), .int .i64 (mostX 1)] 78) := ⟨_, rfl⟩
  have hal : Below w.heap.size w w1 := by rw [hw1]; exact (ba _).alloc (by simp) _
  have hbx : w1.heap[w.heap.size]? = some (.cells #[.int .i64 1, .string T.t, .int .i64 T.n, .string T.nm, .slice T.xa T.len T.cap] 25 (0, 0)) := by rw [hw1]; exact at_old (by simp) (at_new rfl)
  have hbs : w1.heap[w.heap.size + 1]? = some (.cells #[.string (signX 1), .int .i64 (levelX 1), .bool (namedX 1), .int .i64 (leastX 1), .int .i64 (mostX 1)] 78 (0, 0)) := by rw [hw1]; exact at_new (by simp)
  have H1 := hide ((Wn.start hb hW).below hal)
  have HBX := hide hbx
  have HBS := hide hbs
  have HS1 : Hid (w1.heap.size = w.heap.size + 1 + 1) := hide (by rw [hw1]; simp)
  have HW1 : Hid ((w.alloc (.cells #[.int .i64 1, .string T.t, .int .i64 T.n, .string T.nm, .slice T.xa T.len T.cap] 25)).alloc (.cells #[.string (signX 1), .int .i64 (levelX 1), .bool (namedX 1), .int .i64 (leastX 1), .int .i64 (mostX 1)] 78) = w1) := hide (hw1.symm)
  have HZ := hide (And.intro hE hz)
  have HT := hide hT
  unfold pv
  rw [hk]
  have HI : Hid (flt T.exI = quoteL T.t.data.toList) := hide (by rw [T.exI_eq, hk]; exact List.append_nil _)
  have HQ := hide (quoted_any T.t hE (unhide H1).bel hz (unhide H1).wr ht (by omega))
  clear hk hbad hT hE hb hW hal hbx hbs hw1
  generalize signX 1 = sgx at *
  generalize levelX 1 = lvx at *
  generalize namedX 1 = nmx at *
  generalize leastX 1 = lsx at *
  generalize mostX 1 = msx at *
  go_enter Tryz.func59, Tryz.ntmps59
  go_wp2_with fail
  rw [unhide HW1]
  refine (unhide HQ).mono ?_
  rintro e w2 ⟨rfl, hst⟩
  obtain ⟨v3, o3, f3, h3, -⟩ := (unhide H1).sub (unhide HZ).2 hst
  have HF := hide (h3.done (t := flt T.exI) (c := 40 * T.cnt - 2) (by rw [unhide HI]; rfl) (by omega))
  clear hst h3
  go_wp2_with fail
  go_end0
  exact ⟨rfl, unhide HF⟩
set_option maxRecDepth 100000 in
set_option maxHeartbeats 8000000 in
theorem bare_2 {T : PT} (hk : T.k = 2) : BaSays T := by
  intro W w B z v o f hE hT hb hz hW hbad hlen
  obtain ⟨s0, s1, s2, s3, s4⟩ := shx_at (hE.shx.later hb) 2 2 rfl (by decide) (by decide)
  have hgl : (0 : Nat) < w.heap.size := World.block_lt_of_cell? _ _ s0
  have hgl' : ¬ w.heap.size = 0 := by omega
  have hgl2 : ¬ w.heap.size + 1 = 0 := by omega
  have hcp := T.cnt_pos
  have hzl : z < w.heap.size := (Array.getElem?_eq_some_iff.1 hW.blk).1
  have hnz : w.heap.size ≠ z := by omega
  have hnz2 : w.heap.size + 1 ≠ z := by omega
  obtain ⟨w1, hw1⟩ : ∃ w1, w1 = (w.alloc (.cells #[.int .i64 2, .string T.t, .int .i64 T.n, .string T.nm, .slice T.xa T.len T.cap] 25)).alloc (.cells #[.string (signX 2), .int .i64 (levelX 2), .bool (namedX 2), .int .i64 (leastX 2), .int .i64 (mostX 2)] 78) := ⟨_, rfl⟩
  have hal : Below w.heap.size w w1 := by rw [hw1]; exact (ba _).alloc (by simp) _
  have hbx : w1.heap[w.heap.size]? = some (.cells #[.int .i64 2, .string T.t, .int .i64 T.n, .string T.nm, .slice T.xa T.len T.cap] 25 (0, 0)) := by rw [hw1]; exact at_old (by simp) (at_new rfl)
  have hbs : w1.heap[w.heap.size + 1]? = some (.cells #[.string (signX 2), .int .i64 (levelX 2), .bool (namedX 2), .int .i64 (leastX 2), .int .i64 (mostX 2)] 78 (0, 0)) := by rw [hw1]; exact at_new (by simp)
  have H1 := hide ((Wn.start hb hW).below hal)
  have HBX := hide hbx
  have HBS := hide hbs
  have HS1 : Hid (w1.heap.size = w.heap.size + 1 + 1) := hide (by rw [hw1]; simp)
  have HW1 : Hid ((w.alloc (.cells #[.int .i64 2, .string T.t, .int .i64 T.n, .string T.nm, .slice T.xa T.len T.cap] 25)).alloc (.cells #[.string (signX 2), .int .i64 (levelX 2), .bool (namedX 2), .int .i64 (leastX 2), .int .i64 (mostX 2)] 78) = w1) := hide (hw1.symm)
  have HZ := hide (And.intro hE hz)
  have HT := hide hT
  unfold pv
  rw [hk]
  have HI : Hid (flt T.exI = Lib.itoa T.n) := hide (by rw [T.exI_eq, hk]; exact List.append_nil _)
  have hnr := hT.num
  have HFI := hide (fun (W1 : World) (h : Below W.heap.size W W1) => show Calls Tryz.prog 76 #[.int .i64 T.n, .int .i64 10] W1 fun e w' => e = .returned (.string ⟨(Lib.itoa T.n).toArray⟩) ∧ Below W1.heap.size W1 w' from (Tryz.strconv_FormatInt_10 T.n hnr.1 hnr.2 W1 (hE.pow W1 h)).mono fun e w' q => by
    obtain ⟨h1, k, os, rfl⟩ := q
    exact ⟨h1, Lib.below_grow W1.heap.size W1 (Nat.le_refl _) k os⟩)
  have hil := itoa_len T.n hnr.1 hnr.2
  obtain ⟨it, hit⟩ : ∃ it : ByteArray, it = ⟨(Lib.itoa T.n).toArray⟩ := ⟨_, rfl⟩
  have htl : it.size ≤ 20 := by rw [hit]; show (Lib.itoa T.n).toArray.size ≤ 20; rw [List.size_toArray]; exact hil
  have HIT : Hid (it.data.toList = Lib.itoa T.n) := hide (by rw [hit])
  rw [← hit] at HFI
  clear hk hbad hT hE hb hW hal hbx hbs hw1
  clear hnr hil hit
  generalize signX 2 = sgx at *
  generalize levelX 2 = lvx at *
  generalize namedX 2 = nmx at *
  generalize leastX 2 = lsx at *
  generalize mostX 2 = msx at *
  go_enter Tryz.func59, Tryz.ntmps59
  go_wp2_with fail
  rw [unhide HW1]
  refine (unhide HFI w1 (unhide H1).bel).mono ?_
  rintro e w2 ⟨rfl, hb2⟩
  have H2 := hide ((unhide H1).below hb2)
  clear hb2 H1 HFI
  have HP2 : Hid (Calls Tryz.prog 42 #[.pointer (some ⟨z, 0, none⟩), .slice (some ⟨w2.heap.size, 0, none⟩) 1 1] (w2.alloc (.cells #[.string it] 9)) _) := hide ((unhide H2).put (unhide HZ).1 (unhide HZ).2 (by omega) [it] (by simp) (fun t ht => by simp only [List.mem_cons, List.not_mem_nil, or_false] at ht; subst ht; omega) 20 (by show (cat [it]).length ≤ 20; unfold cat; simp only [List.flatMap_cons, List.flatMap_nil, List.length_append, List.length_nil, tlen]; omega))
  go_wp2_with fail
  refine (unhide HP2).mono ?_
  rintro e w3 ⟨rfl, v3, o3, f3, h3, hx3⟩
  have H3 := hide h3
  clear h3 hx3 HP2 H2
  have HF := hide ((unhide H3).done (t := flt T.exI) (c := 40 * T.cnt - 2) (by rw [unhide HI]; rw [cat_one, unhide HIT]; rfl) (by omega))
  go_wp2_with fail
  go_end0
  exact ⟨rfl, unhide HF⟩
set_option maxRecDepth 100000 in
set_option maxHeartbeats 8000000 in
theorem bare_3 {T : PT} (hk : T.k = 3) (hnm : named T.nm = true) : BaSays T := by
  intro W w B z v o f hE hT hb hz hW hbad hlen
  obtain ⟨s0, s1, s2, s3, s4⟩ := shx_at (hE.shx.later hb) 3 3 rfl (by decide) (by decide)
  have hgl : (0 : Nat) < w.heap.size := World.block_lt_of_cell? _ _ s0
  have hgl' : ¬ w.heap.size = 0 := by omega
  have hgl2 : ¬ w.heap.size + 1 = 0 := by omega
  have hcp := T.cnt_pos
  have hzl : z < w.heap.size := (Array.getElem?_eq_some_iff.1 hW.blk).1
  have hnz : w.heap.size ≠ z := by omega
  have hnz2 : w.heap.size + 1 ≠ z := by omega
  obtain ⟨w1, hw1⟩ : ∃ w1, w1 = (w.alloc (.cells #[.int .i64 3, .string T.t, .int .i64 T.n, .string T.nm, .slice T.xa T.len T.cap] 25)).alloc (.cells #[.string (signX 3), .int .i64 (levelX 3), .bool (namedX 3), .int .i64 (leastX 3), .int .i64 (mostX 3)] 78) := ⟨_, rfl⟩
  have hal : Below w.heap.size w w1 := by rw [hw1]; exact (ba _).alloc (by simp) _
  have hbx : w1.heap[w.heap.size]? = some (.cells #[.int .i64 3, .string T.t, .int .i64 T.n, .string T.nm, .slice T.xa T.len T.cap] 25 (0, 0)) := by rw [hw1]; exact at_old (by simp) (at_new rfl)
  have hbs : w1.heap[w.heap.size + 1]? = some (.cells #[.string (signX 3), .int .i64 (levelX 3), .bool (namedX 3), .int .i64 (leastX 3), .int .i64 (mostX 3)] 78 (0, 0)) := by rw [hw1]; exact at_new (by simp)
  have H1 := hide ((Wn.start hb hW).below hal)
  have HBX := hide hbx
  have HBS := hide hbs
  have HS1 : Hid (w1.heap.size = w.heap.size + 1 + 1) := hide (by rw [hw1]; simp)
  have HW1 : Hid ((w.alloc (.cells #[.int .i64 3, .string T.t, .int .i64 T.n, .string T.nm, .slice T.xa T.len T.cap] 25)).alloc (.cells #[.string (signX 3), .int .i64 (levelX 3), .bool (namedX 3), .int .i64 (leastX 3), .int .i64 (mostX 3)] 78) = w1) := hide (hw1.symm)
  have HZ := hide (And.intro hE hz)
  have HT := hide hT
  unfold pv
  rw [hk]
  have HI : Hid (flt T.exI = T.nm.data.toList) := hide (by rw [T.exI_eq, hk]; exact List.append_nil _)
  have hns := (named_word hnm).2.1
  clear hk hbad hT hE hb hW hal hbx hbs hw1
  generalize signX 3 = sgx at *
  generalize levelX 3 = lvx at *
  generalize namedX 3 = nmx at *
  generalize leastX 3 = lsx at *
  generalize mostX 3 = msx at *
  have HP1 : Hid (Calls Tryz.prog 42 #[.pointer (some ⟨z, 0, none⟩), .slice (some ⟨w1.heap.size, 0, none⟩) 1 1] (w1.alloc (.cells #[.string T.nm] 9)) _) := hide ((unhide H1).put (unhide HZ).1 (unhide HZ).2 (by omega) [T.nm] (by simp) (fun t ht => by simp only [List.mem_cons, List.not_mem_nil, or_false] at ht; subst ht; omega) 16 (by show (cat [T.nm]).length ≤ 16; unfold cat; simp only [List.flatMap_cons, List.flatMap_nil, List.length_append, List.length_nil, tlen]; omega))
  rw [unhide HS1] at HP1
  go_enter Tryz.func59, Tryz.ntmps59
  go_wp2_with fail
  rw [unhide HW1]
  refine (unhide HP1).mono ?_
  rintro e w2 ⟨rfl, v2, o2, f2, h2, hx2⟩
  have H2 := hide h2
  clear h2 hx2 HP1 H1
  have HF := hide ((unhide H2).done (t := flt T.exI) (c := 40 * T.cnt - 2) (by rw [unhide HI]; rw [cat_one]; rfl) (by omega))
  go_wp2_with fail
  go_end0
  exact ⟨rfl, unhide HF⟩
set_option maxRecDepth 100000 in
set_option maxHeartbeats 8000000 in
theorem bare_4 {T : PT} (hk : T.k = 4) (hnm : named T.nm = true) (hl : T.len = 1) (hkid : ∀ i, i < T.len → ExSays (T.kid i)) : BaSays T := by
  intro W w B z v o f hE hT hb hz hW hbad hlen
  obtain ⟨s0, s1, s2, s3, s4⟩ := shx_at (hE.shx.later hb) 4 4 rfl (by decide) (by decide)
  have hgl : (0 : Nat) < w.heap.size := World.block_lt_of_cell? _ _ s0
  have hgl' : ¬ w.heap.size = 0 := by omega
  have hgl2 : ¬ w.heap.size + 1 = 0 := by omega
  have hcp := T.cnt_pos
  have hzl : z < w.heap.size := (Array.getElem?_eq_some_iff.1 hW.blk).1
  have hnz : w.heap.size ≠ z := by omega
  have hnz2 : w.heap.size + 1 ≠ z := by omega
  obtain ⟨w1, hw1⟩ : ∃ w1, w1 = (w.alloc (.cells #[.int .i64 4, .string T.t, .int .i64 T.n, .string T.nm, .slice T.xa T.len T.cap] 25)).alloc (.cells #[.string (signX 4), .int .i64 (levelX 4), .bool (namedX 4), .int .i64 (leastX 4), .int .i64 (mostX 4)] 78) := ⟨_, rfl⟩
  have hal : Below w.heap.size w w1 := by rw [hw1]; exact (ba _).alloc (by simp) _
  have hbx : w1.heap[w.heap.size]? = some (.cells #[.int .i64 4, .string T.t, .int .i64 T.n, .string T.nm, .slice T.xa T.len T.cap] 25 (0, 0)) := by rw [hw1]; exact at_old (by simp) (at_new rfl)
  have hbs : w1.heap[w.heap.size + 1]? = some (.cells #[.string (signX 4), .int .i64 (levelX 4), .bool (namedX 4), .int .i64 (leastX 4), .int .i64 (mostX 4)] 78 (0, 0)) := by rw [hw1]; exact at_new (by simp)
  have H1 := hide ((Wn.start hb hW).below hal)
  have HBX := hide hbx
  have HBS := hide hbs
  have HS1 : Hid (w1.heap.size = w.heap.size + 1 + 1) := hide (by rw [hw1]; simp)
  have HW1 : Hid ((w.alloc (.cells #[.int .i64 4, .string T.t, .int .i64 T.n, .string T.nm, .slice T.xa T.len T.cap] 25)).alloc (.cells #[.string (signX 4), .int .i64 (levelX 4), .bool (namedX 4), .int .i64 (leastX 4), .int .i64 (mostX 4)] 78) = w1) := hide (hw1.symm)
  have HZ := hide (And.intro hE hz)
  have HT := hide hT
  unfold pv
  rw [hk]
  have e60 : (sgn 60).size = 1 := rfl
  have e62 : (sgn 62).size = 1 := rfl
  have HI : Hid (flt T.exI = (T.nm.data.toList ++ [60]) ++ (flt ((T.kid 0).atl 0) ++ [62])) := hide (by
    rw [T.exI_eq, hk]
    show flt (wd T.nm :: sg 60 :: (T.kidI 0 0 ++ [sg 62])) = _
    rw [kidI_at (by omega), flt_cons, flt_cons, flt_app]
    show T.nm.data.toList ++ ([60] ++ (flt ((T.kid 0).atl 0) ++ [62])) = _
    simp)
  have hns := (named_word hnm).2.1
  have hc1 : 1 + (T.kid 0).cnt ≤ T.cnt := by have := kid_cnt (T := T) (i := 0) (by omega); omega
  obtain ⟨q0, hq0⟩ : ∃ q, q = T.o + 0 * 5 := ⟨_, rfl⟩
  have hix0 : ∀ w, (Instr.indexAt 23 (.slice T.xa T.len T.cap) (.int .i64 0)).run Tryz.prog w = .ok (.pointer (some ⟨T.b, q0, none⟩)) w := fun w => by rw [hq0]; exact kidx_at hT (k := 0) (by omega) w
  have HKC0 := hide (fun (W1 : World) (h : Below W.heap.size W W1) => show W1.cell? ⟨T.b, q0, none⟩ = some (.int .i64 (T.kid 0).k) ∧ W1.cell? ⟨T.b, q0 + 1, none⟩ = some (.string (T.kid 0).t) ∧ W1.cell? ⟨T.b, q0 + 2, none⟩ = some (.int .i64 (T.kid 0).n) ∧ W1.cell? ⟨T.b, q0 + 3, none⟩ = some (.string (T.kid 0).nm) ∧ W1.cell? ⟨T.b, q0 + 4, none⟩ = some (.slice (T.kid 0).xa (T.kid 0).len (T.kid 0).cap) from by rw [hq0]; exact (PT.In.later h hT).cells (i := 0) (by omega))
  have HKS0 := hide (fun (lv : Int) (w2 : World) (v2 : Value) (o2 : List UInt8) (f2 : Bool) h3 h4 h5 => show Calls Tryz.prog 43 #[.pointer (some ⟨z, 0, none⟩), .agg #[.int .i64 (T.kid 0).k, .string (T.kid 0).t, .int .i64 (T.kid 0).n, .string (T.kid 0).nm, .slice (T.kid 0).xa (T.kid 0).len (T.kid 0).cap], .int .i64 lv] w2 fun e w' => WPost B z w2 v2 o2 (flt ((T.kid 0).atl lv)) f2 (40 * (T.kid 0).cnt) e w' from hkid 0 (by omega) W w2 B z v2 o2 f2 lv hE (hT.kids (by omega)) h3 hz h4 ((badX_node hbad).2 0 (by omega)) h5)
  clear hk hbad hT hE hb hW hal hbx hbs hw1 hkid hl
  clear hq0
  generalize signX 4 = sgx at *
  generalize levelX 4 = lvx at *
  generalize namedX 4 = nmx at *
  generalize leastX 4 = lsx at *
  generalize mostX 4 = msx at *
  have HP1 : Hid (Calls Tryz.prog 42 #[.pointer (some ⟨z, 0, none⟩), .slice (some ⟨w1.heap.size, 0, none⟩) 2 2] (w1.alloc (.cells #[.string T.nm, .string ⟨#[60]⟩] 9)) _) := hide ((unhide H1).put (unhide HZ).1 (unhide HZ).2 (by omega) [T.nm, sgn 60] (by simp) (fun t ht => by simp only [List.mem_cons, List.not_mem_nil, or_false] at ht; rcases ht with rfl | rfl <;> omega) 17 (by show (cat [T.nm, sgn 60]).length ≤ 17; unfold cat; simp only [List.flatMap_cons, List.flatMap_nil, List.length_append, List.length_nil, tlen]; omega))
  rw [unhide HS1] at HP1
  go_enter Tryz.func59, Tryz.ntmps59
  go_wp2_with fail
  rw [unhide HW1]
  refine (unhide HP1).mono ?_
  rintro e w2 ⟨rfl, v2, o2, f2, h2, hx2⟩
  have HBX2 := hide (hx2.keep (unhide H1).wr (unhide HBX) (by decide) hnz)
  have HBS2 := hide (hx2.keep (unhide H1).wr (unhide HBS) (by decide) hnz2)
  have H2 := hide h2
  clear h2 hx2 HP1 H1
  obtain ⟨c0, c1, c2, c3, c4⟩ := cells5x (unhide HBX2)
  obtain ⟨k0, k1, k2, k3, k4⟩ := unhide HKC0 w2 (unhide H2).bel
  have HK2 := hide (unhide HKS0 0 w2 v2 o2 f2 (unhide H2).bel (unhide H2).wr ((unhide H2).len2 (by omega)))
  go_wp2_with fail
  refine (unhide HK2).mono ?_
  rintro e w3 ⟨rfl, hst⟩
  obtain ⟨v3, o3, f3, h3, -⟩ := (unhide H2).sub (unhide HZ).2 hst
  have H3 := hide h3
  clear hst h3 HK2 H2 c0 c1 c2 c3 c4 k0 k1 k2 k3 k4 HKS0 HKC0
  have HP3 : Hid (Calls Tryz.prog 42 #[.pointer (some ⟨z, 0, none⟩), .slice (some ⟨w3.heap.size, 0, none⟩) 1 1] (w3.alloc (.cells #[.string ⟨#[62]⟩] 9)) _) := hide ((unhide H3).put (unhide HZ).1 (unhide HZ).2 (by omega) [sgn 62] (by simp) (fun t ht => by simp only [List.mem_cons, List.not_mem_nil, or_false] at ht; subst ht; omega) 1 (by show (cat [sgn 62]).length ≤ 1; unfold cat; simp only [List.flatMap_cons, List.flatMap_nil, List.length_append, List.length_nil, tlen]; omega))
  go_wp2_with fail
  refine (unhide HP3).mono ?_
  rintro e w4 ⟨rfl, v4, o4, f4, h4, hx4⟩
  have H4 := hide h4
  clear h4 hx4 HP3 H3
  have HF := hide ((unhide H4).done (t := flt T.exI) (c := 40 * T.cnt - 2) (by rw [unhide HI]; rw [cat_one, cat_cons, cat_one]; show [] ++ (T.nm.data.toList ++ [60]) ++ flt ((T.kid 0).atl 0) ++ [62] = _; simp) (by omega))
  go_wp2_with fail
  go_end0
  exact ⟨rfl, unhide HF⟩
end Go.Proofs.YtpphjddljngkmaaGreatDoor
