/- The writer of lines: calls; every expression. -/
import Derived.Test.YtpphjddljngkmaaGreatDoorWrHP
namespace Go.Proofs.YtpphjddljngkmaaGreatDoor
open Go.RowKit

def csm (T : PT) (i : Nat) : Nat := sumTo (fun i => (T.kid i).cnt) i
/-- What has been written behind so many arguments. -/
def CallI (B z : Nat) (W w : World) (v : Value) (o : List UInt8) (f : Bool) (T : PT) (i : Nat) (w' : World) : Prop :=
  ∃ v' o' f', Wn B z W w v o f ((T.nm.data.toList ++ [40]) ++ flt (argI (T.kidI 0) i)) (17 + 2 * i + 40 * csm T i) w' v' o' f'
theorem csm_le (T : PT) {i : Nat} (h : i ≤ T.len) : csm T i + 1 ≤ T.cnt := by
  have := sumTo_le (fun i => (T.kid i).cnt) h
  rw [T.cnt_eq]
  unfold csm
  omega
set_option maxRecDepth 100000 in
set_option maxHeartbeats 8000000 in
theorem call_any {T : PT} (hk : T.k = 6) (hnm : named T.nm = true) (h8 : T.len ≤ 8) (hkid : ∀ i, i < T.len → ExSays (T.kid i)) {W w : World} {B z : Nat} {v : Value} {o : List UInt8} {f : Bool} (hE : EnvW W) (hT : T.In W) (hb : Below W.heap.size W w) (hz : W.heap.size ≤ z) (hW : WrI B z w v o f) (hbad : T.badX = 0) (hlen : max o.length 140000 + (40 * T.cnt - 2) ≤ 9000000) :
    Calls Tryz.prog 77 #[.pointer (some ⟨z, 0, none⟩), .agg #[.int .i64 6, .string T.t, .int .i64 T.n, .string T.nm, .slice T.xa T.len T.cap]] w fun e w' => WPost B z w v o (flt T.exI) f (40 * T.cnt - 2) e w' := by
  have hcp := T.cnt_pos
  have hzl : z < w.heap.size := (Array.getElem?_eq_some_iff.1 hW.blk).1
  have hnz : w.heap.size ≠ z := by omega
  obtain ⟨w1, hw1⟩ : ∃ w1, w1 = w.alloc (.cells #[.int .i64 6, .string T.t, .int .i64 T.n, .string T.nm, .slice T.xa T.len T.cap] 25) := ⟨_, rfl⟩
  have hal : Below w.heap.size w w1 := by rw [hw1]; exact ba _
  have hbx : w1.heap[w.heap.size]? = some (.cells #[.int .i64 6, .string T.t, .int .i64 T.n, .string T.nm, .slice T.xa T.len T.cap] 25 (0, 0)) := by rw [hw1]; exact at_new rfl
  have H1 := hide ((Wn.start hb hW).below hal)
  have HBX := hide hbx
  have HS1 : Hid (w1.heap.size = w.heap.size + 1) := hide (by rw [hw1]; simp)
  have HW1 : Hid (w.alloc (.cells #[.int .i64 6, .string T.t, .int .i64 T.n, .string T.nm, .slice T.xa T.len T.cap] 25) = w1) := hide (hw1.symm)
  have HZ := hide (And.intro hE hz)
  have HI : Hid (flt T.exI = ((T.nm.data.toList ++ [40]) ++ flt (argI (T.kidI 0) T.len)) ++ [41]) := hide (by
    rw [T.exI_eq, hk]
    show flt (wd T.nm :: sg 40 :: (argI (T.kidI 0) T.len ++ [sg 41])) = _
    rw [flt_cons, flt_cons, flt_app]
    show T.nm.data.toList ++ ([40] ++ (flt (argI (T.kidI 0) T.len) ++ [41])) = _
    simp)
  have hns := (named_word hnm).2.1
  have e40 : (sgn 40).size = 1 := rfl
  have e41 : (sgn 41).size = 1 := rfl
  have HP1 : Hid (Calls Tryz.prog 42 #[.pointer (some ⟨z, 0, none⟩), .slice (some ⟨w1.heap.size, 0, none⟩) 2 2] (w1.alloc (.cells #[.string T.nm, .string ⟨#[40]⟩] 9)) _) := hide ((unhide H1).put (unhide HZ).1 (unhide HZ).2 (by omega) [T.nm, sgn 40] (by simp) (fun t ht => by simp only [List.mem_cons, List.not_mem_nil, or_false] at ht; rcases ht with rfl | rfl <;> omega) 17 (by show (cat [T.nm, sgn 40]).length ≤ 17; unfold cat; simp only [List.flatMap_cons, List.flatMap_nil, List.length_append, List.length_nil, tlen]; omega))
  rw [unhide HS1] at HP1
  have HKS := hide (fun (i : Nat) (hi : i < T.len) (w2 : World) (v2 : Value) (o2 : List UInt8) (f2 : Bool) h3 h4 h5 => show Calls Tryz.prog 43 #[.pointer (some ⟨z, 0, none⟩), .agg #[.int .i64 (T.kid i).k, .string (T.kid i).t, .int .i64 (T.kid i).n, .string (T.kid i).nm, .slice (T.kid i).xa (T.kid i).len (T.kid i).cap], .int .i64 0] w2 fun e w' => WPost B z w2 v2 o2 (flt ((T.kid i).atl 0)) f2 (40 * (T.kid i).cnt) e w' from hkid i hi W w2 B z v2 o2 f2 0 hE (hT.kids hi) h3 hz h4 ((badX_node hbad).2 i hi) h5)
  have HIX := hide (fun (i : Nat) (hi : i < T.len) w => kidx_at hT (k := i) hi w)
  have HKC := hide (fun (i : Nat) (hi : i < T.len) (W1 : World) (h : Below W.heap.size W W1) => (PT.In.later h hT).cells (i := i) hi)
  have hwl : Below W.heap.size W w := hb
  have hWl : W.heap.size ≤ w.heap.size := hb.size
  clear hk hbad hT hE hb hW hal hbx hw1 hkid hwl
  obtain ⟨n, hn⟩ : ∃ n, n = T.len := ⟨_, rfl⟩
  have HN := hide hn
  have hn8 : n ≤ 8 := by omega
  rw [← hn] at HBX HW1 ⊢
  clear hn h8
  go_enter Tryz.func77, Tryz.ntmps77
  go_wp2_with fail
  rw [unhide HW1]
  refine (unhide HP1).mono ?_
  rintro e w2 ⟨rfl, v2, o2, f2, h2, hx2⟩
  have hbx2 := hx2.keep (unhide H1).wr (unhide HBX) (by decide) hnz
  obtain ⟨x0, x1, x2, x3, x4⟩ := cells5x hbx2
  have H0 : Hid (CallI B z W w v o f T 0 w2) := hide (⟨v2, o2, f2, by
    have e : ([] ++ cat [T.nm, sgn 40]) = ((T.nm.data.toList ++ [40]) ++ flt (argI (T.kidI 0) 0)) := by rw [cat_cons, cat_one]; show [] ++ (T.nm.data.toList ++ [40]) = (T.nm.data.toList ++ [40]) ++ []; simp
    rw [← e]; exact h2⟩)
  clear h2 hx2 HP1 H1 HBX HW1 HS1 hbx2
  go_wp2_with fail
  clear x0 x1 x2 x3 x4
  go_loopw [14] (fun u wr => ∃ i : Nat, i ≤ n ∧ u = .int .i64 (i : Int) ∧ Hid (CallI B z W w v o f T i wr)) (fun u _ => n - (intOf u).toNat)
  case atStart => exact ⟨0, Nat.zero_le _, rfl, unhide H0⟩
  case round =>
    obtain ⟨i, hi, rfl, HC⟩ := hrel
    rcases Nat.lt_or_ge i n with hlt | hge
    · have hiT : i < T.len := by have := unhide HN; omega
      obtain ⟨v', o', f', hwn⟩ := unhide HC
      have hcs := csm_le T (i := i + 1) (by omega)
      have hcs2 : csm T (i + 1) = csm T i + (T.kid i).cnt := rfl
      have HX := hide hwn
      obtain ⟨q, hq⟩ : ∃ q, q = T.o + i * 5 := ⟨_, rfl⟩
      have hix := unhide HIX i hiT
      obtain ⟨k0, k1, k2, k3, k4⟩ := unhide HKC i hiT wr hwn.bel
      rw [← hq] at hix k0 k1 k2 k3 k4
      unfold PT.kv at k4
      rw [← unhide HN] at hix
      have HKI := hide (unhide HKS i hiT)
      have HNX : Hid (∀ (w3 : World) (v3 : Value) (o3 : List UInt8) (f3 : Bool) (S : List UInt8) (c : Nat), (S = if 0 < i then [44, 32] else []) → c ≤ 2 → Wn B z W w v o f ((((T.nm.data.toList ++ [40]) ++ flt (argI (T.kidI 0) i)) ++ S) ++ flt ((T.kid i).atl 0)) ((17 + 2 * i + 40 * csm T i) + c + 40 * (T.kid i).cnt) w3 v3 o3 f3 → CallI B z W w v o f T (i + 1) w3) := hide (fun w3 v3 o3 f3 S c hS hc h => ⟨v3, o3, f3, by
        have e : (((T.nm.data.toList ++ [40]) ++ flt (argI (T.kidI 0) i)) ++ S) ++ flt ((T.kid i).atl 0) = (T.nm.data.toList ++ [40]) ++ flt (argI (T.kidI 0) (i + 1)) := by
          rw [argI, kidI_at hiT, flt_app, flt_app, hS]
          by_cases q : 0 < i
          · rw [if_pos q, if_pos q]
            show _ = _ ++ (flt (argI (T.kidI 0) i) ++ ([44, 32] ++ flt ((T.kid i).atl 0)))
            simp
          · rw [if_neg q, if_neg q]
            show _ = _ ++ (flt (argI (T.kidI 0) i) ++ ([] ++ flt ((T.kid i).atl 0)))
            simp
        rw [e] at h
        exact ⟨h.bel, h.wr, h.wx, h.gw.more (by rw [hcs2]; omega), h.ff⟩⟩)
      have HCS := hide (And.intro hcs hcs2)
      clear hwn HC H0 hcs hcs2 hq
      generalize T.kid i = x at *
      have hbl : Below wr.heap.size wr (wr.alloc (.cells #[.int .i64 x.k, .string x.t, .int .i64 x.n, .string x.nm, .slice x.xa x.len x.cap] 25)) := ba _
      have hnb : wr.heap.size ≠ z := by have := (Array.getElem?_eq_some_iff.1 (unhide HX).wr.blk).1; omega
      obtain ⟨wb, hwb⟩ : ∃ wb, wb = wr.alloc (.cells #[.int .i64 x.k, .string x.t, .int .i64 x.n, .string x.nm, .slice x.xa x.len x.cap] 25) := ⟨_, rfl⟩
      have hbb : wb.heap[wr.heap.size]? = some (.cells #[.int .i64 x.k, .string x.t, .int .i64 x.n, .string x.nm, .slice x.xa x.len x.cap] 25 (0, 0)) := by rw [hwb]; exact at_new rfl
      rw [← hwb] at hbl
      have HB := hide ((unhide HX).below hbl)
      have HBB := hide hbb
      have HWB : Hid (wr.alloc (.cells #[.int .i64 x.k, .string x.t, .int .i64 x.n, .string x.nm, .slice x.xa x.len x.cap] 25) = wb) := hide (hwb.symm)
      have HSB : Hid (wb.heap.size = wr.heap.size + 1) := hide (by rw [hwb]; simp)
      clear hbl hbb hwb HX
      by_cases h0 : i = 0
      · have q0 : ¬ (0 : Int) < (i : Int) := by omega
        have HKB := hide (unhide HKI wb v' o' f' (unhide HB).bel (unhide HB).wr ((unhide HB).len2 (by have := unhide HCS; omega)))
        have HS := hide h0
        clear h0
        go_wp2_with fail
        rw [unhide HWB]
        refine (unhide HKB).mono ?_
        rintro e w3 ⟨rfl, hst⟩
        obtain ⟨v3, o3, f3, h3, -⟩ := (unhide HB).sub (unhide HZ).2 hst
        have HZ3 := hide (unhide HNX w3 v3 o3 f3 [] 0 (by rw [if_neg (by have := unhide HS; omega)]) (by omega) (by rw [List.append_nil]; exact h3))
        clear hst h3 HKB HB HBB HWB HSB HNX
        go_wp2_with fail
        exact ⟨⟨i + 1, by omega, rfl, unhide HZ3⟩, by simp [intOf]; omega⟩
      · have q0 : (0 : Int) < (i : Int) := by omega
        have ecs : (⟨#[44, 32]⟩ : ByteArray).size = 2 := rfl
        have HP : Hid (Calls Tryz.prog 42 #[.pointer (some ⟨z, 0, none⟩), .slice (some ⟨wb.heap.size, 0, none⟩) 1 1] (wb.alloc (.cells #[.string ⟨#[44, 32]⟩] 9)) _) := hide ((unhide HB).put (unhide HZ).1 (unhide HZ).2 (by have := unhide HCS; omega) [⟨#[44, 32]⟩] (by simp) (fun t ht => by rw [List.mem_singleton] at ht; subst ht; omega) 2 (by decide))
        rw [unhide HSB] at HP
        have HS := hide h0
        clear h0
        go_wp2_with fail
        rw [unhide HWB]
        refine (unhide HP).mono ?_
        rintro e w2 ⟨rfl, v2, o2, f2, h2, hx2⟩
        obtain ⟨x0, x1, x2, x3, x4⟩ := cells5x (hx2.keep (unhide HB).wr (unhide HBB) (by decide) hnb)
        have HKB := hide (unhide HKI w2 v2 o2 f2 h2.bel h2.wr (h2.len2 (by have := unhide HCS; omega)))
        have H2 := hide h2
        clear h2 hx2 HP
        go_wp2_with fail
        refine (unhide HKB).mono ?_
        rintro e w3 ⟨rfl, hst⟩
        obtain ⟨v3, o3, f3, h3, -⟩ := (unhide H2).sub (unhide HZ).2 hst
        have HZ3 := hide (unhide HNX w3 v3 o3 f3 [44, 32] 2 (by rw [if_pos (by have := unhide HS; omega)]) (by omega) (by rw [cat_one] at h3; exact h3))
        clear hst h3 HKB HB HBB HWB HSB HNX H2 x0 x1 x2 x3 x4
        go_wp2_with fail
        exact ⟨⟨i + 1, by omega, rfl, unhide HZ3⟩, by simp [intOf]; omega⟩
    · obtain rfl : i = n := by omega
      obtain ⟨v', o', f', hwn⟩ := unhide HC
      have hcs := csm_le T (i := i) (by have := unhide HN; omega)
      have HX := hide hwn
      have HP : Hid (Calls Tryz.prog 42 #[.pointer (some ⟨z, 0, none⟩), .slice (some ⟨wr.heap.size, 0, none⟩) 1 1] (wr.alloc (.cells #[.string ⟨#[41]⟩] 9)) _) := hide ((unhide HX).put (unhide HZ).1 (unhide HZ).2 (by omega) [sgn 41] (by simp) (fun t ht => by rw [List.mem_singleton] at ht; subst ht; omega) 1 (by decide))
      clear hwn HC HX
      go_wp2_with fail
      refine (unhide HP).mono ?_
      rintro e w3 ⟨rfl, v3, o3, f3, h3, -⟩
      have HF := hide (h3.done (t := flt T.exI) (c := 40 * T.cnt - 2) (by rw [unhide HI, ← unhide HN, cat_one]; rfl) (by omega))
      clear h3
      go_wp2_with fail
      go_end0
      exact ⟨rfl, unhide HF⟩
set_option maxRecDepth 100000 in
set_option maxHeartbeats 8000000 in
theorem bare_6 {T : PT} (hk : T.k = 6) (hnm : named T.nm = true) (h8 : T.len ≤ 8) (hkid : ∀ i, i < T.len → ExSays (T.kid i)) : BaSays T := by
  intro W w B z v o f hE hT hb hz hW hbad hlen
  obtain ⟨s0, s1, s2, s3, s4⟩ := shx_at (hE.shx.later hb) 6 6 rfl (by decide) (by decide)
  have hgl : (0 : Nat) < w.heap.size := World.block_lt_of_cell? _ _ s0
  have hgl' : ¬ w.heap.size = 0 := by omega
  have hgl2 : ¬ w.heap.size + 1 = 0 := by omega
  have hcp := T.cnt_pos
  have hzl : z < w.heap.size := (Array.getElem?_eq_some_iff.1 hW.blk).1
  have hnz : w.heap.size ≠ z := by omega
  have hnz2 : w.heap.size + 1 ≠ z := by omega
  obtain ⟨w1, hw1⟩ : ∃ w1, w1 = (w.alloc (.cells #[.int .i64 6, .string T.t, .int .i64 T.n, .string T.nm, .slice T.xa T.len T.cap] 25)).alloc (.cells #[.string (signX 6), .int .i64 (levelX 6), .bool (namedX 6), .int .i64 (leastX 6), .int .i64 (mostX 6)] 78) := ⟨_, rfl⟩
  have hal : Below w.heap.size w w1 := by rw [hw1]; exact (ba _).alloc (by simp) _
  have hbx : w1.heap[w.heap.size]? = some (.cells #[.int .i64 6, .string T.t, .int .i64 T.n, .string T.nm, .slice T.xa T.len T.cap] 25 (0, 0)) := by rw [hw1]; exact at_old (by simp) (at_new rfl)
  have hbs : w1.heap[w.heap.size + 1]? = some (.cells #[.string (signX 6), .int .i64 (levelX 6), .bool (namedX 6), .int .i64 (leastX 6), .int .i64 (mostX 6)] 78 (0, 0)) := by rw [hw1]; exact at_new (by simp)
  have H1 := hide ((Wn.start hb hW).below hal)
  have HBX := hide hbx
  have HBS := hide hbs
  have HS1 : Hid (w1.heap.size = w.heap.size + 1 + 1) := hide (by rw [hw1]; simp)
  have HW1 : Hid ((w.alloc (.cells #[.int .i64 6, .string T.t, .int .i64 T.n, .string T.nm, .slice T.xa T.len T.cap] 25)).alloc (.cells #[.string (signX 6), .int .i64 (levelX 6), .bool (namedX 6), .int .i64 (leastX 6), .int .i64 (mostX 6)] 78) = w1) := hide (hw1.symm)
  have HZ := hide (And.intro hE hz)
  have HT := hide hT
  unfold pv
  rw [hk]
  have HCL := hide (call_any hk hnm h8 hkid hE hT (unhide H1).bel hz (unhide H1).wr hbad hlen)
  clear hk hbad hT hE hb hW hal hbx hbs hw1 hkid
  generalize signX 6 = sgx at *
  generalize levelX 6 = lvx at *
  generalize namedX 6 = nmx at *
  generalize leastX 6 = lsx at *
  generalize mostX 6 = msx at *
  go_enter Tryz.func59, Tryz.ntmps59
  go_wp2_with fail
  rw [unhide HW1]
  refine (unhide HCL).mono ?_
  rintro e w2 ⟨rfl, hst⟩
  obtain ⟨v3, o3, f3, h3, -⟩ := (unhide H1).sub (unhide HZ).2 hst
  have HF := hide (h3.done (t := flt T.exI) (c := 40 * T.cnt - 2) rfl (by omega))
  clear hst h3
  go_wp2_with fail
  go_end0
  exact ⟨rfl, unhide HF⟩
/-- Every expression that is right. -/
theorem wbare_any : ∀ T : PT, BaSays T := PT.ind fun T ih => by
  by_cases hb : T.badX = 0
  · obtain ⟨he, hkb⟩ := badX_node hb
    obtain ⟨⟨k1, k13⟩, ht, hN, hnm, hl, hm⟩ := errX_zero he
    have hK : ∀ i, i < T.len → ExSays (T.kid i) := fun i hi => expr_of (ih i hi)
    have hc : T.k = 1 ∨ T.k = 2 ∨ T.k = 3 ∨ T.k = 4 ∨ T.k = 5 ∨ T.k = 6 ∨ T.k = 7 ∨ 8 ≤ T.k := by omega
    rcases hc with h | h | h | h | h | h | h | h
    · exact bare_1 h (ht h)
    · exact bare_2 h
    · rw [h] at hnm; exact bare_3 h (hnm rfl)
    · rw [h] at hm hnm hl
      exact bare_4 h (hnm rfl) (by have : mostX 4 = 1 := rfl; have : leastX 4 = 1 := rfl; omega) hK
    · rw [h] at hm hl
      exact bare_5 h (by have : mostX 5 = 1 := rfl; have : leastX 5 = 1 := rfl; omega) hK
    · rw [h] at hm hnm; exact bare_6 h (hnm rfl) (by have : mostX 6 = 8 := rfl; omega) hK
    · rw [h] at hm hl
      exact bare_7 h (by have : mostX 7 = 1 := rfl; have : leastX 7 = 1 := rfl; omega) hK
    · have h2 : mostX T.k = 2 ∧ leastX T.k = 2 := by
        have : T.k = 8 ∨ T.k = 9 ∨ T.k = 10 ∨ T.k = 11 ∨ T.k = 12 ∨ T.k = 13 := by omega
        rcases this with h | h | h | h | h | h <;> rw [h] <;> exact ⟨rfl, rfl⟩
      exact bare_two h k13 (by omega) hK
  · exact fun W w B z v o f _ _ _ _ _ h => absurd h hb
theorem expr_all (T : PT) : ExSays T := expr_of (wbare_any T)
end Go.Proofs.YtpphjddljngkmaaGreatDoor
