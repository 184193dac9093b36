/- Any number of times is not at all, or once and then any number of times: ScanArbno is true of any rules, any pattern, any text and place. -/
import Derived.Test.YteblcdgjjhodeaaDoorLaw5K
namespace Go.Proofs.YteblcdgjjhodeaaDoor
open Go.RowKit

theorem bnd_mem {f f' : Nat → List Gft → Sq} (n : Nat) : ∀ l : List Ev, (∀ x ∈ l, x.w = 3 → f x.a x.g = f' x.a x.g) → bnd l n f = bnd l n f'
  | [], _ => rfl
  | x :: l, h => by
    have ih := bnd_mem n l fun y hy => h y (List.mem_cons_of_mem _ hy)
    rw [bnd, bnd, ih]
    by_cases hw : x.w = 3
    · rw [if_pos hw, if_pos hw, h x (List.mem_cons_self ..) hw]
    · rw [if_neg hw, if_neg hw]
theorem bd_mem {q : Sq} {f f' : Nat → List Gft → Sq} (h : ∀ x ∈ q.1, x.w = 3 → f x.a x.g = f' x.a x.g) : bd q f = bd q f' := bnd_mem q.2 q.1 h
section
variable {s : ByteArray} {R : ByteArray → Option PT} {dg : Nat → ByteArray}
/-- Any number of times, m times at most. -/
def Ag (s : ByteArray) (R : ByteArray → Option PT) (dg : Nat → ByteArray) (T : PT) (m n i : Nat) (g : List Gft) : Sq := onlyW (agn (D s R dg n) T m i g)
theorem Ag_succ (T : PT) (m n i : Nat) (g : List Gft) : Ag s R dg T (m + 1) n i g = put (wy i g) (bd (W s R dg n (T.kid 0) i g) fun e g' => if e = i then nil else Ag s R dg T m n e g') := by
  unfold Ag
  rw [agn]
  show onlyW (put (wy i g) (put hs _)) = _
  have hw : ∀ q : Sq, onlyW (put (wy i g) q) = put (wy i g) (onlyW q) := fun q => rfl
  rw [hw, onlyW_hs, onlyW_bd]
  congr 1
  refine bd_congr _ fun e g' => ?_
  rw [onlyW_hs]
  split <;> rfl
theorem W_arbno {n : Nat} {T : PT} (hk : T.k = 20) (i : Nat) (g : List Gft) : W s R dg (n + 1) T i g = Ag s R dg T n n i g := by
  unfold W Ag
  rw [D, if_neg (by omega), if_neg (by omega), if_pos hk, onlyW_tk]
theorem Ag_le (T : PT) (m n i : Nat) (g : List Gft) : Le (Ag s R dg T m n i g) (Ag s R dg T (m + 1) n i g) := le_onlyW (agn_le (fun _ _ _ => le_refl _) T m i g)
theorem W_none (n : Nat) (i : Nat) (g : List Gft) : W s R dg (n + 1) (leaf 1 0 ⟨#[]⟩) i g = one (wy i g) := by
  rw [W_leaf (by unfold leafK; decide)]
  have h0 : sub s i i = ⟨#[]⟩ := by
    have h : (sub s i i).size = 0 := by rw [sub_size]; omega
    exact ByteArray.ext (Array.eq_empty_of_size_eq_zero h)
  have : onl s (leaf 1 0 ⟨#[]⟩) i = some i := by
    show (if sub s i (i + 0) = ⟨#[]⟩ then some (i + 0) else none) = some i
    rw [Nat.add_zero, if_pos h0]
  rw [this]
theorem arbno_le (a : PT) (bk b1 b2 j : Nat) (hne : ∀ x ∈ (W s R dg 20001 a j []).1, x.a ≠ j) : Le (W s R dg 20001 (kidsP 20 bk [a]) j []) (W s R dg 20003 (kidsP 19 b2 [leaf 1 0 ⟨#[]⟩, kidsP 18 b1 [a, kidsP 20 bk [a]]]) j []) := by
  have h1 : W s R dg 20001 (kidsP 20 bk [a]) j [] = put (wy j []) (bd (W s R dg 20000 a j []) fun e g' => Ag s R dg (kidsP 20 bk [a]) 19999 20000 e g') := by
    rw [show (20001 : Nat) = 20000 + 1 from rfl, W_arbno rfl, show Ag s R dg (kidsP 20 bk [a]) 20000 20000 j [] = Ag s R dg (kidsP 20 bk [a]) (19999 + 1) 20000 j [] from rfl, Ag_succ, kidsP_kid (x := a) rfl]
    congr 1
    refine bd_mem fun x hx _ => if_neg ?_
    refine hne x ?_
    rcases W_le (s := s) (R := R) (dg := dg) (n := 20000) (m := 20001) (by omega) a j [] with e | ⟨-, e⟩
    · rw [← e]; exact hx
    · exact e.subset hx
  have hU : W s R dg 20003 (kidsP 19 b2 [leaf 1 0 ⟨#[]⟩, kidsP 18 b1 [a, kidsP 20 bk [a]]]) j [] = put (wy j []) (bd (W s R dg 20001 a j []) fun e g' => Ag s R dg (kidsP 20 bk [a]) 20000 20000 e g') := by
    rw [show (20003 : Nat) = 20002 + 1 from rfl, W_alt2 (T := kidsP 19 b2 [leaf 1 0 ⟨#[]⟩, kidsP 18 b1 [a, kidsP 20 bk [a]]]) rfl rfl, kidsP_kid (x := leaf 1 0 ⟨#[]⟩) rfl, kidsP_kid (x := kidsP 18 b1 [a, kidsP 20 bk [a]]) rfl, show W s R dg 20002 (leaf 1 0 ⟨#[]⟩) j [] = one (wy j []) from W_none 20001 j [], one_thn, show (20002 : Nat) = 20001 + 1 from rfl, W_cat2 (T := kidsP 18 b1 [a, kidsP 20 bk [a]]) rfl rfl, kidsP_kid (x := a) rfl, kidsP_kid (x := kidsP 20 bk [a]) rfl]
    exact congrArg (put (wy j [])) (bd_congr _ fun e g' => W_arbno (n := 20000) rfl e g')
  rw [h1, hU]
  exact le_put _ (le_bd (W_le (by omega) a j []) fun e g' => Ag_le _ _ _ _ _)
end
theorem blk1d {c w' : World} {cs : Array Value} {t : TypeId} (hb : Below (c.alloc (.cells cs t)).drew.heap.size (c.alloc (.cells cs t)).drew w') : w'.heap[c.heap.size]? = some (.cells cs t (0, 0)) := row_below (show (c.alloc (.cells cs t)).drew.heap[c.heap.size]? = _ from at_new rfl) hb
/-- No way is empty. -/
def NoEmpty (RL : List (ByteArray × PT)) (dg : Nat → ByteArray) (a : PT) (s : ByteArray) (k : Nat) : Prop := allOk (waysOf RL dg a s (k : Int) 4096 20000) = true ∧ ∀ x ∈ (waysOf RL dg a s (k : Int) 4096 20000).1, x.1 ≠ k
theorem noEmpty_ways {RL : List (ByteArray × PT)} {dg : Nat → ByteArray} {a : PT} {s : ByteArray} {k : Nat} (h : NoEmpty RL dg a s k) : ∀ x ∈ (W s (fun nm => ruleOf nm RL) dg 20001 a k []).1, x.a ≠ k := by
  obtain ⟨j, hj, -, -, -, -, -, he⟩ := waysOf_ok h.1
  have : j = k := by omega
  subst this
  intro x hx
  have := h.2 (x.a, x.g) (by rw [he]; exact List.mem_map_of_mem (f := fun x : Ev => (x.a, x.g)) hx)
  exact this
theorem arbno_alike {RL : List (ByteArray × PT)} {rv : Value} (dg : Nat → ByteArray) (a : PT) (s : ByteArray) (i : Int) (bk b1 b2 : Nat) (hN : ∀ k, k ≤ s.size → NoEmpty RL dg a s k) (w : World) (hV : RVal w RL rv) (hIt : ItoaSays dg w) (hT : (kidsP 20 bk [a]).In w) (hU : (kidsP 19 b2 [leaf 1 0 ⟨#[]⟩, kidsP 18 b1 [a, kidsP 20 bk [a]]]).In w) (hS : Shapes w) (hs : s.size ≤ maxLen) :
    Calls Tryd.prog 13 #[rv, .agg #[.int .i64 20, .string ⟨#[]⟩, .int .i64 0, .string ⟨#[]⟩, .slice (some ⟨bk, 0, none⟩) 1 1], .agg #[.int .i64 19, .string ⟨#[]⟩, .int .i64 0, .string ⟨#[]⟩, .slice (some ⟨b2, 0, none⟩) 2 2], .string s, .int .i64 i] w fun e w' => e = .returned (.bool true) ∧ Below w.heap.size w w' :=
  alike_all dg (kidsP 20 bk [a]) (kidsP 19 b2 [leaf 1 0 ⟨#[]⟩, kidsP 18 b1 [a, kidsP 20 bk [a]]]) s i w hV hIt hT hU hS hs fun h1 h2 => same_of_le h1 h2 fun j hj _ => ⟨20003, by decide, arbno_le a bk b1 b2 j (noEmpty_ways (hN j hj))⟩

theorem tabs_arbno {w : World} (h : laidMetH Tryd.prog Rows.scanArbnoRow.laid w) : Shapes w ∧ ItoaSays dgI w := by
  have e : (Rows.scanArbnoRow.laid.filter fun x => x.2.handleName?.isSome) = [] := by kernel_rfl
  have h' : laidMet Tryd.prog Rows.scanArbnoRow.laid w := by
    have hp := h
    unfold laidMetH at hp
    rw [e] at hp
    exact hp
  refine ⟨shapes_of (rest := []) (laidMet.tail (laidMet.tail (laidMet.tail h'))), itoa_says ?_⟩
  exact Lib.tabIs_of_head (g := 1) (t := 123) (e := 110) (n := 20) (by kernel_rfl) (by kernel_rfl) Tryd.underlying123 Tryd.underlying110 (by kernel_rfl) (by kernel_rfl) (rest := _) (show laidMet Tryd.prog (("internal/strconv.uint64pow10", Lib.tabData .u64 Lib.pow10Tab) :: _) w from h'.tail.tail)

set_option maxRecDepth 100000 in
set_option maxHeartbeats 8000000 in
theorem scanArbno_walk {RL : List (ByteArray × PT)} {rv : Value} {dg : Nat → ByteArray} (a : PT) (s : ByteArray) (i : Int) (w : World) (hV : RVal w RL rv) (ha : a.In w) (hs : s.size ≤ maxLen) (hS : Shapes w) (hIt : ItoaSays dg w) :
    Calls Tryd.prog 8 #[rv, pv a, .string s, .int .i64 i] w fun e w' => e = .returned (.bool true) ∧ Below w.heap.size w w' := by
  have HA := hide (fun W (h : Below w.heap.size w W) => alive5 W (hIt.later h) (hS.later h))
  have HIN := hide (fun W (h : Below w.heap.size w W) => PT.In.later h ha)
  have HLf := hide (fun W => leaf_in (w := W) (k := 1) (n := 0) (t := ⟨#[]⟩) (by decide) (by decide) (by unfold maxLen; decide))
  have H1 := hide (fun W (h : Below w.heap.size w W) (k : Nat) => show Calls Tryd.prog 18 #[rv, .agg #[.int .i64 a.k, .string a.t, .int .i64 a.n, .string a.nm, .slice a.xa a.len a.cap], .string s, .int .i64 (k : Int)] W (AllPost (waysOf RL dg a s (k : Int) 4096 20000) W) from all_any dg a s (k : Int) W (hV.later h) (hIt.later h) (PT.In.later h ha) (hS.later h) hs)
  have H2 := hide (fun (hN : ∀ k, k ≤ s.size → NoEmpty RL dg a s k) W (h : Below w.heap.size w W) bk b1 b2 (hT : (kidsP 20 bk [a]).In W) (hU : (kidsP 19 b2 [leaf 1 0 ⟨#[]⟩, kidsP 18 b1 [a, kidsP 20 bk [a]]]).In W) => arbno_alike (rv := rv) dg a s i bk b1 b2 hN W (hV.later h) (hIt.later h) hT hU (hS.later h) hs)
  unfold pv
  clear hV ha hS hIt hs
  by_cases h60 : 60 < s.size
  · have h60' : (60 : Int) < (s.size : Int) := by omega
    go_enter Tryd.func8, Tryd.ntmps8
    go_wp2_with fail
    have hb0 : Below w.heap.size w (w.alloc (.cells #[.int .i64 a.k, .string a.t, .int .i64 a.n, .string a.nm, .slice a.xa a.len a.cap] 25)) := (Below.refl _ _).alloc (Nat.le_refl _) _
    refine (unhide HA _ hb0).mono ?_
    rintro e w1 ⟨rfl, hb1⟩
    go_wp2_with fail
    go_ret
    exact ⟨rfl, bnext hb0 hb1⟩
  have h60' : ¬ (60 : Int) < (s.size : Int) := by omega
  go_enter Tryd.func8, Tryd.ntmps8
  go_wp2_with fail
  have hb0 : Below w.heap.size w (w.alloc (.cells #[.int .i64 a.k, .string a.t, .int .i64 a.n, .string a.nm, .slice a.xa a.len a.cap] 25)) := (Below.refl _ _).alloc (Nat.le_refl _) _
  have ga : (w.alloc (.cells #[.int .i64 a.k, .string a.t, .int .i64 a.n, .string a.nm, .slice a.xa a.len a.cap] 25)).heap[w.heap.size]? = some (.cells #[.int .i64 a.k, .string a.t, .int .i64 a.n, .string a.nm, .slice a.xa a.len a.cap] 25 (0, 0)) := at_new rfl
  refine (unhide HA _ hb0).mono ?_
  rintro e w1 ⟨rfl, hb1⟩
  obtain ⟨za, hza⟩ : ∃ za, za = w.heap.size := ⟨_, rfl⟩
  rw [← hza] at ga ⊢
  have HZ := hide (row_below ga hb1)
  have HB1 := hide (bnext hb0 hb1)
  clear hb0 hb1 hza HA ga
  go_wp2_with fail
  go_loopw [9] (fun q wr => ∃ k : Nat, k ≤ s.size + 1 ∧ q = .int .i64 (k : Int) ∧ Below w1.heap.size w1 wr ∧ Hid (∀ x, x < k → NoEmpty RL dg a s x)) (fun q _ => s.size + 1 - (intOf q).toNat)
  case atStart => exact ⟨0, Nat.zero_le _, rfl, Below.refl _ _, hide (fun x h => absurd h (Nat.not_lt_zero _))⟩
  case round =>
    obtain ⟨k, hk, rfl, hb, HP⟩ := hrel
    rcases Nat.lt_or_ge s.size k with hgt | hle
    · have hgt' : ¬ (k : Int) ≤ (s.size : Int) := by omega
      have HN := hide (show ∀ x, x ≤ s.size → NoEmpty RL dg a s x from fun x hx => unhide HP x (by omega))
      obtain ⟨y0, y1, y2, y3, y4⟩ := held5 (unhide HZ) hb
      have HBk := hide (bnext (unhide HB1) hb)
      have HZk := hide (row_below (unhide HZ) hb)
      clear hb HP
      go_wp2_with fail
      have hb9 : Below wr.heap.size wr ((wr.alloc (.cells #[.int .i64 a.k, .string a.t, .int .i64 a.n, .string a.nm, .slice a.xa a.len a.cap] 25)).alloc (.cells #[.int .i64 20, .string ⟨#[]⟩, .int .i64 0, .string ⟨#[]⟩, .slice (some ⟨wr.heap.size, 0, none⟩) 1 1] 25)) := ((Below.refl _ _).alloc (Nat.le_refl _) _).alloc (by simp) _
      have gk : ((wr.alloc (.cells #[.int .i64 a.k, .string a.t, .int .i64 a.n, .string a.nm, .slice a.xa a.len a.cap] 25)).alloc (.cells #[.int .i64 20, .string ⟨#[]⟩, .int .i64 0, .string ⟨#[]⟩, .slice (some ⟨wr.heap.size, 0, none⟩) 1 1] 25)).heap[wr.heap.size]? = some (.cells #[.int .i64 a.k, .string a.t, .int .i64 a.n, .string a.nm, .slice a.xa a.len a.cap] 25 (0, 0)) := at_old (by simp) (at_new rfl)
      have gp : ((wr.alloc (.cells #[.int .i64 a.k, .string a.t, .int .i64 a.n, .string a.nm, .slice a.xa a.len a.cap] 25)).alloc (.cells #[.int .i64 20, .string ⟨#[]⟩, .int .i64 0, .string ⟨#[]⟩, .slice (some ⟨wr.heap.size, 0, none⟩) 1 1] 25)).heap[wr.heap.size + 1]? = some (.cells #[.int .i64 20, .string ⟨#[]⟩, .int .i64 0, .string ⟨#[]⟩, .slice (some ⟨wr.heap.size, 0, none⟩) 1 1] 25 (0, 0)) := at_new (by simp)
      obtain ⟨w5, hw5⟩ : ∃ w5, w5 = (wr.alloc (.cells #[.int .i64 a.k, .string a.t, .int .i64 a.n, .string a.nm, .slice a.xa a.len a.cap] 25)).alloc (.cells #[.int .i64 20, .string ⟨#[]⟩, .int .i64 0, .string ⟨#[]⟩, .slice (some ⟨wr.heap.size, 0, none⟩) 1 1] 25) := ⟨_, rfl⟩
      rw [← hw5] at hb9 gk gp ⊢
      obtain ⟨bk, hbk⟩ : ∃ bk, bk = wr.heap.size := ⟨_, rfl⟩
      obtain ⟨zp, hzp⟩ : ∃ zp, zp = bk + 1 := ⟨_, rfl⟩
      rw [← hbk] at gk gp ⊢
      rw [← hzp] at gp ⊢
      have HZ5 := hide (And.intro (row_below (unhide HZk) hb9) gp)
      have HB5 := hide (bnext (unhide HBk) hb9)
      have hT : (kidsP 20 bk [a]).In w5 := kidsP_in (l := [a]) (by decide) (show 1 ≤ 3 by decide) gk (fun z hz => by rw [List.mem_singleton.1 hz]; exact unhide HIN _ (unhide HB5))
      have HT := hide hT
      clear hT gk gp hw5 hb9 hbk hzp HZk HBk y0 y1 y2 y3 y4
      have hA : Below w5.heap.size w5 w5.drew := (Below.refl _ _).drew
      go_region_held3 (fun w' => w'.cell? ⟨za, 0, none⟩ = some (.int .i64 a.k) ∧ w'.cell? ⟨za, 1, none⟩ = some (.string a.t) ∧ w'.cell? ⟨za, 2, none⟩ = some (.int .i64 a.n) ∧ w'.cell? ⟨za, 3, none⟩ = some (.string a.nm) ∧ w'.cell? ⟨za, 4, none⟩ = some (.slice a.xa a.len a.cap) ∧ w'.cell? ⟨zp, 0, none⟩ = some (.int .i64 20) ∧ w'.cell? ⟨zp, 1, none⟩ = some (.string ⟨#[]⟩) ∧ w'.cell? ⟨zp, 2, none⟩ = some (.int .i64 0) ∧ w'.cell? ⟨zp, 3, none⟩ = some (.string ⟨#[]⟩) ∧ w'.cell? ⟨zp, 4, none⟩ = some (.slice (some ⟨bk, 0, none⟩) 1 1))
        (exact join2 (held5 (unhide HZ5).1 (bnext hA (by (first | exact Below.refl _ _ | exact (Below.refl _ _).alloc (Nat.le_refl _) _ | exact ((Below.refl _ _).alloc (Nat.le_refl _) _).alloc (by simp) _)))) (held5 (unhide HZ5).2 (bnext hA (by (first | exact Below.refl _ _ | exact (Below.refl _ _).alloc (Nat.le_refl _) _ | exact ((Below.refl _ _).alloc (Nat.le_refl _) _).alloc (by simp) _)))))
        (first
          | (go_at_call 17; (with_reducible refine (lit_agg ⟨#[]⟩ _).mono ?_); rintro e w7 ⟨rfl, hb7⟩; (first | have hpAP := blk1d hb7 | have hpAP := blk1 hb7 | skip); have hA := bnext (bnext hA (by (first | exact Below.refl _ _ | exact (Below.refl _ _).alloc (Nat.le_refl _) _ | exact ((Below.refl _ _).alloc (Nat.le_refl _) _).alloc (by simp) _))) hb7; clear hb7)
          | (go_at_call 15; (with_reducible refine (alt_two (leaf 1 0 ⟨#[]⟩) _ _ _ ?_ ?_ (PT.In.later ?_ hin)).mono ?_); exact at_new rfl; exact unhide HLf _; (first | exact Below.refl _ _ | exact (Below.refl _ _).alloc (Nat.le_refl _) _ | exact ((Below.refl _ _).alloc (Nat.le_refl _) _).alloc (by simp) _); rintro e w7 ⟨rfl, hb7, hin2⟩; have hA := bnext (bnext hA (by (first | exact Below.refl _ _ | exact (Below.refl _ _).alloc (Nat.le_refl _) _ | exact ((Below.refl _ _).alloc (Nat.le_refl _) _).alloc (by simp) _))) hb7; clear hb7)
          | (go_at_call 13; (with_reducible refine (unhide H2 ?_ _ ?_ _ _ _ ?_ hin2).mono ?_); exact unhide HN; exact bnext (unhide HB5) hA; exact PT.In.later hA (unhide HT); rintro e w7 ⟨rfl, hb7⟩; have hA := bnext hA hb7; clear hb7)
          | (go_at_call 14; (with_reducible refine (cat_two a (kidsP 20 bk [a]) _ _ ?_ ?_ ?_).mono ?_); (first | exact at_new rfl | exact row_below hpAP (by (first | exact Below.refl _ _ | exact (Below.refl _ _).alloc (Nat.le_refl _) _ | exact ((Below.refl _ _).alloc (Nat.le_refl _) _).alloc (by simp) _))); exact unhide HIN _ (bnext (unhide HB5) (bnext hA (by (first | exact Below.refl _ _ | exact (Below.refl _ _).alloc (Nat.le_refl _) _ | exact ((Below.refl _ _).alloc (Nat.le_refl _) _).alloc (by simp) _)))); exact PT.In.later (bnext hA (by (first | exact Below.refl _ _ | exact (Below.refl _ _).alloc (Nat.le_refl _) _ | exact ((Below.refl _ _).alloc (Nat.le_refl _) _).alloc (by simp) _))) (unhide HT); rintro e w7 ⟨rfl, hb7, hin⟩; have hA := bnext (bnext hA (by (first | exact Below.refl _ _ | exact (Below.refl _ _).alloc (Nat.le_refl _) _ | exact ((Below.refl _ _).alloc (Nat.le_refl _) _).alloc (by simp) _))) hb7; clear hb7))
      all_goals
        go_wp2_with fail
        go_ret
        exact ⟨rfl, bnext (unhide HB5) hA⟩
    · have hle' : (k : Int) ≤ (s.size : Int) := by omega
      obtain ⟨y0, y1, y2, y3, y4⟩ := held5 (unhide HZ) hb
      have HBk := hide (bnext (unhide HB1) hb)
      have HBl := hide hb
      clear hb
      go_wp2_with fail
      refine (unhide H1 wr (unhide HBk) k).mono ?_
      rintro e w2 ⟨vl, L, rfl, hL, hb2, hLr⟩
      obtain ⟨al, cl, hvl, -, -⟩ := hL.row.len
      subst hvl
      have HB2 := hide (bnext (unhide HBk) hb2)
      have HBl2 := hide (bnext (unhide HBl) hb2)
      clear hb2 HBk HBl y0 y1 y2 y3 y4
      obtain ⟨rA, hrA⟩ : ∃ r, r = waysOf RL dg a s (k : Int) 4096 20000 := ⟨_, rfl⟩
      rw [← hrA] at hLr ⊢
      have HrA := hide hrA
      have HLL := hide (And.intro hL hLr)
      have hLm := hL.row.max
      unfold maxLen at hLm
      clear hrA hL hLr
      cases hok : allOk rA with
      | false =>
        go_wp2_with fail
        go_ret
        exact ⟨rfl, unhide HB2⟩
      | true =>
        cases hcut : rA.2.1 with
        | true =>
          go_wp2_with fail
          go_ret
          exact ⟨rfl, unhide HB2⟩
        | false =>
          go_wp2_with fail
          go_loopw [43] (fun q wr => ∃ m : Nat, m ≤ L.length ∧ q = .int .i64 (m : Int) ∧ Below w2.heap.size w2 wr ∧ Hid (∀ (x : Nat) (y : Wv), x < m → L[x]? = some y → y.to ≠ k)) (fun q _ => L.length - (intOf q).toNat)
          case atStart => exact ⟨0, Nat.zero_le _, rfl, Below.refl _ _, hide (fun x _ h => absurd h (Nat.not_lt_zero _))⟩
          case round =>
            obtain ⟨m, hm, rfl, hbm, HQ⟩ := hrel
            rcases Nat.lt_or_ge m L.length with hlt | hge
            · have hlt' : (m : Int) < (L.length : Int) := by omega
              obtain ⟨lx, hlx⟩ : ∃ x, L[m]? = some x := ⟨_, List.getElem?_eq_getElem hlt⟩
              have hL := (unhide HLL).1.later hbm
              obtain ⟨gl, cl2, hgl, -⟩ := hL.row.form (by intro e; rw [e] at hlt; simp at hlt)
              injection hgl with hg1 hg2 hg3
              subst hg1 hg3
              clear hg2
              have o0 : wr.cell? ⟨gl, m * 2, none⟩ = some (.int .i64 (lx.to : Int)) := hL.row.cell wyV_len rfl hlx (k := 0) rfl
              have o1 : wr.cell? ⟨gl, m * 2 + 1, none⟩ = some (.slice lx.ga lx.G.length lx.gc) := hL.row.cell wyV_len rfl hlx (k := 1) rfl
              have i0 := idx_run (g := gl) (n := L.length) (cap := cl) Tryd.underlying33 size_way hlt
              have HBm := hide hbm
              have HX := hide hlx
              clear hL hlx hbm
              by_cases he : lx.to = k
              · have he' : ((lx.to : Int) == (k : Int)) = true := by rw [beq_iff_eq]; omega
                have he2 : (lx.to : Int) = (k : Int) := by omega
                go_wp2_with fail
                go_ret
                exact ⟨rfl, bnext (bnext (unhide HB2) (unhide HBm)) ((Below.refl _ _).alloc (Nat.le_refl _) _)⟩
              · have he' : ((lx.to : Int) == (k : Int)) = false := by rw [beq_eq_false_iff_ne]; omega
                have HE := hide he
                clear he
                go_wp2_with fail
                go_roundw
                case rel =>
                  refine ⟨m + 1, by omega, by simp, bnext (unhide HBm) ((Below.refl _ _).alloc (Nat.le_refl _) _), hide (fun x y hx hy => ?_)⟩
                  rcases Nat.lt_or_ge x m with h | h
                  · exact unhide HQ x y h hy
                  · obtain rfl : x = m := by omega
                    rw [unhide HX] at hy
                    rw [← Option.some.inj hy]
                    exact unhide HE
                case measure => simp [intOf]; omega
            · have hge' : ¬ (m : Int) < (L.length : Int) := by omega
              have HNE := hide (show NoEmpty RL dg a s k from ⟨by rw [← unhide HrA]; exact hok, fun x hx => by
                rw [← unhide HrA, ← (unhide HLL).2] at hx
                obtain ⟨y, hy, rfl⟩ := List.mem_map.1 hx
                obtain ⟨z, hz⟩ := List.getElem?_of_mem hy
                exact unhide HQ z y (by have := (List.getElem?_eq_some_iff.1 hz).1; omega) hz⟩)
              have HBm := hide hbm
              clear hbm HQ
              go_wp2_with fail
              go_roundw
              case rel =>
                refine ⟨k + 1, by omega, by simp, bnext (unhide HBl2) (unhide HBm), hide (fun x hx => ?_)⟩
                rcases Nat.lt_or_ge x k with h | h
                · exact unhide HP x h
                · obtain rfl : x = k := by omega
                  exact unhide HNE
              case measure => simp [intOf]; omega
end Go.Proofs.YteblcdgjjhodeaaDoor
