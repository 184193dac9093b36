/- Nobody comes back behind a fence: ScanFence is true of any rules, any patterns, any text and place. -/
import Derived.Test.YteblcdgjjhodeabDoorLaw5K
namespace Go.Proofs.YteblcdgjjhodeabDoor
open Go.RowKit

section
variable {s : ByteArray} {R : ByteArray → Option PT} {dg : Nat → ByteArray}
theorem W_fence (n : Nat) (i : Nat) (g : List Gft) : W s R dg (n + 1) (leaf 16 0 ⟨#[]⟩) i g = ([wy i g], 1) := by
  unfold W
  rw [D, if_neg (show ¬ (leaf 16 0 ⟨#[]⟩).k = 17 by decide), if_pos (show (leaf 16 0 ⟨#[]⟩).k = 16 from rfl), onlyW_tk]
  rfl
theorem W_abort (n : Nat) (i : Nat) (g : List Gft) : W s R dg (n + 1) (leaf 17 0 ⟨#[]⟩) i g = ([], 1) := by
  unfold W
  rw [D, if_pos (show (leaf 17 0 ⟨#[]⟩).k = 17 from rfl), onlyW_tk]
  rfl
/-- How it may end. -/
def E3 (q : Sq) : Prop := q.2 ≤ 3
theorem e3_put (x : Ev) {q : Sq} (h : E3 q) : E3 (put x q) := h
theorem e3_thn {p q : Sq} (hp : E3 p) (hq : E3 q) : E3 (thn p q) := by
  unfold thn
  split
  · exact hq
  · exact hp
theorem e3_fin {n : Nat} (l : List Ev) (h : n ≤ 3) : E3 (l, n) := h
theorem e3_one (x : Ev) : E3 (one x) := Nat.zero_le _
theorem e3_nil : E3 nil := Nat.zero_le _
theorem e3_bnd {n : Nat} {f : Nat → List Gft → Sq} (hn : n ≤ 3) (hf : ∀ e g, E3 (f e g)) : ∀ l, E3 (bnd l n f)
  | [] => hn
  | x :: l => by
    rw [bnd]
    split
    · exact e3_thn (hf _ _) (e3_bnd hn hf l)
    · exact e3_put _ (e3_bnd hn hf l)
theorem e3_bd {q : Sq} {f : Nat → List Gft → Sq} (hq : E3 q) (hf : ∀ e g, E3 (f e g)) : E3 (bd q f) := e3_bnd hq hf q.1
theorem e3_ite {c : Prop} [Decidable c] {p q : Sq} (hp : E3 p) (hq : E3 q) : E3 (if c then p else q) := by
  split
  · exact hp
  · exact hq
theorem e3_cats {f : PT → Nat → List Gft → Sq} {T : PT} (hf : ∀ U i g, E3 (f U i g)) : ∀ m j i g, E3 (cats f T m j i g)
  | 0, _, _, _ => hf _ _ _
  | m + 1, j, _, _ => e3_bd (hf _ _ _) fun e g' => e3_put _ (e3_cats hf m (j + 1) e g')
theorem e3_alts {f : PT → Nat → List Gft → Sq} {T : PT} (hf : ∀ U i g, E3 (f U i g)) (i : Nat) (g : List Gft) : ∀ m j, E3 (alts f T i g m j)
  | 0, _ => e3_nil
  | m + 1, j => e3_put _ (e3_thn (hf _ _ _) (e3_alts hf i g m (j + 1)))
theorem e3_agn {f : PT → Nat → List Gft → Sq} {T : PT} (hf : ∀ U i g, E3 (f U i g)) : ∀ m i g, E3 (agn f T m i g)
  | 0, _, _ => e3_fin _ (by decide)
  | m + 1, i, g => e3_put _ (e3_put _ (e3_bd (hf _ _ _) fun e g' => e3_put _ (e3_ite e3_nil (e3_agn hf m e g'))))
theorem D_e3 : ∀ n T i g, E3 (D s R dg n T i g)
  | 0, _, _, _ => e3_fin _ (by decide)
  | n + 1, T, i, g => by
    have ih := D_e3 n
    rw [D]
    refine e3_put _ (e3_ite (e3_fin _ (by decide)) (e3_ite (e3_fin _ (by decide)) (e3_ite (e3_agn ih _ _ _) (e3_ite (e3_alts ih _ _ _ _) (e3_ite ?_ (e3_ite ?_ (e3_ite ?_ (e3_ite (e3_cats ih _ _ _ _) (e3_ite ?_ (e3_ite ?_ (e3_ite ?_ (e3_ite (e3_put _ (e3_one _)) ?_))))))))))))
    · unfold E3; rw [arbs_end]; decide
    · unfold E3; rw [bxs_end]; decide
    · unfold E3; rw [bls_end]; decide
    · exact e3_bd (ih _ _ _) fun _ _ => e3_put _ (e3_one _)
    · exact e3_bd (ih _ _ _) fun _ _ => e3_put _ (e3_one _)
    · split
      · exact ih _ _ _
      · exact e3_fin _ (by decide)
    · split
      · exact e3_one _
      · exact e3_nil
end

theorem wys_ways (l : List Ev) : ∀ x ∈ wys l, x.w = 3 := fun x hx => by
  have := (List.mem_filter.1 hx).2
  simpa using this
theorem bd_fence {q : Sq} {x : Ev} {r : List Ev} (h : q.1 = x :: r) (hx : x.w = 3) : bd q (fun e g => (([wy e g], 1) : Sq)) = ([wy x.a x.g], 1) := by
  obtain ⟨l, n⟩ := q
  have h : l = x :: r := h
  subst h
  show bnd (x :: r) n _ = _
  rw [bnd, if_pos hx]
  rfl
theorem le_same {p q : Sq} (h : Le p q) (h3 : p.2 ≠ 3) : p = q := by
  rcases h with e | ⟨e, _⟩
  · exact e
  · exact absurd e h3
/-- What is told of a pattern ahead of a fence. -/
theorem fence_told {RL : List (ByteArray × PT)} {dg : Nat → ByteArray} {a : PT} {b : Nat} {s : ByteArray} {i : Int} (hA : allOk (waysOf RL dg a s i 4096 20000) = true) (hT : allOk (waysOf RL dg (kidsP 18 b [a, leaf 16 0 ⟨#[]⟩]) s i 4096 20000) = true) :
    ((waysOf RL dg a s i 4096 20000).1 = [] ∧ (waysOf RL dg (kidsP 18 b [a, leaf 16 0 ⟨#[]⟩]) s i 4096 20000).1 = [] ∧ (waysOf RL dg (kidsP 18 b [a, leaf 16 0 ⟨#[]⟩]) s i 4096 20000).2.1 = (waysOf RL dg a s i 4096 20000).2.1) ∨
    ∃ x r, (waysOf RL dg a s i 4096 20000).1 = x :: r ∧ (waysOf RL dg (kidsP 18 b [a, leaf 16 0 ⟨#[]⟩]) s i 4096 20000).1 = [x] ∧ (waysOf RL dg (kidsP 18 b [a, leaf 16 0 ⟨#[]⟩]) s i 4096 20000).2.1 = true := by
  obtain ⟨j, rfl, hj, -, h3, -, -, he⟩ := waysOf_ok hA
  obtain ⟨j', e', -, -, h3', -, -, he'⟩ := waysOf_ok hT
  have : j' = j := by omega
  subst this
  rw [he, he']
  have hW : onlyW (D s (fun nm => ruleOf nm RL) dg 20001 (kidsP 18 b [a, leaf 16 0 ⟨#[]⟩]) j' []) = bd (onlyW (D s (fun nm => ruleOf nm RL) dg 20001 a j' [])) (fun e g => (([wy e g], 1) : Sq)) := by
    have h1 : W s (fun nm => ruleOf nm RL) dg 20001 (kidsP 18 b [a, leaf 16 0 ⟨#[]⟩]) j' [] = bd (W s (fun nm => ruleOf nm RL) dg 20000 a j' []) (fun e g => (([wy e g], 1) : Sq)) := by
      rw [show (20001 : Nat) = 19999 + 1 + 1 from rfl, W_cat2 rfl rfl, kidsP_kid (x := a) rfl, kidsP_kid (x := leaf 16 0 ⟨#[]⟩) rfl]
      exact bd_congr _ fun e g => W_fence 19999 e g
    have h2 : (W s (fun nm => ruleOf nm RL) dg 20001 (kidsP 18 b [a, leaf 16 0 ⟨#[]⟩]) j' []).2 ≠ 3 := h3'
    rw [h1] at h2
    exact h1.trans (le_same (le_bd (W_le (by omega) a j' []) fun _ _ => le_refl _) h2)
  generalize hP : D s (fun nm => ruleOf nm RL) dg 20001 (kidsP 18 b [a, leaf 16 0 ⟨#[]⟩]) j' [] = p at hW
  generalize D s (fun nm => ruleOf nm RL) dg 20001 a j' [] = q at hW
  have hw := wys_ways q.1
  cases hq : wys q.1 with
  | nil =>
    left
    have : onlyW p = ([], q.2) := by rw [hW]; unfold onlyW; rw [hq]; rfl
    have h1 : wys p.1 = [] := congrArg Prod.fst this
    have h2 : (onlyW p).2 = q.2 := by rw [this]
    have h2 : p.2 = q.2 := h2
    unfold prsW
    rw [hq, h1, h2]
    exact ⟨rfl, rfl, rfl⟩
  | cons x r =>
    right
    have : onlyW p = ([wy x.a x.g], 1) := by rw [hW]; exact bd_fence hq (hw x (by rw [hq]; exact List.mem_cons_self))
    have h1 : wys p.1 = [wy x.a x.g] := congrArg Prod.fst this
    have h2 : (onlyW p).2 = 1 := by rw [this]
    have h2 : p.2 = 1 := h2
    unfold prsW
    rw [hq, h1, h2]
    exact ⟨(x.a, x.g), r.map fun x => (x.a, x.g), rfl, rfl, rfl⟩
/-- An abort ends all. -/
theorem abort_told {RL : List (ByteArray × PT)} {dg : Nat → ByteArray} {a c : PT} {b1 b2 : Nat} {s : ByteArray} {i : Int} (hA : allOk (waysOf RL dg a s i 4096 20000) = true) (hT : allOk (waysOf RL dg (kidsP 19 b2 [a, kidsP 18 b1 [leaf 17 0 ⟨#[]⟩, c], c]) s i 4096 20000) = true) :
    (waysOf RL dg a s i 4096 20000).1 = (waysOf RL dg (kidsP 19 b2 [a, kidsP 18 b1 [leaf 17 0 ⟨#[]⟩, c], c]) s i 4096 20000).1 ∧ (waysOf RL dg (kidsP 19 b2 [a, kidsP 18 b1 [leaf 17 0 ⟨#[]⟩, c], c]) s i 4096 20000).2.1 = true := by
  obtain ⟨j, rfl, hj, -, h3, h2a, -, he⟩ := waysOf_ok hA
  obtain ⟨j', e', -, -, h3', -, -, he'⟩ := waysOf_ok hT
  have : j' = j := by omega
  subst this
  rw [he, he']
  have hW : onlyW (D s (fun nm => ruleOf nm RL) dg 20001 (kidsP 19 b2 [a, kidsP 18 b1 [leaf 17 0 ⟨#[]⟩, c], c]) j' []) = thn (onlyW (D s (fun nm => ruleOf nm RL) dg 20001 a j' [])) ([], 1) := by
    have h1 : W s (fun nm => ruleOf nm RL) dg 20001 (kidsP 19 b2 [a, kidsP 18 b1 [leaf 17 0 ⟨#[]⟩, c], c]) j' [] = thn (W s (fun nm => ruleOf nm RL) dg 20000 a j' []) ([], 1) := by
      rw [show (20001 : Nat) = 20000 + 1 from rfl, W_alt3 (T := kidsP 19 b2 [a, kidsP 18 b1 [leaf 17 0 ⟨#[]⟩, c], c]) rfl rfl, kidsP_kid (x := a) rfl, kidsP_kid (x := kidsP 18 b1 [leaf 17 0 ⟨#[]⟩, c]) rfl, kidsP_kid (x := c) rfl]
      have h9 : W s (fun nm => ruleOf nm RL) dg 20000 (kidsP 18 b1 [leaf 17 0 ⟨#[]⟩, c]) j' [] = ([], 1) := by
        rw [show (20000 : Nat) = 19998 + 1 + 1 from rfl, W_cat2 (T := kidsP 18 b1 [leaf 17 0 ⟨#[]⟩, c]) rfl rfl, kidsP_kid (x := leaf 17 0 ⟨#[]⟩) rfl, W_abort]
        rfl
      rw [h9]
      rfl
    have h2 : (W s (fun nm => ruleOf nm RL) dg 20001 (kidsP 19 b2 [a, kidsP 18 b1 [leaf 17 0 ⟨#[]⟩, c], c]) j' []).2 ≠ 3 := h3'
    rw [h1] at h2
    exact h1.trans (le_same (le_thn (W_le (by omega) a j' []) (le_refl _)) h2)
  have hE := D_e3 (s := s) (R := fun nm => ruleOf nm RL) (dg := dg) 20001 a j' []
  generalize D s (fun nm => ruleOf nm RL) dg 20001 (kidsP 19 b2 [a, kidsP 18 b1 [leaf 17 0 ⟨#[]⟩, c], c]) j' [] = p at hW ⊢
  generalize D s (fun nm => ruleOf nm RL) dg 20001 a j' [] = q at hW h3 h2a hE ⊢
  unfold E3 at hE
  have h1 : wys p.1 = wys q.1 ∧ p.2 = 1 := by
    by_cases h0 : q.2 = 0
    · have : onlyW p = (wys q.1 ++ [], 1) := by rw [hW]; unfold thn; rw [if_pos (show (onlyW q).2 = 0 from h0)]; rfl
      rw [List.append_nil] at this
      have h9 : (onlyW p).2 = 1 := by rw [this]
      exact ⟨congrArg Prod.fst this, h9⟩
    · have : onlyW p = onlyW q := by rw [hW]; exact thn_stop _ h0
      have h9 : (onlyW p).2 = (onlyW q).2 := by rw [this]
      exact ⟨congrArg Prod.fst this, h9.trans (show q.2 = 1 by omega)⟩
  unfold prsW
  rw [h1.1, h1.2]
  exact ⟨rfl, rfl⟩

theorem tabs_fence {w : World} (h : laidMetH Tryd.prog Rows.scanFenceRow.laid w) : Shapes w ∧ ItoaSays dgI w := by
  have e : (Rows.scanFenceRow.laid.filter fun x => x.2.handleName?.isSome) = [] := by kernel_rfl
  have h' : laidMet Tryd.prog Rows.scanFenceRow.laid w := by
    have hp := h
    unfold laidMetH at hp
    rw [e] at hp
    exact hp
  refine ⟨shapes_of (rest := []) (laidMet.tail (laidMet.tail (laidMet.tail h'))), itoa_says ?_⟩
  exact Lib.tabIs_of_head (g := 1) (t := 124) (e := 111) (n := 20) (by kernel_rfl) (by kernel_rfl) Tryd.underlying124 Tryd.underlying111 (by kernel_rfl) (by kernel_rfl) (rest := _) (show laidMet Tryd.prog (("internal/strconv.uint64pow10", Lib.tabData .u64 Lib.pow10Tab) :: _) w from h'.tail.tail)

set_option maxRecDepth 100000 in
set_option maxHeartbeats 8000000 in
theorem scanFence_walk {RL : List (ByteArray × PT)} {rv : Value} {dg : Nat → ByteArray} (a b : PT) (s : ByteArray) (i : Int) (w : World) (hV : RVal w RL rv) (ha : a.In w) (hb : b.In w) (hs : s.size ≤ maxLen) (hS : Shapes w) (hIt : ItoaSays dg w) :
    Calls Tryd.prog 3 #[rv, pv a, pv b, .string s, .int .i64 i] w fun e w' => e = .returned (.bool true) ∧ Below w.heap.size w w' := by
  have HA := hide (fun W (h : Below w.heap.size w W) => alive5 W (hIt.later h) (hS.later h))
  have HIN := hide (fun W (h : Below w.heap.size w W) => And.intro (PT.In.later h ha) (PT.In.later h hb))
  have HL := hide (fun (k : Int) (hk : 0 ≤ k ∧ k ≤ 24) W => leaf_in (w := W) (k := k) (n := 0) (t := ⟨#[]⟩) (by omega) (by decide) (by unfold maxLen; decide))
  obtain ⟨rA, hrA⟩ : ∃ r, r = waysOf RL dg a s i 4096 20000 := ⟨_, rfl⟩
  have H1 := hide (fun W (h : Below w.heap.size w W) => show Calls Tryd.prog 9 #[rv, .agg #[.int .i64 a.k, .string a.t, .int .i64 a.n, .string a.nm, .slice a.xa a.len a.cap], .string s, .int .i64 i] W (AllPost rA W) from by rw [hrA]; exact all_any dg a s i W (hV.later h) (hIt.later h) (PT.In.later h ha) (hS.later h) hs)
  have H2 := hide (fun W (h : Below w.heap.size w W) bb (hin : (kidsP 18 bb [a, leaf 16 0 ⟨#[]⟩]).In W) => show Calls Tryd.prog 9 #[rv, .agg #[.int .i64 18, .string ⟨#[]⟩, .int .i64 0, .string ⟨#[]⟩, .slice (some ⟨bb, 0, none⟩) 2 2], .string s, .int .i64 i] W (fun e w' => ∃ r, r = waysOf RL dg (kidsP 18 bb [a, leaf 16 0 ⟨#[]⟩]) s i 4096 20000 ∧ AllPost r W e w') from (all_any dg (kidsP 18 bb [a, leaf 16 0 ⟨#[]⟩]) s i W (hV.later h) (hIt.later h) hin (hS.later h) hs).mono fun _ _ h => ⟨_, rfl, h⟩)
  have H3 := hide (fun W (h : Below w.heap.size w W) b1 b2 (hin : (kidsP 19 b2 [a, kidsP 18 b1 [leaf 17 0 ⟨#[]⟩, b], b]).In W) => show Calls Tryd.prog 9 #[rv, .agg #[.int .i64 19, .string ⟨#[]⟩, .int .i64 0, .string ⟨#[]⟩, .slice (some ⟨b2, 0, none⟩) 3 3], .string s, .int .i64 i] W (fun e w' => ∃ r, r = waysOf RL dg (kidsP 19 b2 [a, kidsP 18 b1 [leaf 17 0 ⟨#[]⟩, b], b]) s i 4096 20000 ∧ AllPost r W e w') from (all_any dg (kidsP 19 b2 [a, kidsP 18 b1 [leaf 17 0 ⟨#[]⟩, b], b]) s i W (hV.later h) (hIt.later h) hin (hS.later h) hs).mono fun _ _ h => ⟨_, rfl, h⟩)
  have HrA := hide hrA
  unfold pv
  clear hV ha hb hs hS hIt hrA
  go_enter Tryd.func3, Tryd.ntmps3
  go_wp2_with fail
  have hb0 : Below w.heap.size w ((w.alloc (.cells #[.int .i64 a.k, .string a.t, .int .i64 a.n, .string a.nm, .slice a.xa a.len a.cap] 25)).alloc (.cells #[.int .i64 b.k, .string b.t, .int .i64 b.n, .string b.nm, .slice b.xa b.len b.cap] 25)) := ((Below.refl _ _).alloc (Nat.le_refl _) _).alloc (by simp) _
  have ga : ((w.alloc (.cells #[.int .i64 a.k, .string a.t, .int .i64 a.n, .string a.nm, .slice a.xa a.len a.cap] 25)).alloc (.cells #[.int .i64 b.k, .string b.t, .int .i64 b.n, .string b.nm, .slice b.xa b.len b.cap] 25)).heap[w.heap.size]? = some (.cells #[.int .i64 a.k, .string a.t, .int .i64 a.n, .string a.nm, .slice a.xa a.len a.cap] 25 (0, 0)) := at_old (by simp) (at_new rfl)
  have gb : ((w.alloc (.cells #[.int .i64 a.k, .string a.t, .int .i64 a.n, .string a.nm, .slice a.xa a.len a.cap] 25)).alloc (.cells #[.int .i64 b.k, .string b.t, .int .i64 b.n, .string b.nm, .slice b.xa b.len b.cap] 25)).heap[w.heap.size + 1]? = some (.cells #[.int .i64 b.k, .string b.t, .int .i64 b.n, .string b.nm, .slice b.xa b.len b.cap] 25 (0, 0)) := at_new (by simp)
  refine (unhide HA _ hb0).mono ?_
  rintro e w1 ⟨rfl, hb1⟩
  obtain ⟨za, hza⟩ : ∃ za, za = w.heap.size := ⟨_, rfl⟩
  obtain ⟨zb, hzb⟩ : ∃ zb, zb = za + 1 := ⟨_, rfl⟩
  rw [← hza] at ga gb ⊢
  rw [← hzb] at gb ⊢
  have ga := row_below ga hb1
  have gb := row_below gb hb1
  have HZ := hide (And.intro ga gb)
  have HB1 := hide (bnext hb0 hb1)
  clear hb0 hb1 hza hzb HA gb
  obtain ⟨y0, y1, y2, y3, y4⟩ := held5 ga (Below.refl _ _)
  clear ga
  go_wp2_with fail
  refine (unhide H1 w1 (unhide HB1)).mono ?_
  rintro e w2 ⟨vl, L, rfl, hL, hb2, hLr⟩
  obtain ⟨al, cl, hvl, -, -⟩ := hL.row.len
  subst hvl
  have HZ2 := hide (And.intro (row_below (unhide HZ).1 hb2) (row_below (unhide HZ).2 hb2))
  have HB2 := hide (bnext (unhide HB1) hb2)
  have HLL := hide (And.intro hL hLr)
  clear hL hLr hb2 HZ HB1 y0 y1 y2 y3 y4 H1
  go_wp2_with fail
  have hA : Below w2.heap.size w2 w2.drew := (Below.refl _ _).drew
  go_region_held3 (fun w' => w'.cell? ⟨za, 0, none⟩ = some (.int .i64 a.k) ∧ w'.cell? ⟨za, 1, none⟩ = some (.string a.t) ∧ w'.cell? ⟨za, 2, none⟩ = some (.int .i64 a.n) ∧ w'.cell? ⟨za, 3, none⟩ = some (.string a.nm) ∧ w'.cell? ⟨za, 4, none⟩ = some (.slice a.xa a.len a.cap))
    (first | exact held5 (unhide HZ2).1 hA | exact held5 (unhide HZ2).1 (hA.alloc hA.size _))
    (first
      | (go_at_call 11; (with_reducible refine (some_agg 16 0 ⟨#[]⟩ _).mono ?_); rintro e w7 ⟨rfl, hb7⟩; have hA := bnext hA hb7; clear hb7)
      | (go_at_call 10; (with_reducible refine (cat_two a (leaf 16 0 ⟨#[]⟩) _ _ ?_ ?_ ?_).mono ?_); exact at_new rfl; exact (unhide HIN _ (bnext (unhide HB2) (hA.alloc hA.size _))).1; exact unhide HL 16 (by decide) _; rintro e w7 ⟨rfl, hb7, hin⟩; have hA := bnext (hA.alloc hA.size _) hb7; clear hb7)
      | (go_at_call 9; (with_reducible refine (unhide H2 _ ?_ _ hin).mono ?_); exact bnext (unhide HB2) hA; rintro e w7 ⟨rT, hrT, vm, M, rfl, hM, hb7, hMr⟩; have HrT := hide hrT; clear hrT; obtain ⟨am, cm, hvm, -, -⟩ := hM.row.len; subst hvm; have hA := bnext hA hb7; clear hb7))
  clear hin H2
  have HM := hide (And.intro hM hMr)
  have HB7 := hide (bnext (unhide HB2) hA)
  have HZ7 := hide (And.intro (row_below (unhide HZ2).1 hA) (row_below (unhide HZ2).2 hA))
  have HL7 := hide (And.intro ((unhide HLL).1.later hA) (unhide HLL).2)
  clear hM hMr hA HB2 HZ2 HLL
  cases hok : allOk rA with
  | false =>
    go_wp2_with fail
    have HBk := HB7
    have HZk := HZ7
    have HLk := HL7
    clear HB7 HZ7 HL7
    have hA : Below w7.heap.size w7 w7.drew := (Below.refl _ _).drew
    go_region_held3 (fun w' => w'.cell? ⟨za, 0, none⟩ = some (.int .i64 a.k) ∧ w'.cell? ⟨za, 1, none⟩ = some (.string a.t) ∧ w'.cell? ⟨za, 2, none⟩ = some (.int .i64 a.n) ∧ w'.cell? ⟨za, 3, none⟩ = some (.string a.nm) ∧ w'.cell? ⟨za, 4, none⟩ = some (.slice a.xa a.len a.cap) ∧ w'.cell? ⟨zb, 0, none⟩ = some (.int .i64 b.k) ∧ w'.cell? ⟨zb, 1, none⟩ = some (.string b.t) ∧ w'.cell? ⟨zb, 2, none⟩ = some (.int .i64 b.n) ∧ w'.cell? ⟨zb, 3, none⟩ = some (.string b.nm) ∧ w'.cell? ⟨zb, 4, none⟩ = some (.slice b.xa b.len b.cap))
      (first | exact join2 (held5 (unhide HZk).1 hA) (held5 (unhide HZk).2 hA) | exact join2 (held5 (unhide HZk).1 (hA.alloc hA.size _)) (held5 (unhide HZk).2 (hA.alloc hA.size _)))
      (first
        | (go_at_call 11; (with_reducible refine (some_agg 17 0 ⟨#[]⟩ _).mono ?_); rintro e w9 ⟨rfl, hb9⟩; have hA := bnext hA hb9; clear hb9)
        | (go_at_call 10; (with_reducible refine (cat_two (leaf 17 0 ⟨#[]⟩) b _ _ ?_ ?_ ?_).mono ?_); exact at_new rfl; exact unhide HL 17 (by decide) _; exact (unhide HIN _ (bnext (unhide HBk) (hA.alloc hA.size _))).2; rintro e w9 ⟨rfl, hb9, hin⟩; have hA := bnext (hA.alloc hA.size _) hb9; clear hb9)
        | (go_at_call 13; (with_reducible refine (alt_three a _ b _ _ ?_ ?_ (PT.In.later ?_ hin) ?_).mono ?_); exact at_new rfl; exact (unhide HIN _ (bnext (unhide HBk) (hA.alloc hA.size _))).1; exact (Below.refl _ _).alloc (Nat.le_refl _) _; exact (unhide HIN _ (bnext (unhide HBk) (hA.alloc hA.size _))).2; rintro e w9 ⟨rfl, hb9, hin2⟩; have hA := bnext (hA.alloc hA.size _) hb9; clear hb9)
        | (go_at_call 9; (with_reducible refine (unhide H3 _ ?_ _ _ hin2).mono ?_); exact bnext (unhide HBk) hA; rintro e w9 ⟨rU, hrU, vn, NN, rfl, hN, hb9, hNr⟩; have HrU := hide hrU; clear hrU; obtain ⟨an, cn, hvn, -, -⟩ := hN.row.len; subst hvn; have hA := bnext hA hb9; clear hb9))
    go_wp2_with fail
    go_ret
    exact ⟨rfl, bnext (unhide HBk) hA⟩
  | true =>
    cases his : allOk rT with
    | false =>
      go_wp2_with fail
      have HBk := HB7
      have HZk := HZ7
      have HLk := HL7
      clear HB7 HZ7 HL7
      have hA : Below w7.heap.size w7 w7.drew := (Below.refl _ _).drew
      go_region_held3 (fun w' => w'.cell? ⟨za, 0, none⟩ = some (.int .i64 a.k) ∧ w'.cell? ⟨za, 1, none⟩ = some (.string a.t) ∧ w'.cell? ⟨za, 2, none⟩ = some (.int .i64 a.n) ∧ w'.cell? ⟨za, 3, none⟩ = some (.string a.nm) ∧ w'.cell? ⟨za, 4, none⟩ = some (.slice a.xa a.len a.cap) ∧ w'.cell? ⟨zb, 0, none⟩ = some (.int .i64 b.k) ∧ w'.cell? ⟨zb, 1, none⟩ = some (.string b.t) ∧ w'.cell? ⟨zb, 2, none⟩ = some (.int .i64 b.n) ∧ w'.cell? ⟨zb, 3, none⟩ = some (.string b.nm) ∧ w'.cell? ⟨zb, 4, none⟩ = some (.slice b.xa b.len b.cap))
        (first | exact join2 (held5 (unhide HZk).1 hA) (held5 (unhide HZk).2 hA) | exact join2 (held5 (unhide HZk).1 (hA.alloc hA.size _)) (held5 (unhide HZk).2 (hA.alloc hA.size _)))
        (first
          | (go_at_call 11; (with_reducible refine (some_agg 17 0 ⟨#[]⟩ _).mono ?_); rintro e w9 ⟨rfl, hb9⟩; have hA := bnext hA hb9; clear hb9)
          | (go_at_call 10; (with_reducible refine (cat_two (leaf 17 0 ⟨#[]⟩) b _ _ ?_ ?_ ?_).mono ?_); exact at_new rfl; exact unhide HL 17 (by decide) _; exact (unhide HIN _ (bnext (unhide HBk) (hA.alloc hA.size _))).2; rintro e w9 ⟨rfl, hb9, hin⟩; have hA := bnext (hA.alloc hA.size _) hb9; clear hb9)
          | (go_at_call 13; (with_reducible refine (alt_three a _ b _ _ ?_ ?_ (PT.In.later ?_ hin) ?_).mono ?_); exact at_new rfl; exact (unhide HIN _ (bnext (unhide HBk) (hA.alloc hA.size _))).1; exact (Below.refl _ _).alloc (Nat.le_refl _) _; exact (unhide HIN _ (bnext (unhide HBk) (hA.alloc hA.size _))).2; rintro e w9 ⟨rfl, hb9, hin2⟩; have hA := bnext (hA.alloc hA.size _) hb9; clear hb9)
          | (go_at_call 9; (with_reducible refine (unhide H3 _ ?_ _ _ hin2).mono ?_); exact bnext (unhide HBk) hA; rintro e w9 ⟨rU, hrU, vn, NN, rfl, hN, hb9, hNr⟩; have HrU := hide hrU; clear hrU; obtain ⟨an, cn, hvn, -, -⟩ := hN.row.len; subst hvn; have hA := bnext hA hb9; clear hb9))
      cases hu : allOk rU with
      | false =>
        go_wp2_with fail
        go_ret
        exact ⟨rfl, bnext (unhide HBk) hA⟩
      | true =>
        obtain ⟨u1, u2⟩ := abort_told (by rw [← unhide HrA]; exact hok) (by rw [← unhide HrU]; exact hu)
        rw [← unhide HrU] at u1 u2
        rw [← unhide HrA] at u1
        rw [u2]
        have HSW := hide (sameWays_all ((unhide HLk).1.later hA) hN (by rw [(unhide HLk).2, hNr, u1]))
        have HX := hide (bnext (unhide HBk) hA)
        clear u1 u2 hN hNr hA hu hin hin2 HrU
        go_wp2_with (go_at_call 14; refine (unhide HSW).mono ?_; rintro e wa ⟨rfl, hba⟩)
        go_ret
        exact ⟨rfl, bnext (unhide HX) hba⟩
    | true =>
      have hft := fence_told (a := a) (by rw [← unhide HrA]; exact hok) (by rw [← unhide HrT]; exact his)
      rw [← unhide HrA, ← unhide HrT] at hft
      rcases hft with ⟨h1, h2, h3⟩ | ⟨x, r, h1, h2, h3⟩
      · obtain rfl : L = [] := by have := (unhide HL7).2; rw [h1] at this; simpa using this
        obtain rfl : M = [] := by have := (unhide HM).2; rw [h2] at this; simpa using this
        rw [h3]
        clear h2 h3
        obtain ⟨cut, hcut⟩ : ∃ cut, cut = rA.2.1 := ⟨_, rfl⟩
        rw [← hcut]
        clear hcut h1
        have hcc : (cut != cut) = false := by simp
        dsimp only [List.length_nil]
        go_wp2_with fail
        go_quiet (fail)
        obtain ⟨w8, hw8⟩ : ∃ w8, w8 = w7.drewN nq := ⟨_, rfl⟩
        rw [← hw8]
        have hA : Below w7.heap.size w7 w8 := by rw [hw8]; exact below_drewN (Below.refl _ _) _
        have HBk := hide (bnext (unhide HB7) hA)
        have HZk := hide (And.intro (row_below (unhide HZ7).1 hA) (row_below (unhide HZ7).2 hA))
        have HLk := hide (And.intro ((unhide HL7).1.later hA) (unhide HL7).2)
        clear hA hw8 HB7 HZ7 HL7 HM hcc
        go_wp2_with fail
        have hA : Below w8.heap.size w8 w8.drew := (Below.refl _ _).drew
        go_region_held3 (fun w' => w'.cell? ⟨za, 0, none⟩ = some (.int .i64 a.k) ∧ w'.cell? ⟨za, 1, none⟩ = some (.string a.t) ∧ w'.cell? ⟨za, 2, none⟩ = some (.int .i64 a.n) ∧ w'.cell? ⟨za, 3, none⟩ = some (.string a.nm) ∧ w'.cell? ⟨za, 4, none⟩ = some (.slice a.xa a.len a.cap) ∧ w'.cell? ⟨zb, 0, none⟩ = some (.int .i64 b.k) ∧ w'.cell? ⟨zb, 1, none⟩ = some (.string b.t) ∧ w'.cell? ⟨zb, 2, none⟩ = some (.int .i64 b.n) ∧ w'.cell? ⟨zb, 3, none⟩ = some (.string b.nm) ∧ w'.cell? ⟨zb, 4, none⟩ = some (.slice b.xa b.len b.cap))
          (first | exact join2 (held5 (unhide HZk).1 hA) (held5 (unhide HZk).2 hA) | exact join2 (held5 (unhide HZk).1 (hA.alloc hA.size _)) (held5 (unhide HZk).2 (hA.alloc hA.size _)))
          (first
            | (go_at_call 11; (with_reducible refine (some_agg 17 0 ⟨#[]⟩ _).mono ?_); rintro e w9 ⟨rfl, hb9⟩; have hA := bnext hA hb9; clear hb9)
            | (go_at_call 10; (with_reducible refine (cat_two (leaf 17 0 ⟨#[]⟩) b _ _ ?_ ?_ ?_).mono ?_); exact at_new rfl; exact unhide HL 17 (by decide) _; exact (unhide HIN _ (bnext (unhide HBk) (hA.alloc hA.size _))).2; rintro e w9 ⟨rfl, hb9, hin⟩; have hA := bnext (hA.alloc hA.size _) hb9; clear hb9)
            | (go_at_call 13; (with_reducible refine (alt_three a _ b _ _ ?_ ?_ (PT.In.later ?_ hin) ?_).mono ?_); exact at_new rfl; exact (unhide HIN _ (bnext (unhide HBk) (hA.alloc hA.size _))).1; exact (Below.refl _ _).alloc (Nat.le_refl _) _; exact (unhide HIN _ (bnext (unhide HBk) (hA.alloc hA.size _))).2; rintro e w9 ⟨rfl, hb9, hin2⟩; have hA := bnext (hA.alloc hA.size _) hb9; clear hb9)
            | (go_at_call 9; (with_reducible refine (unhide H3 _ ?_ _ _ hin2).mono ?_); exact bnext (unhide HBk) hA; rintro e w9 ⟨rU, hrU, vn, NN, rfl, hN, hb9, hNr⟩; have HrU := hide hrU; clear hrU; obtain ⟨an, cn, hvn, -, -⟩ := hN.row.len; subst hvn; have hA := bnext hA hb9; clear hb9))
        cases hu : allOk rU with
        | false =>
          go_wp2_with fail
          go_ret
          exact ⟨rfl, bnext (unhide HBk) hA⟩
        | true =>
          obtain ⟨u1, u2⟩ := abort_told (by rw [← unhide HrA]; exact hok) (by rw [← unhide HrU]; exact hu)
          rw [← unhide HrU] at u1 u2
          rw [← unhide HrA] at u1
          rw [u2]
          have HSW := hide (sameWays_all ((unhide HLk).1.later hA) hN (by rw [(unhide HLk).2, hNr, u1]))
          have HX := hide (bnext (unhide HBk) hA)
          clear u1 u2 hN hNr hA hu hin hin2 HrU
          go_wp2_with (go_at_call 14; refine (unhide HSW).mono ?_; rintro e wa ⟨rfl, hba⟩)
          go_ret
          exact ⟨rfl, bnext (unhide HX) hba⟩
      · obtain ⟨lx, lr, rfl⟩ : ∃ lx lr, L = lx :: lr := by
          cases L with
          | nil => have := (unhide HL7).2; rw [h1] at this; cases this
          | cons lx lr => exact ⟨lx, lr, rfl⟩
        obtain ⟨mx, rfl⟩ : ∃ mx, M = [mx] := by
          have := (unhide HM).2
          rw [h2] at this
          match M, this with
          | [mx], _ => exact ⟨mx, rfl⟩
        have hxl : lx.pr = x := by have := (unhide HL7).2; rw [h1, List.map_cons] at this; exact (List.cons.inj this).1
        have hxm : mx.pr = x := by have := (unhide HM).2; rw [h2, List.map_cons] at this; exact (List.cons.inj this).1
        have hto : mx.to = lx.to := congrArg Prod.fst (hxm.trans hxl.symm)
        have hG : mx.G = lx.G := congrArg Prod.snd (hxm.trans hxl.symm)
        obtain ⟨gl, cl2, hgl, -⟩ := (unhide HL7).1.row.form (by simp)
        obtain ⟨gm, cm2, hgm, -⟩ := (unhide HM).1.row.form (by simp)
        injection hgl with hg1 hg2 hg3
        injection hgm with hg4 hg5 hg6
        subst hg1 hg3 hg4 hg6
        have l0 : w7.cell? ⟨gl, 0, none⟩ = some (.int .i64 (lx.to : Int)) := (unhide HL7).1.row.cell wyV_len rfl (i := 0) (x := lx) rfl (k := 0) rfl
        have l1 : w7.cell? ⟨gl, 1, none⟩ = some (.slice lx.ga lx.G.length lx.gc) := (unhide HL7).1.row.cell wyV_len rfl (i := 0) (x := lx) rfl (k := 1) rfl
        have m0 : w7.cell? ⟨gm, 0, none⟩ = some (.int .i64 (lx.to : Int)) := by rw [← hto]; exact (unhide HM).1.row.cell wyV_len rfl (i := 0) (x := mx) rfl (k := 0) rfl
        have m1 : w7.cell? ⟨gm, 1, none⟩ = some (.slice mx.ga lx.G.length mx.gc) := by rw [← hG]; exact (unhide HM).1.row.cell wyV_len rfl (i := 0) (x := mx) rfl (k := 1) rfl
        have HGL := hide ((unhide HL7).1.gifts lx (List.mem_cons_self ..))
        have HGM := hide ((unhide HM).1.gifts mx (List.mem_cons_self ..))
        unfold Wv.gv at HGL HGM
        rw [hG] at HGM
        obtain ⟨n, hn⟩ : ∃ n, n = (lx :: lr).length := ⟨_, rfl⟩
        have hn1 : 0 < n := by rw [hn]; simp
        have i0 : ∀ W, (Instr.indexAt 27 (.slice (some ⟨gl, 0, none⟩) n cl) (.int .i64 0)).run Tryd.prog W = .ok (.pointer (some ⟨gl, 0, none⟩)) W := fun W => by
          have := idx_run (g := gl) (n := n) (cap := cl) (i := 0) Tryd.underlying27 size_way hn1 W
          simpa using this
        have i1 : ∀ W, (Instr.indexAt 27 (.slice (some ⟨gm, 0, none⟩) 1 cm) (.int .i64 0)).run Tryd.prog W = .ok (.pointer (some ⟨gm, 0, none⟩)) W := fun W => by
          have := idx_run (g := gm) (n := 1) (cap := cm) (i := 0) Tryd.underlying27 size_way (by decide) W
          simpa using this
        rw [← hn, h3]
        dsimp only [List.length_singleton]
        have hn2 : (0 : Int) < (n : Int) := by omega
        have hn3 : ((n : Int) == 0) = false := by rw [beq_eq_false_iff_ne]; omega
        have hn4 : ¬ n = 0 := by omega
        have HN := hide hn
        clear hn hxl hxm hto hG hg2 hg5 h1 h2 h3 HM
        go_wp2_with fail
        have hA : Below w7.heap.size w7 w7.drew := (Below.refl _ _).drew
        go_region_held3 (fun w' => w'.cell? ⟨gl, 0, none⟩ = some (.int .i64 (lx.to : Int)) ∧ w'.cell? ⟨gl, 1, none⟩ = some (.slice lx.ga lx.G.length lx.gc) ∧ w'.cell? ⟨gm, 0, none⟩ = some (.int .i64 (lx.to : Int)) ∧ w'.cell? ⟨gm, 1, none⟩ = some (.slice mx.ga lx.G.length mx.gc))
          (first | exact ⟨l0, l1, m0, m1⟩ | exact ⟨cell_later hA l0, cell_later hA l1, cell_later hA m0, cell_later hA m1⟩)
          (first | (go_at_call 12; refine (sameGifts_same ((unhide HGM).later hA) ((unhide HGL).later hA)).mono ?_; rintro e w8 ⟨rfl, hb8⟩; have hA := bnext hA hb8; clear hb8))
        have HBk := hide (bnext (unhide HB7) hA)
        have HZk := hide (And.intro (row_below (unhide HZ7).1 hA) (row_below (unhide HZ7).2 hA))
        have HLk := hide (show WaysAt w8 w1.heap.size (.slice (some ⟨gl, 0, none⟩) n cl) (lx :: lr) ∧ (lx :: lr).map Wv.pr = rA.1 from ⟨by rw [unhide HN]; exact (unhide HL7).1.later hA, (unhide HL7).2⟩)
        clear hA HN HB7 HZ7 HL7 l0 l1 m0 m1 i0 i1 HGL HGM
        go_wp2_with fail
        have hA : Below w8.heap.size w8 w8.drew := (Below.refl _ _).drew
        go_region_held3 (fun w' => w'.cell? ⟨za, 0, none⟩ = some (.int .i64 a.k) ∧ w'.cell? ⟨za, 1, none⟩ = some (.string a.t) ∧ w'.cell? ⟨za, 2, none⟩ = some (.int .i64 a.n) ∧ w'.cell? ⟨za, 3, none⟩ = some (.string a.nm) ∧ w'.cell? ⟨za, 4, none⟩ = some (.slice a.xa a.len a.cap) ∧ w'.cell? ⟨zb, 0, none⟩ = some (.int .i64 b.k) ∧ w'.cell? ⟨zb, 1, none⟩ = some (.string b.t) ∧ w'.cell? ⟨zb, 2, none⟩ = some (.int .i64 b.n) ∧ w'.cell? ⟨zb, 3, none⟩ = some (.string b.nm) ∧ w'.cell? ⟨zb, 4, none⟩ = some (.slice b.xa b.len b.cap))
          (first | exact join2 (held5 (unhide HZk).1 hA) (held5 (unhide HZk).2 hA) | exact join2 (held5 (unhide HZk).1 (hA.alloc hA.size _)) (held5 (unhide HZk).2 (hA.alloc hA.size _)))
          (first
            | (go_at_call 11; (with_reducible refine (some_agg 17 0 ⟨#[]⟩ _).mono ?_); rintro e w9 ⟨rfl, hb9⟩; have hA := bnext hA hb9; clear hb9)
            | (go_at_call 10; (with_reducible refine (cat_two (leaf 17 0 ⟨#[]⟩) b _ _ ?_ ?_ ?_).mono ?_); exact at_new rfl; exact unhide HL 17 (by decide) _; exact (unhide HIN _ (bnext (unhide HBk) (hA.alloc hA.size _))).2; rintro e w9 ⟨rfl, hb9, hin⟩; have hA := bnext (hA.alloc hA.size _) hb9; clear hb9)
            | (go_at_call 13; (with_reducible refine (alt_three a _ b _ _ ?_ ?_ (PT.In.later ?_ hin) ?_).mono ?_); exact at_new rfl; exact (unhide HIN _ (bnext (unhide HBk) (hA.alloc hA.size _))).1; exact (Below.refl _ _).alloc (Nat.le_refl _) _; exact (unhide HIN _ (bnext (unhide HBk) (hA.alloc hA.size _))).2; rintro e w9 ⟨rfl, hb9, hin2⟩; have hA := bnext (hA.alloc hA.size _) hb9; clear hb9)
            | (go_at_call 9; (with_reducible refine (unhide H3 _ ?_ _ _ hin2).mono ?_); exact bnext (unhide HBk) hA; rintro e w9 ⟨rU, hrU, vn, NN, rfl, hN, hb9, hNr⟩; have HrU := hide hrU; clear hrU; obtain ⟨an, cn, hvn, -, -⟩ := hN.row.len; subst hvn; have hA := bnext hA hb9; clear hb9))
        cases hu : allOk rU with
        | false =>
          go_wp2_with fail
          go_ret
          exact ⟨rfl, bnext (unhide HBk) hA⟩
        | true =>
          obtain ⟨u1, u2⟩ := abort_told (by rw [← unhide HrA]; exact hok) (by rw [← unhide HrU]; exact hu)
          rw [← unhide HrU] at u1 u2
          rw [← unhide HrA] at u1
          rw [u2]
          have HSW := hide (sameWays_all ((unhide HLk).1.later hA) hN (by rw [(unhide HLk).2, hNr, u1]))
          have HX := hide (bnext (unhide HBk) hA)
          clear u1 u2 hN hNr hA hu hin hin2 HrU
          go_wp2_with (go_at_call 14; refine (unhide HSW).mono ?_; rintro e wa ⟨rfl, hba⟩)
          go_ret
          exact ⟨rfl, bnext (unhide HX) hba⟩
end Go.Proofs.YteblcdgjjhodeabDoor
