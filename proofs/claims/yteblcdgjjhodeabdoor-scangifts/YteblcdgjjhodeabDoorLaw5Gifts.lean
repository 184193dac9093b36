/- Who is given something changes nothing: ScanGifts is true of any rules, any pattern, any text and place. -/
import Derived.Test.YteblcdgjjhodeabDoorLaw5K
namespace Go.Proofs.YteblcdgjjhodeabDoor
open Go.RowKit

/-- All ways end behind where they began, and in the text. -/
def Rg (s : ByteArray) (i : Nat) (q : Sq) : Prop := ∀ x ∈ q.1, x.w = 3 → i ≤ x.a ∧ x.a ≤ s.size
section
variable {s : ByteArray} {R : ByteArray → Option PT} {dg : Nat → ByteArray} {i : Nat}
theorem rg_put {x : Ev} (hx : x.w = 3 → i ≤ x.a ∧ x.a ≤ s.size) {q : Sq} (h : Rg s i q) : Rg s i (put x q) := fun y hy => by
  rcases List.mem_cons.1 hy with rfl | hy
  · exact hx
  · exact h y hy
theorem rg_no {x : Ev} (hx : x.w ≠ 3) {q : Sq} (h : Rg s i q) : Rg s i (put x q) := rg_put (fun e => absurd e hx) h
theorem rg_thn {p q : Sq} (hp : Rg s i p) (hq : Rg s i q) : Rg s i (thn p q) := by
  unfold thn
  split
  · intro x hx
    rcases List.mem_append.1 hx with h | h
    · exact hp x h
    · exact hq x h
  · exact hp
theorem rg_end (n : Nat) : Rg s i ([], n) := fun _ h => by cases h
theorem rg_nil : Rg s i nil := fun _ h => by cases h
theorem rg_way {e : Nat} (g : List Gft) (h : i ≤ e ∧ e ≤ s.size) : Rg s i (one (wy e g)) := fun x hx => by
  rw [List.mem_singleton.1 hx]
  exact fun _ => h
theorem rg_bnd {n : Nat} {f : Nat → List Gft → Sq} (hf : ∀ e g, i ≤ e → e ≤ s.size → Rg s e (f e g)) : ∀ l, (∀ x ∈ l, x.w = 3 → i ≤ x.a ∧ x.a ≤ s.size) → Rg s i (bnd l n f)
  | [], _ => rg_end n
  | x :: l, h => by
    have ih := rg_bnd (n := n) hf l fun y hy => h y (List.mem_cons_of_mem _ hy)
    rw [bnd]
    split
    · rename_i hw
      have hx := h x (List.mem_cons_self ..) hw
      exact rg_thn (fun y hy hy3 => by have := hf x.a x.g hx.1 hx.2 y hy hy3; exact ⟨by omega, this.2⟩) ih
    · rename_i hw
      exact rg_no hw ih
theorem rg_bd {q : Sq} {f : Nat → List Gft → Sq} (hq : Rg s i q) (hf : ∀ e g, i ≤ e → e ≤ s.size → Rg s e (f e g)) : Rg s i (bd q f) := rg_bnd hf q.1 hq
theorem rg_ite {c : Prop} [Decidable c] {p q : Sq} (hp : c → Rg s i p) (hq : ¬ c → Rg s i q) : Rg s i (if c then p else q) := by
  split
  · exact hp (by assumption)
  · exact hq (by assumption)
theorem rg_arbs (g : List Gft) : ∀ n e, i ≤ e → e + n ≤ s.size + 1 → Rg s i (arbs g n e)
  | 0, _, _, _ => fun x hx => by rw [List.mem_singleton.1 hx]; exact fun h => absurd h (by decide)
  | n + 1, e, h1, h2 => rg_no (by decide) (rg_put (fun _ => ⟨h1, by show e ≤ s.size; omega⟩) (rg_arbs g n (e + 1) (by omega) (by omega)))
theorem rg_hs : Rg s i (one hs) := fun x hx => by rw [List.mem_singleton.1 hx]; exact fun h => absurd h (by decide)
theorem rg_bxs (t : ByteArray) (g : List Gft) : ∀ n e, i ≤ e → Rg s i (bxs s t g n e)
  | 0, _, _ => rg_hs
  | n + 1, e, h1 => by
    have hge := unt_ge s t true _ e (Nat.le_refl _)
    rw [bxs]
    refine rg_ite (fun h => rg_no (by decide) (rg_put (fun _ => ⟨by show i ≤ unt s t true e; omega, by show unt s t true e ≤ s.size; omega⟩) (rg_bxs t g n _ (by omega)))) (fun _ => rg_hs)
theorem rg_bls (g : List Gft) : ∀ n e, i ≤ e → Rg s i (bls s g n e)
  | 0, _, _ => rg_hs
  | n + 1, e, h1 => by
    rw [bls]
    cases hp : prs s e with
    | none => exact rg_hs
    | some t =>
      have := prs_gt hp
      exact rg_no (by decide) (rg_put (fun _ => ⟨by show i ≤ t; omega, this.2⟩) (rg_bls g n t (by omega)))
theorem rg_cats {f : PT → Nat → List Gft → Sq} {T : PT} : ∀ m j i g, (∀ k, k ≤ j + m → ∀ i g, i ≤ s.size → Rg s i (f (T.kid k) i g)) → i ≤ s.size → Rg s i (cats f T m j i g)
  | 0, j, _, _, hf, hi => hf j (by omega) _ _ hi
  | m + 1, j, _, _, hf, hi => rg_bd (hf j (by omega) _ _ hi) fun e g' _ he => rg_no (by decide) (rg_cats m (j + 1) e g' (fun k hk => hf k (by omega)) he)
theorem rg_alts {f : PT → Nat → List Gft → Sq} {T : PT} (g : List Gft) : ∀ m j, (∀ k, k < j + m → Rg s i (f (T.kid k) i g)) → Rg s i (alts f T i g m j)
  | 0, _, _ => rg_nil
  | m + 1, j, hf => rg_no (by decide) (rg_thn (hf j (by omega)) (rg_alts g m (j + 1) (fun k hk => hf k (by omega))))
theorem rg_agn {f : PT → Nat → List Gft → Sq} {T : PT} (hf : ∀ i g, i ≤ s.size → Rg s i (f (T.kid 0) i g)) : ∀ m i g, i ≤ s.size → Rg s i (agn f T m i g)
  | 0, _, _, _ => rg_end 3
  | m + 1, i, g, hi => rg_put (fun _ => ⟨Nat.le_refl _, hi⟩) (rg_no (by decide) (rg_bd (hf i g hi) fun e g' _ he => rg_no (by decide) (rg_ite (fun _ => rg_nil) fun _ => rg_agn hf m e g' he)))
theorem D_rg (hR : ∀ nm U, R nm = some U → FineS U) : ∀ n T i g, FineS T → i ≤ s.size → Rg s i (D s R dg n T i g)
  | 0, _, _, _, _, _ => rg_end 3
  | n + 1, T, i, g, hT, hi => by
    have ih := D_rg hR n
    have ho := hT.ok
    have hkid : ∀ k, k < T.len → ∀ i g, i ≤ s.size → Rg s i (D s R dg n (T.kid k) i g) := fun k hk i g h => ih _ i g (hT.kid hk) h
    rw [D]
    refine rg_no (by decide) (rg_ite (fun _ => rg_end 1) fun _ => rg_ite (fun _ => ?_) fun _ => rg_ite (fun q => ?_) fun _ => rg_ite (fun q => ?_) fun _ => rg_ite (fun _ => rg_arbs g _ _ (Nat.le_refl _) (by omega)) fun _ => rg_ite (fun _ => rg_bxs _ g _ _ (Nat.le_refl _)) fun _ => rg_ite (fun _ => rg_bls g _ _ (Nat.le_refl _)) fun _ => rg_ite (fun q => ?_) fun _ => rg_ite (fun q => ?_) fun _ => rg_ite (fun q => ?_) fun _ => rg_ite (fun _ => ?_) fun _ => rg_ite (fun _ => rg_no (by show (2 : Nat) ≠ 3; decide) (rg_way _ ⟨Nat.le_refl _, hi⟩)) fun _ => ?_)
    · intro x hx
      rcases List.mem_cons.1 hx with rfl | hx
      · exact fun _ => ⟨Nat.le_refl _, hi⟩
      · rw [List.mem_singleton.1 hx]; exact fun h => absurd h (by decide)
    · have hl := ho.2.2.2.2 (.inl q)
      exact rg_agn (hkid 0 (by omega)) n i g hi
    · exact rg_alts g T.len 0 (fun k hk => hkid k (by omega) i g hi)
    · have hl := ho.2.2.2.1 (.inl q)
      exact rg_cats (T.len - 1) 0 i g (fun k hk => hkid k (by omega)) hi
    · have hl := ho.2.2.2.2 (.inr (.inl q))
      exact rg_bd (hkid 0 (by omega) i g hi) fun e g' h1 h2 => rg_no (by decide) (rg_way _ ⟨Nat.le_refl _, h2⟩)
    · have hl := ho.2.2.2.2 (.inr (.inr q))
      exact rg_bd (hkid 0 (by omega) i g hi) fun e g' h1 h2 => rg_no (by show (2 : Nat) ≠ 3; decide) (rg_way _ ⟨Nat.le_refl _, h2⟩)
    · split
      · rename_i U hU
        exact ih U i g (hR _ U hU) hi
      · exact rg_end 2
    · cases hq : onl s T i with
      | none => exact rg_nil
      | some e => exact rg_way g ⟨onl_ge hi ho hq, onl_le hi ho hq⟩
end
theorem ruleOf_mem {nm : ByteArray} {U : PT} : ∀ {RL : List (ByteArray × PT)}, ruleOf nm RL = some U → ∃ (i : Nat) (r : ByteArray × PT), RL[i]? = some r ∧ r.2 = U
  | [], h => by cases h
  | x :: l, h => by
    rw [ruleOf] at h
    split at h
    · exact ⟨0, x, rfl, Option.some.inj h⟩
    · obtain ⟨i, r, h1, h2⟩ := ruleOf_mem h
      exact ⟨i + 1, r, by simpa using h1, h2⟩

/-- A pattern with a name, of one other. -/
def gifP (k : Int) (b : Nat) (a : PT) : PT := ⟨k, ⟨#[]⟩, 0, ⟨#[87]⟩, some ⟨b, 0, none⟩, b, 0, 1, 1, fun _ => a⟩
theorem gifP_in {w : World} {k : Int} {b : Nat} {a : PT} (hk : 1 ≤ k ∧ k ≤ 24) (h : w.heap[b]? = some (.cells #[.int .i64 a.k, .string a.t, .int .i64 a.n, .string a.nm, .slice a.xa a.len a.cap] 25 (0, 0))) (ha : a.In w) : (gifP k b a).In w := by
  refine ⟨by omega, by unfold maxLen; decide, by decide, by unfold maxLen; decide, by unfold maxLen; decide, Nat.le_refl _, fun _ => rfl, fun i => ⟨?_, ha⟩⟩
  obtain ⟨i, hi⟩ := i
  obtain rfl : i = 0 := by omega
  exact held5 h (Below.refl _ _)
section
variable {s : ByteArray} {R : ByteArray → Option PT} {dg : Nat → ByteArray}
theorem W_cond (n b : Nat) (a : PT) (i : Nat) (g : List Gft) : W s R dg (n + 1) (gifP 21 b a) i g = bd (W s R dg n a i g) fun e g' => one (wy e (g' ++ [(⟨#[87]⟩, sub s i e)])) := by
  unfold W
  have hk : (gifP 21 b a).k = 21 := rfl
  rw [D, hk, if_neg (show ¬ (21 : Int) = 17 by decide), if_neg (show ¬ (21 : Int) = 16 by decide), if_neg (show ¬ (21 : Int) = 20 by decide), if_neg (show ¬ (21 : Int) = 19 by decide), if_neg (show ¬ (21 : Int) = 13 by decide), if_neg (show ¬ (21 : Int) = 7 by decide), if_neg (show ¬ (21 : Int) = 14 by decide), if_neg (show ¬ (21 : Int) = 18 by decide), if_pos (show (21 : Int) = 21 from rfl), onlyW_tk, onlyW_bd]
  exact bd_congr _ fun e g' => onlyW_hs _
theorem W_imm (n b : Nat) (a : PT) (i : Nat) (g : List Gft) : W s R dg (n + 1) (gifP 22 b a) i g = W s R dg n a i g := by
  unfold W
  have hk : (gifP 22 b a).k = 22 := rfl
  rw [D, hk, if_neg (show ¬ (22 : Int) = 17 by decide), if_neg (show ¬ (22 : Int) = 16 by decide), if_neg (show ¬ (22 : Int) = 20 by decide), if_neg (show ¬ (22 : Int) = 19 by decide), if_neg (show ¬ (22 : Int) = 13 by decide), if_neg (show ¬ (22 : Int) = 7 by decide), if_neg (show ¬ (22 : Int) = 14 by decide), if_neg (show ¬ (22 : Int) = 18 by decide), if_neg (show ¬ (22 : Int) = 21 by decide), if_pos (show (22 : Int) = 22 from rfl), onlyW_tk, onlyW_bd]
  refine (bd_congr _ (k := fun e g => one (wy e g)) fun e g' => ?_).trans (bd_unit _)
  rw [onlyW_put (by show (2 : Nat) ≠ 3; decide)]
  rfl
end
theorem bnd_map (F : Nat → List Gft → List Gft) (n : Nat) : ∀ l : List Ev, (∀ x ∈ l, x.w = 3) → bnd l n (fun e g => one (wy e (F e g))) = (l.map fun x => wy x.a (F x.a x.g), n)
  | [], _ => rfl
  | x :: l, h => by
    rw [bnd, if_pos (h x (List.mem_cons_self ..)), bnd_map F n l fun y hy => h y (List.mem_cons_of_mem _ hy)]
    rfl
/-- What is told of a pattern to whose name something is given. -/
theorem cond_told {RL : List (ByteArray × PT)} {dg : Nat → ByteArray} {a : PT} {b : Nat} {s : ByteArray} {i : Int} (hA : allOk (waysOf RL dg a s i 4096 20000) = true) (hT : allOk (waysOf RL dg (gifP 21 b a) s i 4096 20000) = true) :
    ∃ j : Nat, i = j ∧ j ≤ s.size ∧ s.size ≤ 65536 ∧ (waysOf RL dg (gifP 21 b a) s i 4096 20000).1 = ((waysOf RL dg a s i 4096 20000).1.map fun x => (x.1, x.2 ++ [(⟨#[87]⟩, sub s j x.1)])) ∧ (waysOf RL dg (gifP 21 b a) s i 4096 20000).2.1 = (waysOf RL dg a s i 4096 20000).2.1 ∧ ∀ x ∈ (waysOf RL dg a s i 4096 20000).1, j ≤ x.1 ∧ x.1 ≤ s.size := by
  obtain ⟨j, rfl, hj, hw, h3, -, -, he⟩ := waysOf_ok hA
  obtain ⟨j', e', -, -, h3', -, -, he'⟩ := waysOf_ok hT
  have : j' = j := by omega
  subst this
  obtain ⟨q1, q2, q3, -, -⟩ := wrongR_ok hw
  have hrg := D_rg (s := s) (R := fun nm => ruleOf nm RL) (dg := dg) (fun nm U hU => by
    obtain ⟨k, r, h1, rfl⟩ := ruleOf_mem hU
    exact (right_of ((rules_right q2).2 k r h1).2.2).1) 20001 a j' [] (right_of q1).1 hj
  refine ⟨j', rfl, hj, q3, ?_⟩
  rw [he, he']
  have hW : onlyW (D s (fun nm => ruleOf nm RL) dg 20001 (gifP 21 b a) j' []) = bd (onlyW (D s (fun nm => ruleOf nm RL) dg 20001 a j' [])) (fun e g => one (wy e (g ++ [(⟨#[87]⟩, sub s j' e)]))) := by
    have h1 : W s (fun nm => ruleOf nm RL) dg 20001 (gifP 21 b a) j' [] = bd (W s (fun nm => ruleOf nm RL) dg 20000 a j' []) (fun e g => one (wy e (g ++ [(⟨#[87]⟩, sub s j' e)]))) := W_cond 20000 b a j' []
    have h2 : (W s (fun nm => ruleOf nm RL) dg 20001 (gifP 21 b a) j' []).2 ≠ 3 := h3'
    rw [h1] at h2
    rcases (le_bd (W_le (s := s) (R := fun nm => ruleOf nm RL) (dg := dg) (n := 20000) (m := 20001) (by omega) a j' []) (f := fun e g => one (wy e (g ++ [(⟨#[87]⟩, sub s j' e)]))) (f' := fun e g => one (wy e (g ++ [(⟨#[87]⟩, sub s j' e)]))) fun _ _ => le_refl _) with e | ⟨e, _⟩
    · exact h1.trans e
    · exact absurd e h2
  generalize D s (fun nm => ruleOf nm RL) dg 20001 (gifP 21 b a) j' [] = p at hW ⊢
  generalize D s (fun nm => ruleOf nm RL) dg 20001 a j' [] = q at hW hrg ⊢
  have hww : ∀ x ∈ wys q.1, x.w = 3 := fun x hx => by simpa using (List.mem_filter.1 hx).2
  have hb : onlyW p = ((wys q.1).map fun x => wy x.a (x.g ++ [(⟨#[87]⟩, sub s j' x.a)]), q.2) := hW.trans (bnd_map (fun e g => g ++ [((⟨#[87]⟩ : ByteArray), sub s j' e)]) q.2 (wys q.1) hww)
  have h1 : wys p.1 = (wys q.1).map fun x => wy x.a (x.g ++ [(⟨#[87]⟩, sub s j' x.a)]) := congrArg Prod.fst hb
  have h2 : (onlyW p).2 = q.2 := by rw [hb]
  have h2 : p.2 = q.2 := h2
  unfold prsW
  rw [h1, h2]
  refine ⟨by rw [List.map_map, List.map_map]; rfl, rfl, fun x hx => ?_⟩
  obtain ⟨y, hy, rfl⟩ := List.mem_map.1 hx
  exact hrg y (List.mem_filter.1 hy).1 (hww y hy)
theorem imm_told {RL : List (ByteArray × PT)} {dg : Nat → ByteArray} {a : PT} {b : Nat} {s : ByteArray} {i : Int} (hA : allOk (waysOf RL dg a s i 4096 20000) = true) (hT : allOk (waysOf RL dg (gifP 22 b a) s i 4096 20000) = true) :
    (waysOf RL dg (gifP 22 b a) s i 4096 20000).1 = (waysOf RL dg a s i 4096 20000).1 ∧ (waysOf RL dg (gifP 22 b a) s i 4096 20000).2.1 = (waysOf RL dg a s i 4096 20000).2.1 :=
  same_of_le hT hA fun j _ _ => ⟨20001, Nat.le_refl _, by rw [show (20001 : Nat) = 20000 + 1 from rfl, W_imm]; exact W_le (by omega) a j []⟩

theorem slice_gifts {g n cap k : Nat} (hk : k ≤ n) (hc : n ≤ cap) (w : World) :
    (Instr.sliceAt 32 (.slice (some ⟨g, 0, none⟩) n cap) none (some (.int .i64 (k : Int))) none).run Tryd.prog w = .ok (.slice (some ⟨g, 0, none⟩) k cap) w := by
  have hs := size_gift
  cases hq : Tryd.prog.info? 39 with
  | none => simp [hq] at hs
  | some i =>
    have hz : i.size = 2 := by simpa [hq] using hs
    have he : Tryd.prog.underlying 32 = some (.slice (Tryd.prog.elem 32)) := by kernel_rfl
    have he2 : Tryd.prog.elem 32 = 39 := by kernel_rfl
    rw [run_sliceAt_slice _ _ _ _ _ _ he, run_slice_h _ _ _ _ _ he .i64 (k : Int) (by omega) (by omega), he2]
    by_cases h1 : cap = 0
    · simp [sizeOf, typeInfo, sliced, hq, hz, h1]
    · simp [sizeOf, typeInfo, sliced, hq, hz, h1, Addr.add_lit]
theorem tabs_gifts {w : World} (h : laidMetH Tryd.prog Rows.scanGiftsRow.laid w) : Shapes w ∧ ItoaSays dgI w := by
  have e : (Rows.scanGiftsRow.laid.filter fun x => x.2.handleName?.isSome) = [] := by kernel_rfl
  have h' : laidMet Tryd.prog Rows.scanGiftsRow.laid w := by
    have hp := h
    unfold laidMetH at hp
    rw [e] at hp
    exact hp
  refine ⟨shapes_of (rest := []) (laidMet.tail (laidMet.tail (laidMet.tail h'))), itoa_says ?_⟩
  exact Lib.tabIs_of_head (g := 1) (t := 124) (e := 111) (n := 20) (by kernel_rfl) (by kernel_rfl) Tryd.underlying124 Tryd.underlying111 (by kernel_rfl) (by kernel_rfl) (rest := _) (show laidMet Tryd.prog (("internal/strconv.uint64pow10", Lib.tabData .u64 Lib.pow10Tab) :: _) w from h'.tail.tail)

set_option maxRecDepth 100000 in
set_option maxHeartbeats 8000000 in
theorem scanGifts_walk {RL : List (ByteArray × PT)} {rv : Value} {dg : Nat → ByteArray} (a : PT) (s : ByteArray) (i : Int) (w : World) (hV : RVal w RL rv) (ha : a.In w) (hs : s.size ≤ maxLen) (hS : Shapes w) (hIt : ItoaSays dg w) :
    Calls Tryd.prog 4 #[rv, pv a, .string s, .int .i64 i] w fun e w' => e = .returned (.bool true) ∧ Below w.heap.size w w' := by
  have HA := hide (fun W (h : Below w.heap.size w W) => alive5 W (hIt.later h) (hS.later h))
  have HIN := hide (fun W (h : Below w.heap.size w W) => PT.In.later h ha)
  obtain ⟨rA, hrA⟩ : ∃ r, r = waysOf RL dg a s i 4096 20000 := ⟨_, rfl⟩
  have H1 := hide (fun W (h : Below w.heap.size w W) => show Calls Tryd.prog 9 #[rv, .agg #[.int .i64 a.k, .string a.t, .int .i64 a.n, .string a.nm, .slice a.xa a.len a.cap], .string s, .int .i64 i] W (AllPost rA W) from by rw [hrA]; exact all_any dg a s i W (hV.later h) (hIt.later h) (PT.In.later h ha) (hS.later h) hs)
  have H2 := hide (fun W (h : Below w.heap.size w W) bb (hin : (gifP 21 bb a).In W) => show Calls Tryd.prog 9 #[rv, .agg #[.int .i64 21, .string ⟨#[]⟩, .int .i64 0, .string ⟨#[87]⟩, .slice (some ⟨bb, 0, none⟩) 1 1], .string s, .int .i64 i] W (AllPost (waysOf RL dg (gifP 21 bb a) s i 4096 20000) W) from all_any dg (gifP 21 bb a) s i W (hV.later h) (hIt.later h) hin (hS.later h) hs)
  have H3 := hide (fun W (h : Below w.heap.size w W) bb (hin : (gifP 22 bb a).In W) => show Calls Tryd.prog 9 #[rv, .agg #[.int .i64 22, .string ⟨#[]⟩, .int .i64 0, .string ⟨#[87]⟩, .slice (some ⟨bb, 0, none⟩) 1 1], .string s, .int .i64 i] W (AllPost (waysOf RL dg (gifP 22 bb a) s i 4096 20000) W) from all_any dg (gifP 22 bb a) s i W (hV.later h) (hIt.later h) hin (hS.later h) hs)
  have HrA := hide hrA
  unfold pv
  clear hV ha hs hS hIt hrA
  go_enter Tryd.func4, Tryd.ntmps4
  go_wp2_with fail
  have hb0 : Below w.heap.size w (w.alloc (.cells #[.int .i64 a.k, .string a.t, .int .i64 a.n, .string a.nm, .slice a.xa a.len a.cap] 25)) := (Below.refl _ _).alloc (Nat.le_refl _) _
  have ga : (w.alloc (.cells #[.int .i64 a.k, .string a.t, .int .i64 a.n, .string a.nm, .slice a.xa a.len a.cap] 25)).heap[w.heap.size]? = some (.cells #[.int .i64 a.k, .string a.t, .int .i64 a.n, .string a.nm, .slice a.xa a.len a.cap] 25 (0, 0)) := at_new rfl
  refine (unhide HA _ hb0).mono ?_
  rintro e w1 ⟨rfl, hb1⟩
  obtain ⟨za, hza⟩ : ∃ za, za = w.heap.size := ⟨_, rfl⟩
  rw [← hza] at ga ⊢
  have ga := row_below ga hb1
  have HZ := hide ga
  have HB1 := hide (bnext hb0 hb1)
  clear hb0 hb1 hza HA
  obtain ⟨y0, y1, y2, y3, y4⟩ := held5 ga (Below.refl _ _)
  clear ga
  go_wp2_with fail
  refine (unhide H1 w1 (unhide HB1)).mono ?_
  rintro e w2 ⟨vl, L, rfl, hL, hb2, hLr⟩
  obtain ⟨al, cl, hvl, -, -⟩ := hL.row.len
  subst hvl
  have HZ2 := hide (row_below (unhide HZ) hb2)
  have HB2 := hide (bnext (unhide HB1) hb2)
  have HLL := hide (And.intro hL hLr)
  clear hL hLr hb2 HZ HB1 y0 y1 y2 y3 y4 H1
  obtain ⟨y0, y1, y2, y3, y4⟩ := held5 (unhide HZ2) (Below.refl _ _)
  go_wp2_with fail
  have hba : Below w2.heap.size w2 (w2.alloc (.cells #[.int .i64 a.k, .string a.t, .int .i64 a.n, .string a.nm, .slice a.xa a.len a.cap] 25)) := (Below.refl _ _).alloc (Nat.le_refl _) _
  have hin := gifP_in (k := 21) (by decide) (at_new (w := w2) (o := .cells #[.int .i64 a.k, .string a.t, .int .i64 a.n, .string a.nm, .slice a.xa a.len a.cap] 25) rfl) (unhide HIN _ (bnext (unhide HB2) hba))
  refine (unhide H2 _ (bnext (unhide HB2) hba) _ hin).mono ?_
  rintro e w3 ⟨vm, M, rfl, hM, hb3, hMr⟩
  obtain ⟨am, cm, hvm, -, -⟩ := hM.row.len
  subst hvm
  have HB3 := hide (bnext (bnext (unhide HB2) hba) hb3)
  have HZ3 := hide (row_below (unhide HZ2) (bnext hba hb3))
  have HL3 := hide (And.intro ((unhide HLL).1.later (bnext hba hb3)) (unhide HLL).2)
  have HM3 := hide (And.intro hM hMr)
  obtain ⟨bm, hbm⟩ : ∃ bm, bm = w2.heap.size := ⟨_, rfl⟩
  rw [← hbm] at HM3 ⊢
  clear hM hMr hb3 hba hin HB2 HZ2 HLL H2 y0 y1 y2 y3 y4 hbm
  obtain ⟨y0, y1, y2, y3, y4⟩ := held5 (unhide HZ3) (Below.refl _ _)
  go_wp2_with fail
  have hba : Below w3.heap.size w3 (w3.alloc (.cells #[.int .i64 a.k, .string a.t, .int .i64 a.n, .string a.nm, .slice a.xa a.len a.cap] 25)) := (Below.refl _ _).alloc (Nat.le_refl _) _
  have hin := gifP_in (k := 22) (by decide) (at_new (w := w3) (o := .cells #[.int .i64 a.k, .string a.t, .int .i64 a.n, .string a.nm, .slice a.xa a.len a.cap] 25) rfl) (unhide HIN _ (bnext (unhide HB3) hba))
  refine (unhide H3 _ (bnext (unhide HB3) hba) _ hin).mono ?_
  rintro e w4 ⟨vn, NN, rfl, hN, hb4, hNr⟩
  obtain ⟨an, cn, hvn, -, -⟩ := hN.row.len
  subst hvn
  have HB4 := hide (bnext (bnext (unhide HB3) hba) hb4)
  have HL4 := hide (And.intro ((unhide HL3).1.later (bnext hba hb4)) (unhide HL3).2)
  have HM4 := hide (And.intro ((unhide HM3).1.later (bnext hba hb4)) (unhide HM3).2)
  have HN4 := hide (And.intro hN hNr)
  obtain ⟨bn, hbn⟩ : ∃ bn, bn = w3.heap.size := ⟨_, rfl⟩
  rw [← hbn] at HN4 ⊢
  clear hN hNr hb4 hba hin HB3 HZ3 HL3 HM3 H3 y0 y1 y2 y3 y4 hbn
  obtain ⟨rM, hrM⟩ : ∃ r, r = waysOf RL dg (gifP 21 bm a) s i 4096 20000 := ⟨_, rfl⟩
  obtain ⟨rN, hrN⟩ : ∃ r, r = waysOf RL dg (gifP 22 bn a) s i 4096 20000 := ⟨_, rfl⟩
  have HrM := hide hrM
  have HrN := hide hrN
  rw [← hrM] at HM4 ⊢
  rw [← hrN] at HN4 ⊢
  clear hrM hrN
  cases hok : allOk rA with
  | false =>
    go_wp2_with fail
    go_ret
    exact ⟨rfl, unhide HB4⟩
  | true =>
    cases his : allOk rM with
    | false =>
      go_wp2_with fail
      go_ret
      exact ⟨rfl, unhide HB4⟩
    | true =>
      cases hwas : allOk rN with
      | false =>
        go_wp2_with fail
        go_ret
        exact ⟨rfl, unhide HB4⟩
      | true =>
        obtain ⟨j, rfl, hj, hsz, hM1, hM2, hrange⟩ := cond_told (by rw [← unhide HrA]; exact hok) (by rw [← unhide HrM]; exact his)
        rw [← unhide HrA, ← unhide HrM] at hM1 hM2
        rw [← unhide HrA] at hrange
        obtain ⟨hN1, hN2⟩ := imm_told (by rw [← unhide HrA]; exact hok) (by rw [← unhide HrN]; exact hwas)
        rw [← unhide HrA, ← unhide HrN] at hN1 hN2
        rw [hM2, hN2]
        obtain ⟨cut, hcut⟩ : ∃ cut, cut = rA.2.1 := ⟨_, rfl⟩
        rw [← hcut]
        have hcc : (cut != cut) = false := by simp
        have hlen : M.length = L.length := by
          have h1 := congrArg List.length (unhide HM4).2
          have h2 := congrArg List.length (unhide HL4).2
          rw [hM1, List.length_map, List.length_map] at h1
          rw [List.length_map] at h2
          omega
        have HSW := hide (sameWays_all (unhide HL4).1 (unhide HN4).1 (by rw [(unhide HL4).2, (unhide HN4).2, hN1]))
        have HP := hide (And.intro hM1 hrange)
        rw [hlen]
        have HJ := hide (And.intro hj (And.intro hsz hlen))
        clear hM1 hM2 hN1 hN2 hcut hrange hok his hwas HrA HrM HrN HN4 hj hlen
        go_wp2_with fail
        refine (unhide HSW).mono ?_
        rintro e w6 ⟨rfl, hb6⟩
        have HB6 := hide (bnext (unhide HB4) hb6)
        have HL6 := hide (And.intro ((unhide HL4).1.later hb6) (unhide HL4).2)
        have HM6 := hide (And.intro ((unhide HM4).1.later hb6) (unhide HM4).2)
        clear hb6 HB4 HL4 HM4 HSW
        go_wp2_with fail
        have hLm := (unhide HL6).1.row.max
        unfold maxLen at hLm
        go_loopw [86] (fun q wr => ∃ k : Nat, k ≤ L.length ∧ q = .int .i64 (k : Int) ∧ Below w6.heap.size w6 wr) (fun q _ => L.length - (intOf q).toNat)
        case atStart => exact ⟨0, Nat.zero_le _, rfl, Below.refl _ _⟩
        case round =>
          obtain ⟨k, hk, rfl, hb⟩ := hrel
          rcases Nat.lt_or_ge k L.length with hlt | hge
          · have hlt' : (k : Int) < (L.length : Int) := by omega
            have hkM : k < M.length := by rw [(unhide HJ).2.2]; exact hlt
            obtain ⟨lx, hlx⟩ : ∃ x, L[k]? = some x := ⟨_, List.getElem?_eq_getElem hlt⟩
            obtain ⟨mx, hmx⟩ : ∃ x, M[k]? = some x := ⟨_, List.getElem?_eq_getElem hkM⟩
            have hL := (unhide HL6).1.later hb
            have hM := (unhide HM6).1.later hb
            have hpr : mx.pr = (lx.to, lx.G ++ [(⟨#[87]⟩, sub s j lx.to)]) := by
              have h1 := congrArg (fun l : List (Nat × List Gft) => l[k]?) (unhide HM6).2
              have h2 := congrArg (fun l : List (Nat × List Gft) => l[k]?) (unhide HL6).2
              simp only [List.getElem?_map, hmx, hlx, Option.map_some] at h1 h2
              rw [(unhide HP).1, List.getElem?_map, ← h2] at h1
              exact Option.some.inj h1
            have hrg := (unhide HP).2 lx.pr (by rw [← (unhide HL6).2]; exact List.mem_map_of_mem (List.mem_of_getElem? hlx))
            have hto : mx.to = lx.to := congrArg Prod.fst hpr
            have hG : mx.G = lx.G ++ [(⟨#[87]⟩, sub s j lx.to)] := congrArg Prod.snd hpr
            obtain ⟨gl, cl2, hgl, -⟩ := hL.row.form (by intro e; rw [e] at hlt; simp at hlt)
            obtain ⟨gm, cm2, hgm, -⟩ := hM.row.form (by intro e; rw [e] at hkM; simp at hkM)
            have hgM := hM.gifts mx (List.mem_of_getElem? hmx)
            have hgL := hL.gifts lx (List.mem_of_getElem? hlx)
            obtain ⟨gg, cg2, hgg, -⟩ := hgM.form (by rw [hG]; simp)
            unfold Wv.gv at hgg hgM hgL
            injection hgl with hg1 hg2 hg3
            rw [(unhide HJ).2.2] at hgm
            injection hgm with hg4 hg5 hg6
            injection hgg with hg7 hg8 hg9
            clear hg2 hg5 hg8 hg9
            subst hg1 hg3 hg4 hg6
            rw [hg7, hG] at hgM
            obtain ⟨n, hn⟩ : ∃ n, n = lx.G.length := ⟨_, rfl⟩
            obtain ⟨n1, hn1⟩ : ∃ n1, n1 = n + 1 := ⟨_, rfl⟩
            have hln : (lx.G ++ [((⟨#[87]⟩ : ByteArray), sub s j lx.to)]).length = n1 := by rw [List.length_append, List.length_singleton, hn1, hn]
            have o0 : wr.cell? ⟨gl, k * 2, none⟩ = some (.int .i64 (lx.to : Int)) := hL.row.cell wyV_len rfl hlx (k := 0) rfl
            have o1 : wr.cell? ⟨gl, k * 2 + 1, none⟩ = some (.slice lx.ga n lx.gc) := by rw [hn]; exact hL.row.cell wyV_len rfl hlx (k := 1) rfl
            have p0 : wr.cell? ⟨gm, k * 2, none⟩ = some (.int .i64 (lx.to : Int)) := by rw [← hto]; exact hM.row.cell wyV_len (by rw [(unhide HJ).2.2]) hmx (k := 0) rfl
            have p1 : wr.cell? ⟨gm, k * 2 + 1, none⟩ = some (.slice (some ⟨gg, 0, none⟩) n1 mx.gc) := by
              have := hM.row.cell wyV_len (by rw [(unhide HJ).2.2]) hmx (k := 1) (u := .slice mx.ga mx.G.length mx.gc) rfl
              rw [hg7, hG, hln] at this
              exact this
            have hlast : (lx.G ++ [((⟨#[87]⟩ : ByteArray), sub s j lx.to)])[n]? = some (⟨#[87]⟩, sub s j lx.to) := by rw [hn, List.getElem?_append_right (Nat.le_refl _), Nat.sub_self]; rfl
            have e0 : wr.cell? ⟨gg, n * 2, none⟩ = some (.string ⟨#[87]⟩) := hgM.cell gfV_len rfl hlast (k := 0) rfl
            have e1 : wr.cell? ⟨gg, n * 2 + 1, none⟩ = some (.string (s.extract j lx.to)) := hgM.cell gfV_len rfl hlast (k := 1) rfl
            have i0 := idx_run (g := gl) (n := L.length) (cap := cl) Tryd.underlying27 size_way hlt
            have i1 := idx_run (g := gm) (n := L.length) (cap := cm) Tryd.underlying27 size_way hlt
            have i2 := idx_run (g := gg) (n := n1) (cap := mx.gc) Tryd.underlying32 size_gift (show n < n1 by omega)
            rw [hln] at hgM
            have hcap : n1 ≤ mx.gc := by
              obtain ⟨a', c', q1, -, q2⟩ := hgM.len
              injection q1 with q4 q5 q3
              rw [hln, ← q3] at q2
              exact q2
            have hmax : n1 ≤ maxLen := by have := hgM.max; rw [hln] at this; exact this
            have hsl := fun W => slice_gifts (g := gg) (n := n1) (cap := mx.gc) (k := n) (by omega) hcap W
            have htk : (lx.G ++ [((⟨#[87]⟩ : ByteArray), sub s j lx.to)]).take n = lx.G := by rw [hn, List.take_left]
            have hgT := hgM.take gfV_len (m := n) (by rw [hln]) (by rw [hln]; omega)
            rw [htk] at hgT
            have HGT := hide hgT
            have HGL := hide (show Row wr _ 39 2 gfV (.slice lx.ga n lx.gc) lx.G by rw [hn]; exact hgL)
            unfold maxLen at hmax
            have hw1 : wrap64 ((n1 : Int) - 1) = (n : Int) := by rw [IntWalk.wrap64_in _ (by omega)]; omega
            have hw2 : wrap64 ((n : Int) + 1) = (n1 : Int) := by rw [IntWalk.wrap64_in _ (by omega)]; omega
            have hw3 : IntKind.i64.wrap ((n1 : Int) - 1) = (n : Int) := (IntWalk.i64_left _).trans hw1
            have hw4 : IntKind.i64.wrap ((n : Int) + 1) = (n1 : Int) := (IntWalk.i64_left _).trans hw2
            have hj1 : (0 : Int) ≤ (j : Int) := by omega
            have hj2 : (j : Int) ≤ (lx.to : Int) := by have := hrg.1; show (j : Int) ≤ (lx.pr.1 : Int); omega
            have hj3 : (lx.to : Int) ≤ (s.size : Int) := by have := hrg.2; show (lx.pr.1 : Int) ≤ (s.size : Int); omega
            have HBB := hide hb
            clear hL hM hpr hrg hto hG hgM hgL hg7 hn hn1 hln hlast hcap hmax hgT htk hlx hmx hkM hb
            go_wp2_with fail
            have hA : Below wr.heap.size wr wr.drew := (Below.refl _ _).drew
            go_region_held3 (fun w' => w'.cell? ⟨gl, k * 2, none⟩ = some (.int .i64 (lx.to : Int)) ∧ w'.cell? ⟨gl, k * 2 + 1, none⟩ = some (.slice lx.ga n lx.gc) ∧ w'.cell? ⟨gm, k * 2, none⟩ = some (.int .i64 (lx.to : Int)) ∧ w'.cell? ⟨gg, n * 2, none⟩ = some (.string ⟨#[87]⟩) ∧ w'.cell? ⟨gg, n * 2 + 1, none⟩ = some (.string (s.extract j lx.to)))
              (first | exact ⟨o0, o1, p0, e0, e1⟩ | exact ⟨cell_later hA o0, cell_later hA o1, cell_later hA p0, cell_later hA e0, cell_later hA e1⟩)
              (first | (go_at_call 12; refine (sameGifts_same ((unhide HGT).later hA) ((unhide HGL).later hA)).mono ?_; rintro e w8 ⟨rfl, hb8⟩; have hA := bnext hA hb8; clear hb8))
            go_wp2_with fail
            go_roundw
            case rel => exact ⟨k + 1, by omega, by simp, bnext (unhide HBB) hA⟩
            case measure => simp [intOf]; omega
          · have hge' : ¬ (k : Int) < (L.length : Int) := by omega
            go_wp2_with fail
            go_ret
            exact ⟨rfl, bnext (unhide HB6) hb⟩
end Go.Proofs.YteblcdgjjhodeabDoor
