/- What stands ahead is not seen: ScanMoved is true of any pattern and any texts (of a bound size). -/
import Derived.Test.YtkggmodabpjobaaDoorLaw5K
namespace Go.Proofs.YtkggmodabpjobaaDoor
open Go.RowKit

/-- All ways end behind where they began, and in the text. -/
def Rg (s : ByteArray) (i : Nat) (q : Sq) : Prop := ∀ x ∈ q.1, x.w = 3 → i ≤ x.a ∧ x.a ≤ s.size
section
variable {s : ByteArray} {R : ByteArray → Option PT} {dg : Nat → ByteArray} {i : Nat}
theorem rg_put {x : Ev} (hx : x.w = 3 → i ≤ x.a ∧ x.a ≤ s.size) {q : Sq} (h : Rg s i q) : Rg s i (put x q) := fun y hy => by
  rcases List.mem_cons.1 hy with rfl | hy
  · exact hx
  · exact h y hy
theorem rg_no {x : Ev} (hx : x.w ≠ 3) {q : Sq} (h : Rg s i q) : Rg s i (put x q) := rg_put (fun e => absurd e hx) h
theorem rg_thn {p q : Sq} (hp : Rg s i p) (hq : Rg s i q) : Rg s i (thn p q) := by
  unfold thn
  split
  · intro x hx
    rcases List.mem_append.1 hx with h | h
    · exact hp x h
    · exact hq x h
  · exact hp
theorem rg_end (n : Nat) : Rg s i ([], n) := fun _ h => by cases h
theorem rg_nil : Rg s i nil := fun _ h => by cases h
theorem rg_way {e : Nat} (g : List Gft) (h : i ≤ e ∧ e ≤ s.size) : Rg s i (one (wy e g)) := fun x hx => by
  rw [List.mem_singleton.1 hx]
  exact fun _ => h
theorem rg_bnd {n : Nat} {f : Nat → List Gft → Sq} (hf : ∀ e g, i ≤ e → e ≤ s.size → Rg s e (f e g)) : ∀ l, (∀ x ∈ l, x.w = 3 → i ≤ x.a ∧ x.a ≤ s.size) → Rg s i (bnd l n f)
  | [], _ => rg_end n
  | x :: l, h => by
    have ih := rg_bnd (n := n) hf l fun y hy => h y (List.mem_cons_of_mem _ hy)
    rw [bnd]
    split
    · rename_i hw
      have hx := h x (List.mem_cons_self ..) hw
      exact rg_thn (fun y hy hy3 => by have := hf x.a x.g hx.1 hx.2 y hy hy3; exact ⟨by omega, this.2⟩) ih
    · rename_i hw
      exact rg_no hw ih
theorem rg_bd {q : Sq} {f : Nat → List Gft → Sq} (hq : Rg s i q) (hf : ∀ e g, i ≤ e → e ≤ s.size → Rg s e (f e g)) : Rg s i (bd q f) := rg_bnd hf q.1 hq
theorem rg_ite {c : Prop} [Decidable c] {p q : Sq} (hp : c → Rg s i p) (hq : ¬ c → Rg s i q) : Rg s i (if c then p else q) := by
  split
  · exact hp (by assumption)
  · exact hq (by assumption)
theorem rg_arbs (g : List Gft) : ∀ n e, i ≤ e → e + n ≤ s.size + 1 → Rg s i (arbs g n e)
  | 0, _, _, _ => fun x hx => by rw [List.mem_singleton.1 hx]; exact fun h => absurd h (by decide)
  | n + 1, e, h1, h2 => rg_no (by decide) (rg_put (fun _ => ⟨h1, by show e ≤ s.size; omega⟩) (rg_arbs g n (e + 1) (by omega) (by omega)))
theorem rg_hs : Rg s i (one hs) := fun x hx => by rw [List.mem_singleton.1 hx]; exact fun h => absurd h (by decide)
theorem rg_bxs (t : ByteArray) (g : List Gft) : ∀ n e, i ≤ e → Rg s i (bxs s t g n e)
  | 0, _, _ => rg_hs
  | n + 1, e, h1 => by
    have hge := unt_ge s t true _ e (Nat.le_refl _)
    rw [bxs]
    refine rg_ite (fun h => rg_no (by decide) (rg_put (fun _ => ⟨by show i ≤ unt s t true e; omega, by show unt s t true e ≤ s.size; omega⟩) (rg_bxs t g n _ (by omega)))) (fun _ => rg_hs)
theorem rg_bls (g : List Gft) : ∀ n e, i ≤ e → Rg s i (bls s g n e)
  | 0, _, _ => rg_hs
  | n + 1, e, h1 => by
    rw [bls]
    cases hp : prs s e with
    | none => exact rg_hs
    | some t =>
      have := prs_gt hp
      exact rg_no (by decide) (rg_put (fun _ => ⟨by show i ≤ t; omega, this.2⟩) (rg_bls g n t (by omega)))
theorem rg_cats {f : PT → Nat → List Gft → Sq} {T : PT} : ∀ m j i g, (∀ k, k ≤ j + m → ∀ i g, i ≤ s.size → Rg s i (f (T.kid k) i g)) → i ≤ s.size → Rg s i (cats f T m j i g)
  | 0, j, _, _, hf, hi => hf j (by omega) _ _ hi
  | m + 1, j, _, _, hf, hi => rg_bd (hf j (by omega) _ _ hi) fun e g' _ he => rg_no (by decide) (rg_cats m (j + 1) e g' (fun k hk => hf k (by omega)) he)
theorem rg_alts {f : PT → Nat → List Gft → Sq} {T : PT} (g : List Gft) : ∀ m j, (∀ k, k < j + m → Rg s i (f (T.kid k) i g)) → Rg s i (alts f T i g m j)
  | 0, _, _ => rg_nil
  | m + 1, j, hf => rg_no (by decide) (rg_thn (hf j (by omega)) (rg_alts g m (j + 1) (fun k hk => hf k (by omega))))
theorem rg_agn {f : PT → Nat → List Gft → Sq} {T : PT} (hf : ∀ i g, i ≤ s.size → Rg s i (f (T.kid 0) i g)) : ∀ m i g, i ≤ s.size → Rg s i (agn f T m i g)
  | 0, _, _, _ => rg_end 3
  | m + 1, i, g, hi => rg_put (fun _ => ⟨Nat.le_refl _, hi⟩) (rg_no (by decide) (rg_bd (hf i g hi) fun e g' _ he => rg_no (by decide) (rg_ite (fun _ => rg_nil) fun _ => rg_agn hf m e g' he)))
theorem D_rg (hR : ∀ nm U, R nm = some U → FineS U) : ∀ n T i g, FineS T → i ≤ s.size → Rg s i (D s R dg n T i g)
  | 0, _, _, _, _, _ => rg_end 3
  | n + 1, T, i, g, hT, hi => by
    have ih := D_rg hR n
    have ho := hT.ok
    have hkid : ∀ k, k < T.len → ∀ i g, i ≤ s.size → Rg s i (D s R dg n (T.kid k) i g) := fun k hk i g h => ih _ i g (hT.kid hk) h
    rw [D]
    refine rg_no (by decide) (rg_ite (fun _ => rg_end 1) fun _ => rg_ite (fun _ => ?_) fun _ => rg_ite (fun q => ?_) fun _ => rg_ite (fun q => ?_) fun _ => rg_ite (fun _ => rg_arbs g _ _ (Nat.le_refl _) (by omega)) fun _ => rg_ite (fun _ => rg_bxs _ g _ _ (Nat.le_refl _)) fun _ => rg_ite (fun _ => rg_bls g _ _ (Nat.le_refl _)) fun _ => rg_ite (fun q => ?_) fun _ => rg_ite (fun q => ?_) fun _ => rg_ite (fun q => ?_) fun _ => rg_ite (fun _ => ?_) fun _ => rg_ite (fun _ => rg_no (by show (2 : Nat) ≠ 3; decide) (rg_way _ ⟨Nat.le_refl _, hi⟩)) fun _ => ?_)
    · intro x hx
      rcases List.mem_cons.1 hx with rfl | hx
      · exact fun _ => ⟨Nat.le_refl _, hi⟩
      · rw [List.mem_singleton.1 hx]; exact fun h => absurd h (by decide)
    · have hl := ho.2.2.2.2 (.inl q)
      exact rg_agn (hkid 0 (by omega)) n i g hi
    · exact rg_alts g T.len 0 (fun k hk => hkid k (by omega) i g hi)
    · have hl := ho.2.2.2.1 (.inl q)
      exact rg_cats (T.len - 1) 0 i g (fun k hk => hkid k (by omega)) hi
    · have hl := ho.2.2.2.2 (.inr (.inl q))
      exact rg_bd (hkid 0 (by omega) i g hi) fun e g' h1 h2 => rg_no (by decide) (rg_way _ ⟨Nat.le_refl _, h2⟩)
    · have hl := ho.2.2.2.2 (.inr (.inr q))
      exact rg_bd (hkid 0 (by omega) i g hi) fun e g' h1 h2 => rg_no (by show (2 : Nat) ≠ 3; decide) (rg_way _ ⟨Nat.le_refl _, h2⟩)
    · split
      · rename_i U hU
        exact ih U i g (hR _ U hU) hi
      · exact rg_end 2
    · cases hq : onl s T i with
      | none => exact rg_nil
      | some e => exact rg_way g ⟨onl_ge hi ho hq, onl_le hi ho hq⟩
end

theorem sub_list (s : ByteArray) (a b : Nat) : (sub s a b).data.toList = (s.data.toList.drop a).take (b - a) := by
  unfold sub
  rw [ByteArray.data_extract, Array.toList_extract, List.extract_eq_take_drop]
theorem bytes_eq {a b : ByteArray} : a = b ↔ a.data.toList = b.data.toList := by
  constructor
  · intro h; rw [h]
  · intro h
    obtain ⟨a⟩ := a
    obtain ⟨b⟩ := b
    congr 1
    exact Array.toList_inj.1 h
theorem len_data (a : ByteArray) : a.data.toList.length = a.size := by rw [Array.length_toList]; rfl
section
variable (m s : ByteArray)
theorem byt_mv (i : Nat) : byt (m ++ s) (i + m.size) = byt s i := by
  unfold byt
  rw [ByteArray.data_append, Array.toList_append, List.getD_eq_getElem?_getD, List.getD_eq_getElem?_getD, List.getElem?_append_right (by rw [len_data]; omega), len_data, Nat.add_sub_cancel]
theorem sub_mv (a b : Nat) : sub (m ++ s) (a + m.size) (b + m.size) = sub s a b := by
  rw [bytes_eq, sub_list, sub_list, ByteArray.data_append, Array.toList_append, List.drop_append, len_data, List.drop_eq_nil_of_le (by rw [len_data]; omega), List.nil_append, Nat.add_sub_cancel, show b + m.size - (a + m.size) = b - a by omega]
theorem untl_mv (t : ByteArray) (want : Bool) : ∀ n i, untl (m ++ s) t want n (i + m.size) = untl s t want n i + m.size
  | 0, _ => rfl
  | n + 1, i => by
    rw [untl, untl, byt_mv]
    split
    · rfl
    · rw [show i + m.size + 1 = (i + 1) + m.size by omega, untl_mv t want n (i + 1)]
theorem size_mv : (m ++ s).size = m.size + s.size := ByteArray.size_append
theorem unt_mv (t : ByteArray) (want : Bool) (i : Nat) : unt (m ++ s) t want (i + m.size) = unt s t want i + m.size := by
  unfold unt
  rw [size_mv, show m.size + s.size - (i + m.size) = s.size - i by omega, untl_mv]
theorem prd_mv : ∀ n d i, prd (m ++ s) n d (i + m.size) = (prd s n d i).map (· + m.size)
  | 0, _, _ => rfl
  | n + 1, d, i => by
    rw [prd, prd, byt_mv]
    generalize (if byt s i = 40 then d + 1 else if byt s i = 41 then d - 1 else d) = d'
    show (if d' = 0 then some (i + m.size + 1) else if d' < 0 then none else prd (m ++ s) n d' (i + m.size + 1)) = Option.map (· + m.size) (if d' = 0 then some (i + 1) else if d' < 0 then none else prd s n d' (i + 1))
    split
    · exact congrArg some (show i + m.size + 1 = i + 1 + m.size by omega)
    · split
      · rfl
      · rw [show i + m.size + 1 = (i + 1) + m.size by omega, prd_mv n d' (i + 1)]
theorem prs_mv (i : Nat) : prs (m ++ s) (i + m.size) = (prs s i).map (· + m.size) := by
  unfold prs
  rw [size_mv, show m.size + s.size - (i + m.size) = s.size - i by omega, prd_mv]

/-- Kinds that ask for places, or call others. -/
def plcK (k : Int) : Bool := k == 8 || k == 9 || k == 10 || k == 11 || k == 12 || k == 23 || k == 24
theorem onl_mv (T : PT) (hk : plcK T.k = false) (i : Nat) : onl (m ++ s) T (i + m.size) = (onl s T i).map (· + m.size) := by
  have hk' : T.k ≠ 8 ∧ T.k ≠ 9 ∧ T.k ≠ 10 ∧ T.k ≠ 11 ∧ T.k ≠ 12 := by
    unfold plcK at hk
    simp only [Bool.or_eq_false_iff, beq_eq_false_iff_ne] at hk
    omega
  obtain ⟨k8, k9, k10, k11, k12⟩ := hk'
  have hz := size_mv m s
  unfold onl
  rw [if_neg k8, if_neg k9, if_neg k10, if_neg k11, if_neg k12, if_neg k8, if_neg k9, if_neg k10, if_neg k11, if_neg k12, byt_mv, unt_mv, unt_mv]
  split
  · rw [show i + m.size + T.t.size = (i + T.t.size) + m.size by omega, sub_mv]
    split <;> rfl
  · split
    · by_cases h : i + T.n.toNat ≤ s.size
      · rw [if_pos h, if_pos (by omega)]
        exact congrArg some (show i + m.size + T.n.toNat = i + T.n.toNat + m.size by omega)
      · rw [if_neg h, if_neg (by omega)]; rfl
    · split
      · by_cases h : i < s.size ∧ inB T.t (byt s i) = true
        · rw [if_pos h, if_pos ⟨by omega, h.2⟩]
          exact congrArg some (show i + m.size + 1 = i + 1 + m.size by omega)
        · rw [if_neg h, if_neg (fun q => h ⟨by omega, q.2⟩)]; rfl
      · split
        · by_cases h : i < s.size ∧ inB T.t (byt s i) = false
          · rw [if_pos h, if_pos ⟨by omega, h.2⟩]
            exact congrArg some (show i + m.size + 1 = i + 1 + m.size by omega)
          · rw [if_neg h, if_neg (fun q => h ⟨by omega, q.2⟩)]; rfl
        · split
          · by_cases h : i < unt s T.t false i
            · rw [if_pos h, if_pos (by omega)]; rfl
            · rw [if_neg h, if_neg (by omega)]; rfl
          · split
            · by_cases h : unt s T.t true i < s.size
              · rw [if_pos h, if_pos (by omega)]; rfl
              · rw [if_neg h, if_neg (by omega)]; rfl
            · rfl
end

/-- Moved by so many. -/
def mvE (k : Nat) (x : Ev) : Ev := if x.w = 3 then ⟨x.w, x.a + k, x.g⟩ else x
def mv (k : Nat) (q : Sq) : Sq := (q.1.map (mvE k), q.2)
section
variable {k : Nat}
theorem mv_no {x : Ev} (h : x.w ≠ 3) (q : Sq) : mv k (put x q) = put x (mv k q) := by
  unfold mv put
  rw [List.map_cons, show mvE k x = x from if_neg h]
theorem mv_way (e : Nat) (g : List Gft) (q : Sq) : mv k (put (wy e g) q) = put (wy (e + k) g) (mv k q) := rfl
theorem mv_one (e : Nat) (g : List Gft) : mv k (one (wy e g)) = one (wy (e + k) g) := rfl
theorem mv_hs : mv k (one hs) = one hs := rfl
theorem mv_nil : mv k nil = nil := rfl
theorem mv_end (n : Nat) : mv k ([], n) = ([], n) := rfl
theorem mv_thn (p q : Sq) : mv k (thn p q) = thn (mv k p) (mv k q) := by
  unfold thn
  show mv k (if p.2 = 0 then _ else _) = if p.2 = 0 then _ else _
  split
  · unfold mv
    rw [List.map_append]
  · rfl
theorem mvE_w (x : Ev) : (mvE k x).w = x.w := by
  unfold mvE
  split <;> rfl
theorem mv_bnd {F F' : Nat → List Gft → Sq} (n : Nat) : ∀ l : List Ev, (∀ x ∈ l, x.w = 3 → F' (x.a + k) x.g = mv k (F x.a x.g)) → bnd (l.map (mvE k)) n F' = mv k (bnd l n F)
  | [], _ => rfl
  | x :: l, h => by
    have ih := mv_bnd n l fun y hy => h y (List.mem_cons_of_mem _ hy)
    rw [List.map_cons, bnd, bnd, mvE_w, ih]
    by_cases hw : x.w = 3
    · rw [if_pos hw, if_pos hw, mv_thn, show (mvE k x).a = x.a + k by unfold mvE; rw [if_pos hw], show (mvE k x).g = x.g by unfold mvE; rw [if_pos hw], h x (List.mem_cons_self ..) hw]
    · rw [if_neg hw, if_neg hw, mv_no hw, show mvE k x = x from if_neg hw]
theorem mv_bd {q : Sq} {F F' : Nat → List Gft → Sq} (h : ∀ x ∈ q.1, x.w = 3 → F' (x.a + k) x.g = mv k (F x.a x.g)) : bd (mv k q) F' = mv k (bd q F) := mv_bnd q.2 q.1 h
theorem arbs_mv (g : List Gft) : ∀ n e, arbs g n (e + k) = mv k (arbs g n e)
  | 0, _ => rfl
  | n + 1, e => by rw [arbs, arbs, mv_no (by decide), mv_way, show e + k + 1 = (e + 1) + k by omega, arbs_mv g n (e + 1)]
theorem bxs_mv (m s t : ByteArray) (g : List Gft) : ∀ n e, bxs (m ++ s) t g n (e + m.size) = mv m.size (bxs s t g n e)
  | 0, _ => rfl
  | n + 1, e => by
    have hz := size_mv m s
    rw [bxs, bxs, unt_mv]
    by_cases h : unt s t true e < s.size
    · rw [if_pos h, if_pos (by omega), mv_no (by decide), mv_way, show unt s t true e + m.size + 1 = (unt s t true e + 1) + m.size by omega, bxs_mv m s t g n]
    · rw [if_neg h, if_neg (by omega), mv_hs]
theorem bls_mv (m s : ByteArray) (g : List Gft) : ∀ n e, bls (m ++ s) g n (e + m.size) = mv m.size (bls s g n e)
  | 0, _ => rfl
  | n + 1, e => by
    rw [bls, bls, prs_mv]
    cases prs s e with
    | none => rfl
    | some t =>
      show put hs (put (wy (t + m.size) g) (bls (m ++ s) g n (t + m.size))) = mv m.size (put hs (put (wy t g) (bls s g n t)))
      rw [mv_no (by decide), mv_way, bls_mv m s g n t]
theorem cats_mv {s : ByteArray} {f f' : PT → Nat → List Gft → Sq} {T : PT} : ∀ m j i g, (∀ q, q ≤ j + m → ∀ i g, i ≤ s.size → f' (T.kid q) (i + k) g = mv k (f (T.kid q) i g) ∧ Rg s i (f (T.kid q) i g)) → i ≤ s.size → cats f' T m j (i + k) g = mv k (cats f T m j i g)
  | 0, j, i, g, hf, hi => (hf j (by omega) i g hi).1
  | m + 1, j, i, g, hf, hi => by
    rw [cats, cats, (hf j (by omega) i g hi).1]
    refine mv_bd fun x hx hw => ?_
    rw [mv_no (by decide), cats_mv m (j + 1) x.a x.g (fun q hq => hf q (by omega)) ((hf j (by omega) i g hi).2 x hx hw).2]
theorem alts_mv {f f' : PT → Nat → List Gft → Sq} {T : PT} {i : Nat} (g : List Gft) : ∀ m j, (∀ q, q < j + m → f' (T.kid q) (i + k) g = mv k (f (T.kid q) i g)) → alts f' T (i + k) g m j = mv k (alts f T i g m j)
  | 0, _, _ => rfl
  | m + 1, j, hf => by rw [alts, alts, mv_no (by decide), mv_thn, hf j (by omega), alts_mv g m (j + 1) (fun q hq => hf q (by omega))]
theorem agn_mv {s : ByteArray} {f f' : PT → Nat → List Gft → Sq} {T : PT} (hf : ∀ i g, i ≤ s.size → f' (T.kid 0) (i + k) g = mv k (f (T.kid 0) i g) ∧ Rg s i (f (T.kid 0) i g)) : ∀ m i g, i ≤ s.size → agn f' T m (i + k) g = mv k (agn f T m i g)
  | 0, _, _, _ => rfl
  | m + 1, i, g, hi => by
    rw [agn, agn, mv_way, mv_no (by decide), (hf i g hi).1]
    congr 2
    refine mv_bd fun x hx hw => ?_
    rw [mv_no (by decide)]
    congr 1
    by_cases he : x.a = i
    · rw [if_pos he, if_pos (by omega)]; rfl
    · rw [if_neg he, if_neg (by omega)]
      exact agn_mv hf m x.a x.g ((hf i g hi).2 x hx hw).2
end

/-- Does one of so many? -/
def orTo (f : Nat → Bool) : Nat → Bool
  | 0 => false
  | n + 1 => orTo f n || f n
theorem orTo_congr {f g : Nat → Bool} : ∀ n, (∀ i, i < n → f i = g i) → orTo f n = orTo g n
  | 0, _ => rfl
  | n + 1, h => by rw [orTo, orTo, orTo_congr n fun i hi => h i (by omega), h n (by omega)]
theorem orTo_no {f : Nat → Bool} : ∀ {n : Nat}, orTo f n = false → ∀ i, i < n → f i = false
  | 0, _, i, hi => by omega
  | n + 1, h, i, hi => by
    rw [orTo, Bool.or_eq_false_iff] at h
    rcases Nat.lt_or_ge i n with q | q
    · exact orTo_no h.1 i q
    · rw [show i = n by omega]; exact h.2
theorem orTo_yes {f : Nat → Bool} {i : Nat} (hf : f i = true) : ∀ {n : Nat}, i < n → orTo f n = true
  | 0, h => by omega
  | n + 1, h => by
    rw [orTo]
    rcases Nat.lt_or_ge i n with q | q
    · rw [orTo_yes hf q]; rfl
    · rw [show n = i by omega, hf, Bool.or_true]
/-- Does a pattern ask for places, or call others? -/
def PT.plc : PT → Bool
  | .node k _ _ _ _ _ _ len _ kids => plcK k || orTo (kf len false fun i => PT.plc (kids i)) len
theorem PT.plc_eq (T : PT) : T.plc = (plcK T.k || orTo (fun i => (T.kid i).plc) T.len) := by
  obtain ⟨k, t, n, nm, xa, b, o, len, cap, kids⟩ := T
  exact congrArg (plcK k || ·) (orTo_congr len fun i hi => by rw [kf_at hi, PT.kid_at (T := .node k t n nm xa b o len cap kids) hi])
theorem D_mv (m s : ByteArray) (dg : Nat → ByteArray) : ∀ n T i g, FineS T → T.plc = false → i ≤ s.size → D (m ++ s) (fun _ => none) dg n T (i + m.size) g = mv m.size (D s (fun _ => none) dg n T i g)
  | 0, _, _, _, _, _, _ => rfl
  | n + 1, T, i, g, hF, hp, hi => by
    have ih := D_mv m s dg n
    have ho := hF.ok
    rw [T.plc_eq, Bool.or_eq_false_iff] at hp
    have hkid : ∀ q, q < T.len → ∀ i g, i ≤ s.size → D (m ++ s) (fun _ => none) dg n (T.kid q) (i + m.size) g = mv m.size (D s (fun _ => none) dg n (T.kid q) i g) ∧ Rg s i (D s (fun _ => none) dg n (T.kid q) i g) := fun q hq i g h => ⟨ih _ i g (hF.kid hq) (orTo_no hp.2 q hq) h, D_rg (fun _ _ h => by cases h) n _ i g (hF.kid hq) h⟩
    have hz := size_mv m s
    have hk := hp.1
    unfold plcK at hk
    simp only [Bool.or_eq_false_iff, beq_eq_false_iff_ne] at hk
    rw [D, D, mv_no (by decide)]
    congr 1
    by_cases h17 : T.k = 17
    · rw [if_pos h17, if_pos h17]; rfl
    rw [if_neg h17, if_neg h17]
    by_cases h16 : T.k = 16
    · rw [if_pos h16, if_pos h16]; rfl
    rw [if_neg h16, if_neg h16]
    by_cases h20 : T.k = 20
    · rw [if_pos h20, if_pos h20]
      have hl := ho.2.2.2.2 (.inl h20)
      exact agn_mv (hkid 0 (by omega)) n i g hi
    rw [if_neg h20, if_neg h20]
    by_cases h19 : T.k = 19
    · rw [if_pos h19, if_pos h19]
      exact alts_mv g T.len 0 (fun q hq => (hkid q (by omega) i g hi).1)
    rw [if_neg h19, if_neg h19]
    by_cases h13 : T.k = 13
    · rw [if_pos h13, if_pos h13, hz, show m.size + s.size + 1 - (i + m.size) = s.size + 1 - i by omega, arbs_mv]
    rw [if_neg h13, if_neg h13]
    by_cases h7 : T.k = 7
    · rw [if_pos h7, if_pos h7, hz, show m.size + s.size + 1 - (i + m.size) = s.size + 1 - i by omega, bxs_mv]
    rw [if_neg h7, if_neg h7]
    by_cases h14 : T.k = 14
    · rw [if_pos h14, if_pos h14, hz, show m.size + s.size + 1 - (i + m.size) = s.size + 1 - i by omega, bls_mv]
    rw [if_neg h14, if_neg h14]
    by_cases h18 : T.k = 18
    · rw [if_pos h18, if_pos h18]
      have hl := ho.2.2.2.1 (.inl h18)
      exact cats_mv (T.len - 1) 0 i g (fun q hq => hkid q (by omega)) hi
    rw [if_neg h18, if_neg h18]
    by_cases h21 : T.k = 21
    · rw [if_pos h21, if_pos h21]
      have hl := ho.2.2.2.2 (.inr (.inl h21))
      rw [(hkid 0 (by omega) i g hi).1]
      exact mv_bd fun x _ _ => by rw [mv_no (by decide), mv_one, sub_mv]
    rw [if_neg h21, if_neg h21]
    by_cases h22 : T.k = 22
    · rw [if_pos h22, if_pos h22]
      have hl := ho.2.2.2.2 (.inr (.inr h22))
      rw [(hkid 0 (by omega) i g hi).1]
      exact mv_bd fun x _ _ => by rw [mv_no (by show (2 : Nat) ≠ 3; decide), mv_one, sub_mv]
    rw [if_neg h22, if_neg h22, if_neg hk.2, if_neg hk.2, if_neg hk.1.2, if_neg hk.1.2, onl_mv m s T hp.1 i]
    cases onl s T i with
    | none => rfl
    | some e => rfl

theorem tks_mv (k : Nat) : ∀ l : List Ev, tks (l.map (mvE k)) = tks l
  | [] => rfl
  | x :: l => by rw [List.map_cons, tks_cons, tks_cons, mvE_w, tks_mv k l]
theorem prsW_mv (k : Nat) : ∀ l : List Ev, prsW (l.map (mvE k)) = (prsW l).map fun x => (x.1 + k, x.2)
  | [] => rfl
  | x :: l => by
    rw [List.map_cons, prsW_cons, prsW_cons, mvE_w, prsW_mv k l]
    by_cases hw : x.w = 3
    · rw [if_pos hw, if_pos hw, List.map_cons, show (mvE k x).a = x.a + k by unfold mvE; rw [if_pos hw], show (mvE k x).g = x.g by unfold mvE; rw [if_pos hw]]
    · rw [if_neg hw, if_neg hw]
section
variable {s : ByteArray} {R : ByteArray → Option PT} {dg : Nat → ByteArray}
/-- How it may end. -/
def E3 (q : Sq) : Prop := q.2 ≤ 3
theorem e3_put (x : Ev) {q : Sq} (h : E3 q) : E3 (put x q) := h
theorem e3_thn {p q : Sq} (hp : E3 p) (hq : E3 q) : E3 (thn p q) := by
  unfold thn
  split
  · exact hq
  · exact hp
theorem e3_fin {n : Nat} (l : List Ev) (h : n ≤ 3) : E3 (l, n) := h
theorem e3_one (x : Ev) : E3 (one x) := Nat.zero_le _
theorem e3_nil : E3 nil := Nat.zero_le _
theorem e3_bnd {n : Nat} {f : Nat → List Gft → Sq} (hn : n ≤ 3) (hf : ∀ e g, E3 (f e g)) : ∀ l, E3 (bnd l n f)
  | [] => hn
  | x :: l => by
    rw [bnd]
    split
    · exact e3_thn (hf _ _) (e3_bnd hn hf l)
    · exact e3_put _ (e3_bnd hn hf l)
theorem e3_bd {q : Sq} {f : Nat → List Gft → Sq} (hq : E3 q) (hf : ∀ e g, E3 (f e g)) : E3 (bd q f) := e3_bnd hq hf q.1
theorem e3_ite {c : Prop} [Decidable c] {p q : Sq} (hp : E3 p) (hq : E3 q) : E3 (if c then p else q) := by
  split
  · exact hp
  · exact hq
theorem e3_cats {f : PT → Nat → List Gft → Sq} {T : PT} (hf : ∀ U i g, E3 (f U i g)) : ∀ m j i g, E3 (cats f T m j i g)
  | 0, _, _, _ => hf _ _ _
  | m + 1, j, _, _ => e3_bd (hf _ _ _) fun e g' => e3_put _ (e3_cats hf m (j + 1) e g')
theorem e3_alts {f : PT → Nat → List Gft → Sq} {T : PT} (hf : ∀ U i g, E3 (f U i g)) (i : Nat) (g : List Gft) : ∀ m j, E3 (alts f T i g m j)
  | 0, _ => e3_nil
  | m + 1, j => e3_put _ (e3_thn (hf _ _ _) (e3_alts hf i g m (j + 1)))
theorem e3_agn {f : PT → Nat → List Gft → Sq} {T : PT} (hf : ∀ U i g, E3 (f U i g)) : ∀ m i g, E3 (agn f T m i g)
  | 0, _, _ => e3_fin _ (by decide)
  | m + 1, i, g => e3_put _ (e3_put _ (e3_bd (hf _ _ _) fun e g' => e3_put _ (e3_ite e3_nil (e3_agn hf m e g'))))
theorem D_e3 : ∀ n T i g, E3 (D s R dg n T i g)
  | 0, _, _, _ => e3_fin _ (by decide)
  | n + 1, T, i, g => by
    have ih := D_e3 n
    rw [D]
    refine e3_put _ (e3_ite (e3_fin _ (by decide)) (e3_ite (e3_fin _ (by decide)) (e3_ite (e3_agn ih _ _ _) (e3_ite (e3_alts ih _ _ _ _) (e3_ite ?_ (e3_ite ?_ (e3_ite ?_ (e3_ite (e3_cats ih _ _ _ _) (e3_ite ?_ (e3_ite ?_ (e3_ite ?_ (e3_ite (e3_put _ (e3_one _)) ?_))))))))))))
    · unfold E3; rw [arbs_end]; decide
    · unfold E3; rw [bxs_end]; decide
    · unfold E3; rw [bls_end]; decide
    · exact e3_bd (ih _ _ _) fun _ _ => e3_put _ (e3_one _)
    · exact e3_bd (ih _ _ _) fun _ _ => e3_put _ (e3_one _)
    · split
      · exact ih _ _ _
      · exact e3_fin _ (by decide)
    · split
      · exact e3_one _
      · exact e3_nil
end
theorem D_end3 {s : ByteArray} {R : ByteArray → Option PT} {dg : Nat → ByteArray} (n : Nat) (T : PT) (i : Nat) (g : List Gft) : (D s R dg n T i g).2 ≤ 3 := D_e3 n T i g
theorem moved_told {dg : Nat → ByteArray} {a : PT} {s m : ByteArray} (hA : allOk (waysOf [] dg a s 0 4096 20000) = true) (hp : a.plc = false) (hz : m.size + s.size ≤ 65536) :
    waysOf [] dg a (m ++ s) (m.size : Int) 4096 20000 = ((waysOf [] dg a s 0 4096 20000).1.map (fun x => (x.1 + m.size, x.2)), (waysOf [] dg a s 0 4096 20000).2.1, 0) ∧ allOk (waysOf [] dg a (m ++ s) (m.size : Int) 4096 20000) = true := by
  have hlen : (waysOf [] dg a s 0 4096 20000).1.length < 4096 := by
    unfold allOk at hA
    rw [Bool.and_eq_true, decide_eq_true_eq, decide_eq_true_eq] at hA
    exact hA.2
  obtain ⟨j, hj0, hj, hw, h3, h2, htk, he⟩ := waysOf_ok hA
  obtain rfl : j = 0 := by omega
  obtain ⟨q1, q2, -, -, -⟩ := wrongR_ok hw
  rw [he] at hlen
  have hsz := size_mv m s
  have hw' : wrongR [] a (m ++ s) 20000 = 0 := by
    unfold wrongR
    rw [if_neg (by rw [q1]; simp), if_neg (by rw [q2]; simp), if_neg (by omega), if_neg (by omega)]
  have hD : D (m ++ s) (fun nm => ruleOf nm []) dg 20001 a m.size [] = mv m.size (D s (fun nm => ruleOf nm []) dg 20001 a 0 []) := by
    have := D_mv m s dg 20001 a 0 [] (right_of q1).1 hp (Nat.zero_le _)
    rw [Nat.zero_add] at this
    exact this
  have ht : told [] dg a (m ++ s) m.size 4096 20000 = ((prsW (D s (fun nm => ruleOf nm []) dg 20001 a 0 []).1).map (fun x => (x.1 + m.size, x.2)), (D s (fun nm => ruleOf nm []) dg 20001 a 0 []).2) := by
    unfold told
    rw [show (20000 + 1 : Nat) = 20001 from rfl, hD]
    show tld ((D s (fun nm => ruleOf nm []) dg 20001 a 0 []).1.map (mvE m.size)) (D s (fun nm => ruleOf nm []) dg 20001 a 0 []).2 4096 20000 = _
    rw [tld_all _ _ _ _ (by rw [tks_mv]; exact htk) (by rw [prsW_mv, List.length_map]; exact hlen), prsW_mv]
  have hr : waysOf [] dg a (m ++ s) (m.size : Int) 4096 20000 = ((waysOf [] dg a s 0 4096 20000).1.map (fun x => (x.1 + m.size, x.2)), (waysOf [] dg a s 0 4096 20000).2.1, 0) := by
    rw [he]
    have h10 : (D s (fun nm => ruleOf nm []) dg 20001 a 0 []).2 ≠ 10 := by
      have := D_end3 (s := s) (R := fun nm => ruleOf nm []) (dg := dg) 20001 a 0 []
      omega
    unfold waysOf
    rw [if_neg (by rw [hw']; simp), if_neg (by omega), Int.toNat_natCast, show ((4096 : Int).toNat) = 4096 from rfl, show ((20000 : Int).toNat) = 20000 from rfl, ht, if_neg h10, if_neg h2]
  refine ⟨hr, ?_⟩
  rw [hr, he]
  unfold allOk
  rw [Bool.and_eq_true, decide_eq_true_eq, decide_eq_true_eq]
  exact ⟨rfl, by rw [List.length_map]; exact hlen⟩

theorem range_told {dg : Nat → ByteArray} {a : PT} {s : ByteArray} {i : Int} (hA : allOk (waysOf [] dg a s i 4096 20000) = true) : ∀ x ∈ (waysOf [] dg a s i 4096 20000).1, x.1 ≤ s.size := by
  obtain ⟨j, rfl, hj, hw, -, -, -, he⟩ := waysOf_ok hA
  have hrg := D_rg (s := s) (R := fun nm => ruleOf nm []) (dg := dg) (fun _ _ h => by cases h) 20001 a j [] (right_of (wrongR_ok hw).1).1 hj
  rw [he]
  intro x hx
  obtain ⟨y, hy, rfl⟩ := List.mem_map.1 hx
  have hy2 := List.mem_filter.1 hy
  exact (hrg y hy2.1 (by simpa using hy2.2)).2

/-- What placed answers. -/
def PlcSays (T : PT) : Prop := ∀ w, T.In w → Calls Tryd.prog 6 #[pv T] w fun e w' => e = .returned (.bool T.plc) ∧ Below w.heap.size w w'
set_option maxRecDepth 100000 in
set_option maxHeartbeats 1000000 in
theorem plc_step (T : PT) (ih : ∀ i, i < T.len → PlcSays (T.kid i)) : PlcSays T := by
  intro w hT
  have hmax := hT.max
  unfold maxLen at hmax
  have HD := hide (And.intro hT (And.intro ih T.plc_eq))
  unfold pv
  clear hT ih
  have hk0 := (Below.refl w.heap.size w).alloc (Nat.le_refl _) (.cells #[.int .i64 T.k, .string T.t, .int .i64 T.n, .string T.nm, .slice T.xa T.len T.cap] 24)
  have HB := hide hk0
  clear hk0
  cases hp : plcK T.k with
  | true =>
    have HE := hide (show T.plc = true by rw [(unhide HD).2.2, hp]; rfl)
    have hk : T.k = 8 ∨ T.k = 9 ∨ T.k = 10 ∨ T.k = 11 ∨ T.k = 12 ∨ T.k = 23 ∨ T.k = 24 := by
      unfold plcK at hp
      simp only [Bool.or_eq_true, beq_iff_eq] at hp
      omega
    clear hp
    rcases hk with q | q | q | q | q | q | q
    all_goals
      rw [q]
      have HQ := hide q
      clear q
      go_enter Tryd.func6, Tryd.ntmps6
      go_wp2_with fail
      go_ret
      exact ⟨by rw [unhide HE]; rfl, by have := unhide HB; rw [unhide HQ] at this; exact this⟩
  | false =>
    have H0 := hide (show T.plc = orTo (fun i => (T.kid i).plc) T.len by rw [(unhide HD).2.2, hp]; rfl)
    unfold plcK at hp
    simp only [Bool.or_eq_false_iff, beq_eq_false_iff_ne] at hp
    obtain ⟨⟨⟨⟨⟨⟨p8, p9⟩, p10⟩, p11⟩, p12⟩, p23⟩, p24⟩ := hp
    have b8 : (T.k == 8) = false := by rw [beq_eq_false_iff_ne]; exact p8
    have b9 : (T.k == 9) = false := by rw [beq_eq_false_iff_ne]; exact p9
    have b10 : (T.k == 10) = false := by rw [beq_eq_false_iff_ne]; exact p10
    have b11 : (T.k == 11) = false := by rw [beq_eq_false_iff_ne]; exact p11
    have b12 : (T.k == 12) = false := by rw [beq_eq_false_iff_ne]; exact p12
    have b23 : (T.k == 23) = false := by rw [beq_eq_false_iff_ne]; exact p23
    have b24 : (T.k == 24) = false := by rw [beq_eq_false_iff_ne]; exact p24
    clear p8 p9 p10 p11 p12 p23 p24
    go_enter Tryd.func6, Tryd.ntmps6
    go_wp2_with fail
    go_loopw [18] (fun i wr => ∃ k : Nat, k ≤ T.len ∧ i = .int .i64 (k : Int) ∧ Below w.heap.size w wr ∧ Hid (orTo (fun i => (T.kid i).plc) k = false)) (fun i _ => T.len - (intOf i).toNat)
    case atStart => exact ⟨0, by omega, rfl, unhide HB, hide rfl⟩
    case round =>
      obtain ⟨k, hk, rfl, hbr, HF⟩ := hrel
      rcases Nat.lt_or_ge k T.len with hkt | hkt
      · obtain ⟨hT, ih, -⟩ := unhide HD
        obtain ⟨k0, k1, k2, k3, k4⟩ := hT.cells hkt
        have k0 := cell_later hbr k0
        have k1 := cell_later hbr k1
        have k2 := cell_later hbr k2
        have k3 := cell_later hbr k3
        have k4 := cell_later hbr k4
        unfold PT.kv at k4
        have hia := kid_at hT hkt
        have HX := hide (PT.In.later hbr (hT.kids hkt))
        have HI := hide (ih k hkt)
        unfold PlcSays pv at HI
        have HBR := hide hbr
        clear hT ih hbr
        go_wp2_with fail
        have hn := (Below.refl wr.heap.size wr).alloc (Nat.le_refl _) (.cells #[.int .i64 (T.kid k).k, .string (T.kid k).t, .int .i64 (T.kid k).n, .string (T.kid k).nm, .slice (T.kid k).xa (T.kid k).len (T.kid k).cap] 24)
        refine (unhide HI _ (PT.In.later hn (unhide HX))).mono ?_
        rintro e w2 ⟨rfl, hb2⟩
        have HB2 := hide (bnext (bnext (unhide HBR) hn) hb2)
        clear hn hb2
        cases hq : (T.kid k).plc with
        | true =>
          have HW := hide (show T.plc = true by rw [unhide H0]; exact orTo_yes (f := fun i => (T.kid i).plc) hq hkt)
          clear hq
          go_wp2_with fail
          go_ret
          exact ⟨by rw [unhide HW]; rfl, unhide HB2⟩
        | false =>
          have HW := hide (show orTo (fun i => (T.kid i).plc) (k + 1) = false by rw [orTo, unhide HF, hq]; rfl)
          clear hq
          go_wp2_with fail
          exact ⟨⟨k + 1, by omega, by go_num, unhide HB2, HW⟩, by simp [intOf]; omega⟩
      · have hk' : k = T.len := by omega
        have HBR := hide hbr
        clear hbr
        go_wp2_with fail
        go_ret
        exact ⟨by rw [unhide H0, ← hk', unhide HF]; rfl, unhide HBR⟩
theorem plc_any : ∀ T : PT, PlcSays T := PT.ind plc_step

theorem tabs_moved {w : World} (h : laidMetH Tryd.prog Rows.scanMovedRow.laid w) : Shapes w ∧ ItoaSays dgI w := by
  have e : (Rows.scanMovedRow.laid.filter fun x => x.2.handleName?.isSome) = [] := by kernel_rfl
  have h' : laidMet Tryd.prog Rows.scanMovedRow.laid w := by
    have hp := h
    unfold laidMetH at hp
    rw [e] at hp
    exact hp
  refine ⟨shapes_of (rest := []) (laidMet.tail (laidMet.tail (laidMet.tail h'))), itoa_says ?_⟩
  exact Lib.tabIs_of_head (g := 1) (t := 117) (e := 104) (n := 20) (by kernel_rfl) (by kernel_rfl) Tryd.underlying117 Tryd.underlying104 (by kernel_rfl) (by kernel_rfl) (rest := _) (show laidMet Tryd.prog (("internal/strconv.uint64pow10", Lib.tabData .u64 Lib.pow10Tab) :: _) w from h'.tail.tail)

set_option maxRecDepth 100000 in
set_option maxHeartbeats 1000000 in
theorem long_wrong (T : PT) (s : ByteArray) (fuel : Int) (w : World) (hT : T.In w) (hS : Shapes w) (hw : T.wrong = 0) (h1 : 65536 < s.size) (h2 : s.size ≤ 4611686018427387904) :
    Calls Tryd.prog 10 #[.slice none 0 0, pv T, .string s, .int .i64 fuel] w fun e w' => e = .returned (.int .i64 4) ∧ Below w.heap.size w w' := by
  have HW := hide (fun W (h : Below w.heap.size w W) => wrong_any T W (PT.In.later h hT) (hS.later h))
  have hb0 : Below w.heap.size w (w.alloc (.cells #[.int .i64 T.k, .string T.t, .int .i64 T.n, .string T.nm, .slice T.xa T.len T.cap] 24)) := (Below.refl _ _).alloc (Nat.le_refl _) _
  have HB0 := hide hb0
  rw [hw] at HW
  unfold pv at HW ⊢
  clear hT hS hb0 hw
  have hl : (65536 : Int) < (s.size : Int) := by omega
  go_enter Tryd.func10, Tryd.ntmps10
  go_wp2_with (first | (go_at_call 16; refine (unhide HW _ (unhide HB0)).mono ?_; rintro e w1 ⟨rfl, hb1⟩) | (go_at_call 17; refine (rules_none _).mono ?_; rintro e w2 ⟨rfl, rfl⟩))
  go_ret
  exact ⟨rfl, bnext (unhide HB0) hb1⟩
set_option maxRecDepth 100000 in
set_option maxHeartbeats 1000000 in
theorem long_ways (T : PT) (s : ByteArray) (i k f : Int) (w : World) (hT : T.In w) (hS : Shapes w) (hw : T.wrong = 0) (h1 : 65536 < s.size) (h2 : s.size ≤ 4611686018427387904) :
    Calls Tryd.prog 9 #[.slice none 0 0, pv T, .string s, .int .i64 i, .int .i64 k, .int .i64 f] w fun e w' => e = .returned (.tuple #[.slice none 0 0, .bool false, .int .i64 4]) ∧ Below w.heap.size w w' := by
  have hb0 : Below w.heap.size w (w.alloc (.cells #[.int .i64 T.k, .string T.t, .int .i64 T.n, .string T.nm, .slice T.xa T.len T.cap] 24)) := (Below.refl _ _).alloc (Nat.le_refl _) _
  have HW := hide (long_wrong T s f _ (PT.In.later hb0 hT) (hS.later hb0) hw h1 h2)
  have HB0 := hide hb0
  unfold pv at HW ⊢
  clear hT hS hb0 hw h1 h2
  go_enter Tryd.func9, Tryd.ntmps9
  go_wp2_with (go_at_call 10; refine (unhide HW).mono ?_; rintro e w1 ⟨rfl, hb1⟩)
  go_ret3
  exact ⟨rfl, bnext (unhide HB0) hb1⟩
set_option maxRecDepth 100000 in
set_option maxHeartbeats 1000000 in
theorem long_all (T : PT) (s : ByteArray) (i : Int) (w : World) (hT : T.In w) (hS : Shapes w) (hw : T.wrong = 0) (h1 : 65536 < s.size) (h2 : s.size ≤ 4611686018427387904) :
    Calls Tryd.prog 5 #[.slice none 0 0, pv T, .string s, .int .i64 i] w fun e w' => e = .returned (.tuple #[.slice none 0 0, .bool false, .bool false]) ∧ Below w.heap.size w w' := by
  have hb0 : Below w.heap.size w (w.alloc (.cells #[.int .i64 T.k, .string T.t, .int .i64 T.n, .string T.nm, .slice T.xa T.len T.cap] 24)) := (Below.refl _ _).alloc (Nat.le_refl _) _
  have HW := hide (long_ways T s i 4096 20000 _ (PT.In.later hb0 hT) (hS.later hb0) hw h1 h2)
  have HB0 := hide hb0
  unfold pv at HW ⊢
  clear hT hS hb0 hw h1 h2
  go_enter Tryd.func5, Tryd.ntmps5
  go_wp2_with (go_at_call 9; refine (unhide HW).mono ?_; rintro e w1 ⟨rfl, hb1⟩)
  go_ret3
  exact ⟨rfl, bnext (unhide HB0) hb1⟩

set_option maxRecDepth 100000 in
set_option maxHeartbeats 8000000 in
theorem scanMoved_walk {dg : Nat → ByteArray} (a : PT) (s m : ByteArray) (w : World) (ha : a.In w) (hs : s.size ≤ maxLen) (_hm : m.size ≤ maxLen) (hS : Shapes w) (hIt : ItoaSays dg w) (hbs : s.size ≤ 140737488351232) (hbm : m.size ≤ 140737488351232) :
    Calls Tryd.prog 3 #[pv a, .string s, .string m] w fun e w' => e = .returned (.bool true) ∧ Below w.heap.size w w' := by
  have HA := hide (fun W (h : Below w.heap.size w W) => alive5 W (hIt.later h) (hS.later h))
  obtain ⟨rA, hrA⟩ : ∃ r, r = waysOf [] dg a s 0 4096 20000 := ⟨_, rfl⟩
  have H1 := hide (fun W (h : Below w.heap.size w W) => show Calls Tryd.prog 5 #[.slice none 0 0, .agg #[.int .i64 a.k, .string a.t, .int .i64 a.n, .string a.nm, .slice a.xa a.len a.cap], .string s, .int .i64 0] W (AllPost rA W) from by rw [hrA]; exact all_any dg a s 0 W (rval_none W) (hIt.later h) (PT.In.later h ha) (hS.later h) hs)
  have H2 := hide (fun W (h : Below w.heap.size w W) (hz : (m ++ s).size ≤ maxLen) => show Calls Tryd.prog 5 #[.slice none 0 0, .agg #[.int .i64 a.k, .string a.t, .int .i64 a.n, .string a.nm, .slice a.xa a.len a.cap], .string (m ++ s), .int .i64 (m.size : Int)] W (AllPost (waysOf [] dg a (m ++ s) (m.size : Int) 4096 20000) W) from all_any dg a (m ++ s) (m.size : Int) W (rval_none W) (hIt.later h) (PT.In.later h ha) (hS.later h) hz)
  have H3 := hide (fun W (h : Below w.heap.size w W) hw h1 h2 => show Calls Tryd.prog 5 #[.slice none 0 0, .agg #[.int .i64 a.k, .string a.t, .int .i64 a.n, .string a.nm, .slice a.xa a.len a.cap], .string (m ++ s), .int .i64 (m.size : Int)] W _ from long_all a (m ++ s) (m.size : Int) W (PT.In.later h ha) (hS.later h) hw h1 h2)
  have HPl := hide (fun W (h : Below w.heap.size w W) => plc_any a W (PT.In.later h ha))
  have HrA := hide hrA
  have hsz := size_mv m s
  clear hs
  have hadd : m.size + s.size ≤ 9223372036854775807 := by omega
  have hcat := fun W => run_string_add_sum (P := Tryd.prog) W m s hadd
  unfold pv at HPl ⊢
  clear ha hS hIt hrA
  go_enter Tryd.func3, Tryd.ntmps3
  go_wp2_with fail
  have hb0 : Below w.heap.size w (w.alloc (.cells #[.int .i64 a.k, .string a.t, .int .i64 a.n, .string a.nm, .slice a.xa a.len a.cap] 24)) := (Below.refl _ _).alloc (Nat.le_refl _) _
  have ga : (w.alloc (.cells #[.int .i64 a.k, .string a.t, .int .i64 a.n, .string a.nm, .slice a.xa a.len a.cap] 24)).heap[w.heap.size]? = some (.cells #[.int .i64 a.k, .string a.t, .int .i64 a.n, .string a.nm, .slice a.xa a.len a.cap] 24 (0, 0)) := at_new rfl
  refine (unhide HA _ hb0).mono ?_
  rintro e w1 ⟨rfl, hb1⟩
  obtain ⟨za, hza⟩ : ∃ za, za = w.heap.size := ⟨_, rfl⟩
  rw [← hza] at ga ⊢
  have HZ := hide (row_below ga hb1)
  have HB1 := hide (bnext hb0 hb1)
  clear hb0 hb1 hza HA ga
  obtain ⟨y0, y1, y2, y3, y4⟩ := held5 (unhide HZ) (Below.refl _ _)
  go_wp2_with fail
  refine (unhide H1 w1 (unhide HB1)).mono ?_
  rintro e w2 ⟨vl, L, rfl, hL, hb2, hLr⟩
  obtain ⟨al, cl, hvl, -, -⟩ := hL.row.len
  subst hvl
  have HZ2 := hide (row_below (unhide HZ) hb2)
  have HB2 := hide (bnext (unhide HB1) hb2)
  have HLL := hide (And.intro hL hLr)
  clear hL hLr hb2 HZ HB1 y0 y1 y2 y3 y4 H1
  obtain ⟨y0, y1, y2, y3, y4⟩ := held5 (unhide HZ2) (Below.refl _ _)
  cases hok : allOk rA with
  | false =>
    go_wp2_with fail
    go_ret
    exact ⟨rfl, unhide HB2⟩
  | true =>
    go_wp2_with fail
    refine (unhide HPl w2 (unhide HB2)).mono ?_
    rintro e w3 ⟨rfl, hb3⟩
    have HZ3 := hide (row_below (unhide HZ2) hb3)
    have HB3 := hide (bnext (unhide HB2) hb3)
    have HL3 := hide (And.intro ((unhide HLL).1.later hb3) (unhide HLL).2)
    clear hb3 HZ2 HB2 HLL HPl y0 y1 y2 y3 y4
    obtain ⟨y0, y1, y2, y3, y4⟩ := held5 (unhide HZ3) (Below.refl _ _)
    cases hp : a.plc with
    | true =>
      go_wp2_with fail
      go_ret
      exact ⟨rfl, unhide HB3⟩
    | false =>
      by_cases hbig : 65536 < m.size + s.size
      · have hwr : a.wrong = 0 := by
          obtain ⟨-, -, -, q, -⟩ := waysOf_ok (by rw [← unhide HrA]; exact hok)
          exact (wrongR_ok q).1
        have HQ := hide (unhide H3 w3 (unhide HB3) hwr (by omega) (by omega))
        have hw64 : wrap64 ((m.size : Int) + (s.size : Int)) = (m.size : Int) + (s.size : Int) := IntWalk.wrap64_in _ (by omega)
        have hgt : (65536 : Int) < (m.size : Int) + (s.size : Int) := by omega
        clear hwr hp hok
        go_wp2_with fail
        refine (unhide HQ).mono ?_
        rintro e w4 ⟨rfl, hb4⟩
        go_wp2_with fail
        go_ret
        exact ⟨by simp, bnext (unhide HB3) hb4⟩
      · have HRG := hide (range_told (by rw [← unhide HrA]; exact hok))
        rw [← unhide HrA] at HRG
        have HLr := hide (unhide HL3).2
        obtain ⟨hM1, hM2⟩ := moved_told (by rw [← unhide HrA]; exact hok) hp (show m.size + s.size ≤ 65536 by omega)
        rw [← unhide HrA] at hM1
        have HQ := hide (unhide H2 w3 (unhide HB3) (by unfold maxLen; omega))
        obtain ⟨rM, hrM⟩ : ∃ r, r = waysOf [] dg a (m ++ s) (m.size : Int) 4096 20000 := ⟨_, rfl⟩
        rw [← hrM] at HQ hM1 hM2
        have HM1 := hide hM1
        clear hp hok hrM hM1
        go_wp2_with fail
        refine (unhide HQ).mono ?_
        rintro e w4 ⟨vm, M, rfl, hM, hb4, hMr⟩
        obtain ⟨am, cm, hvm, -, -⟩ := hM.row.len
        subst hvm
        have hcut : rM.2.1 = rA.2.1 := by rw [unhide HM1]
        have hMm : M.map Wv.pr = (L.map Wv.pr).map (fun x => (x.1 + m.size, x.2)) := by rw [hMr, unhide HM1, (unhide HL3).2]
        have hlen : M.length = L.length := by
          have := congrArg List.length hMm
          simpa using this
        rw [hcut, hM2, hlen]
        obtain ⟨cut, hcu⟩ : ∃ cut, cut = rA.2.1 := ⟨_, rfl⟩
        rw [← hcu]
        have hcc : (cut != cut) = false := by simp
        have HB4 := hide (bnext (unhide HB3) hb4)
        have HL4 := hide ((unhide HL3).1.later hb4)
        have HM4 := hide (And.intro hM (And.intro hMm hlen))
        have hLm := hM.row.max
        rw [hlen] at hLm
        unfold maxLen at hLm
        clear hM hMr hb4 HB3 HL3 HZ3 HQ H2 H3 hcut hM2 hMm hlen hcu HM1 y0 y1 y2 y3 y4
        go_wp2_with fail
        go_loopw [60] (fun q wr => ∃ k : Nat, k ≤ L.length ∧ q = .int .i64 (k : Int) ∧ Below w4.heap.size w4 wr) (fun q _ => L.length - (intOf q).toNat)
        case atStart => exact ⟨0, Nat.zero_le _, rfl, Below.refl _ _⟩
        case round =>
          obtain ⟨k, hk, rfl, hb⟩ := hrel
          rcases Nat.lt_or_ge k L.length with hlt | hge
          · have hlt' : (k : Int) < (L.length : Int) := by omega
            have hkM : k < M.length := by rw [(unhide HM4).2.2]; exact hlt
            obtain ⟨lx, hlx⟩ : ∃ x, L[k]? = some x := ⟨_, List.getElem?_eq_getElem hlt⟩
            obtain ⟨mx, hmx⟩ : ∃ x, M[k]? = some x := ⟨_, List.getElem?_eq_getElem hkM⟩
            have hL := (unhide HL4).later hb
            have hM := (unhide HM4).1.later hb
            have hpr : mx.pr = (lx.to + m.size, lx.G) := by
              have h1 := congrArg (fun l : List (Nat × List Gft) => l[k]?) (unhide HM4).2.1
              simp only [List.getElem?_map, hmx, hlx, Option.map_some] at h1
              exact Option.some.inj h1
            have hto : mx.to = lx.to + m.size := congrArg Prod.fst hpr
            have hG : mx.G = lx.G := congrArg Prod.snd hpr
            obtain ⟨gl, cl2, hgl, -⟩ := hL.row.form (by intro e; rw [e] at hlt; simp at hlt)
            obtain ⟨gm, cm2, hgm, -⟩ := hM.row.form (by intro e; rw [e] at hkM; simp at hkM)
            have hgM := hM.gifts mx (List.mem_of_getElem? hmx)
            have hgL := hL.gifts lx (List.mem_of_getElem? hlx)
            unfold Wv.gv at hgM hgL
            rw [hG] at hgM
            injection hgl with hg1 hg2 hg3
            rw [(unhide HM4).2.2] at hgm
            injection hgm with hg4 hg5 hg6
            clear hg2 hg5
            subst hg1 hg3 hg4 hg6
            obtain ⟨n1, hn1⟩ : ∃ n1, n1 = lx.to + m.size := ⟨_, rfl⟩
            have o0 : wr.cell? ⟨gl, k * 2, none⟩ = some (.int .i64 (lx.to : Int)) := hL.row.cell wyV_len rfl hlx (k := 0) rfl
            have o1 : wr.cell? ⟨gl, k * 2 + 1, none⟩ = some (.slice lx.ga lx.G.length lx.gc) := hL.row.cell wyV_len rfl hlx (k := 1) rfl
            have p0 : wr.cell? ⟨gm, k * 2, none⟩ = some (.int .i64 (n1 : Int)) := by rw [hn1, ← hto]; exact hM.row.cell wyV_len (by rw [(unhide HM4).2.2]) hmx (k := 0) rfl
            have p1 : wr.cell? ⟨gm, k * 2 + 1, none⟩ = some (.slice mx.ga lx.G.length mx.gc) := by rw [← hG]; exact hM.row.cell wyV_len (by rw [(unhide HM4).2.2]) hmx (k := 1) rfl
            have i0 := idx_run (g := gl) (n := L.length) (cap := cl) Tryd.underlying26 size_way hlt
            have i1 := idx_run (g := gm) (n := L.length) (cap := cm) Tryd.underlying26 size_way hlt
            have HGL := hide hgL
            have HGM := hide hgM
            have hrng : lx.to ≤ 140737488351232 := by
              have := unhide HRG lx.pr (by rw [← unhide HLr]; exact List.mem_map_of_mem (List.mem_of_getElem? hlx))
              have h9 : lx.to ≤ s.size := this
              omega
            have hw1 : wrap64 ((lx.to : Int) + (m.size : Int)) = (n1 : Int) := by rw [IntWalk.wrap64_in _ (by omega)]; omega
            have hw2 : IntKind.i64.wrap ((lx.to : Int) + (m.size : Int)) = (n1 : Int) := (IntWalk.i64_left _).trans hw1
            have HBB := hide hb
            clear hL hM hpr hto hG hgM hgL hlx hmx hkM hb hn1 hrng
            go_wp2_with fail
            have hA : Below wr.heap.size wr wr.drew := (Below.refl _ _).drew
            go_region_held3 (fun w' => w'.cell? ⟨gl, k * 2, none⟩ = some (.int .i64 (lx.to : Int)) ∧ w'.cell? ⟨gl, k * 2 + 1, none⟩ = some (.slice lx.ga lx.G.length lx.gc) ∧ w'.cell? ⟨gm, k * 2, none⟩ = some (.int .i64 (n1 : Int)) ∧ w'.cell? ⟨gm, k * 2 + 1, none⟩ = some (.slice mx.ga lx.G.length mx.gc))
              (first | exact ⟨o0, o1, p0, p1⟩ | exact ⟨cell_later hA o0, cell_later hA o1, cell_later hA p0, cell_later hA p1⟩)
              (first | (go_at_call 7; refine (sameGifts_same ((unhide HGL).later hA) ((unhide HGM).later hA)).mono ?_; rintro e w8 ⟨rfl, hb8⟩; have hA := bnext hA hb8; clear hb8))
            go_wp2_with fail
            go_roundw
            case rel => exact ⟨k + 1, by omega, by simp, bnext (unhide HBB) hA⟩
            case measure => simp [intOf]; omega
          · have hge' : ¬ (k : Int) < (L.length : Int) := by omega
            go_wp2_with fail
            go_ret
            exact ⟨rfl, bnext (unhide HB4) hb⟩
end Go.Proofs.YtkggmodabpjobaaDoor
