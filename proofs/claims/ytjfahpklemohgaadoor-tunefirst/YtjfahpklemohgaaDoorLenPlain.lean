/- How few and how many bytes a pattern matches: its ways keep to what is said of it. -/
import Derived.Test.YtjfahpklemohgaaDoorExtPlain
import Derived.Test.YtjfahpklemohgaaDoorScanTell2R
namespace Go.Proofs.YtjfahpklemohgaaDoor
open Go.RowKit

/-- All ways end so. -/
def Al (P : Nat → Prop) (q : Sq) : Prop := ∀ x ∈ q.1, x.w = 3 → P x.a
section
variable {P Q : Nat → Prop}
theorem al_mono (h : ∀ e, P e → Q e) {q : Sq} (hq : Al P q) : Al Q q := fun x hx h3 => h _ (hq x hx h3)
theorem al_put {x : Ev} (hx : x.w = 3 → P x.a) {q : Sq} (h : Al P q) : Al P (put x q) := fun y hy => by
  rcases List.mem_cons.1 hy with rfl | hy
  · exact hx
  · exact h y hy
theorem al_no {x : Ev} (hx : x.w ≠ 3) {q : Sq} (h : Al P q) : Al P (put x q) := al_put (fun e => absurd e hx) h
theorem al_thn {p q : Sq} (hp : Al P p) (hq : Al P q) : Al P (thn p q) := by
  unfold thn
  split
  · intro x hx
    rcases List.mem_append.1 hx with h | h
    · exact hp x h
    · exact hq x h
  · exact hp
theorem al_end (n : Nat) : Al P ([], n) := fun _ h => by cases h
theorem al_nil : Al P nil := fun _ h => by cases h
theorem al_hs : Al P (one hs) := fun x hx => by rw [List.mem_singleton.1 hx]; exact fun h => absurd h (by decide)
theorem al_way {e : Nat} (g : List Gft) (h : P e) : Al P (one (wy e g)) := fun x hx => by
  rw [List.mem_singleton.1 hx]
  exact fun _ => h
theorem al_bnd {n : Nat} {f : Nat → List Gft → Sq} (hf : ∀ e g, Q e → Al P (f e g)) : ∀ l, (∀ x ∈ l, x.w = 3 → Q x.a) → Al P (bnd l n f)
  | [], _ => al_end n
  | x :: l, h => by
    have ih := al_bnd (n := n) hf l fun y hy => h y (List.mem_cons_of_mem _ hy)
    rw [bnd]
    split
    · rename_i hw
      exact al_thn (hf x.a x.g (h x (List.mem_cons_self ..) hw)) ih
    · rename_i hw
      exact al_no hw ih
theorem al_bd {q : Sq} {f : Nat → List Gft → Sq} (hq : Al Q q) (hf : ∀ e g, Q e → Al P (f e g)) : Al P (bd q f) := al_bnd hf q.1 hq
theorem al_ite {c : Prop} [Decidable c] {p q : Sq} (hp : c → Al P p) (hq : ¬ c → Al P q) : Al P (if c then p else q) := by
  split
  · exact hp (by assumption)
  · exact hq (by assumption)
end

/-- As few and as many as is said. -/
def Lo (e : Ex) (i a : Nat) : Prop := e.1 = true ∧ (i : Int) + e.2.1 ≤ (a : Int) ∧ (e.2.2 ≠ -1 → (a : Int) ≤ (i : Int) + e.2.2)
theorem lo_cat {a b : Ex} {i j e : Nat} (ha : Lo a i j) (hb : Lo b j e) : Lo (exCat a b) i e := by
  obtain ⟨a1, a2, a3⟩ := ha
  obtain ⟨b1, b2, b3⟩ := hb
  unfold exCat
  rw [if_neg (by rw [a1, b1]; simp)]
  refine ⟨rfl, ?_, ?_⟩
  · show (i : Int) + min _ _ ≤ _; omega
  · show ite _ _ _ ≠ -1 → (e : Int) ≤ (i : Int) + ite _ _ _
    split
    · exact fun h => absurd rfl h
    · rename_i q
      intro _
      have := a3 (fun h => q (.inl h))
      have := b3 (fun h => q (.inr (.inl h)))
      omega
theorem lo_alt1 {a b : Ex} {i e : Nat} (ha : Lo a i e) : Lo (exAlt a b) i e := by
  obtain ⟨a1, a2, a3⟩ := ha
  unfold exAlt
  split
  · exact ⟨a1, a2, a3⟩
  rw [if_neg (by rw [a1]; simp)]
  refine ⟨rfl, ?_, ?_⟩
  · show (i : Int) + min _ _ ≤ _; omega
  · show ite _ _ _ ≠ -1 → (e : Int) ≤ (i : Int) + ite _ _ _
    split
    · exact fun h => absurd rfl h
    · rename_i q
      intro _
      have := a3 (fun h => q (.inl h))
      omega
theorem lo_alt2 {a b : Ex} {i e : Nat} (hb : Lo b i e) : Lo (exAlt a b) i e := by
  obtain ⟨b1, b2, b3⟩ := hb
  unfold exAlt
  rw [if_neg (by rw [b1]; simp)]
  split
  · exact ⟨b1, b2, b3⟩
  refine ⟨rfl, ?_, ?_⟩
  · show (i : Int) + min _ _ ≤ _; omega
  · show ite _ _ _ ≠ -1 → (e : Int) ≤ (i : Int) + ite _ _ _
    split
    · exact fun h => absurd rfl h
    · rename_i q
      intro _
      have := b3 (fun h => q (.inr h))
      omega
theorem lo_altTo {f : Nat → Ex} {i e k : Nat} (h : Lo (f k) i e) : ∀ n, k < n → Lo (altTo f n) i e
  | 0, hk => by omega
  | n + 1, hk => by
    rw [altTo]
    rcases Nat.lt_or_ge k n with h1 | h1
    · exact lo_alt1 (lo_altTo h n h1)
    · obtain rfl : k = n := by omega
      exact lo_alt2 h
theorem lo_open {i e : Nat} (h : i ≤ e) : Lo (true, 0, -1) i e := ⟨rfl, by show (i : Int) + 0 ≤ (e : Int); omega, fun h => absurd rfl h⟩
theorem lo_here {i : Nat} : Lo (true, 0, 0) i i := ⟨rfl, by show (i : Int) + 0 ≤ (i : Int); omega, fun _ => by show (i : Int) ≤ (i : Int) + 0; omega⟩
section
variable {s : ByteArray} {R : ByteArray → Option PT} {dg : Nat → ByteArray}
/-- Where the ways of a pattern may end. -/
def In2 (s : ByteArray) (e : Ex) (i a : Nat) : Prop := i ≤ a ∧ a ≤ s.size ∧ Lo e i a
theorem al_arbs {i : Nat} (g : List Gft) : ∀ n e, i ≤ e → e + n ≤ s.size + 1 → Al (In2 s (true, 0, -1) i) (arbs g n e)
  | 0, _, _, _ => al_hs
  | n + 1, e, h1, h2 => al_no (by decide) (al_put (fun _ => ⟨h1, by show e ≤ s.size; omega, lo_open h1⟩) (al_arbs g n (e + 1) (by omega) (by omega)))
theorem al_bxs {i : Nat} (t : ByteArray) (g : List Gft) : ∀ n e, i ≤ e → Al (In2 s (true, 0, -1) i) (bxs s t g n e)
  | 0, _, _ => al_hs
  | n + 1, e, h1 => by
    have hge := unt_ge s t true _ e (Nat.le_refl _)
    rw [bxs]
    refine al_ite (fun h => al_no (by decide) (al_put (fun _ => ⟨by show i ≤ unt s t true e; omega, by show unt s t true e ≤ s.size; omega, lo_open (by show i ≤ unt s t true e; omega)⟩) (al_bxs t g n _ (by omega)))) (fun _ => al_hs)
theorem al_bls {i : Nat} (g : List Gft) : ∀ n e, i ≤ e → Al (In2 s (true, 1, -1) i) (bls s g n e)
  | 0, _, _ => al_hs
  | n + 1, e, h1 => by
    rw [bls]
    cases hp : prs s e with
    | none => exact al_hs
    | some t =>
      have := prs_gt hp
      exact al_no (by decide) (al_put (fun _ => ⟨by show i ≤ t; omega, this.2, rfl, by show (i : Int) + 1 ≤ (t : Int); omega, fun h => absurd rfl h⟩) (al_bls g n t (by omega)))
theorem al_cats {f : PT → Nat → List Gft → Sq} {T : PT} {i0 : Nat} : ∀ m j i g, (∀ k, k ≤ j + m → ∀ i g, i ≤ s.size → Al (In2 s (T.kid k).ext i) (f (T.kid k) i g)) → i0 ≤ i → i ≤ s.size → Lo (catTo (fun k => (T.kid k).ext) j) i0 i → Al (In2 s (catTo (fun k => (T.kid k).ext) (j + m + 1)) i0) (cats f T m j i g)
  | 0, j, i, g, hf, h0, hi, hl => al_mono (fun e he => ⟨Nat.le_trans h0 he.1, he.2.1, lo_cat hl he.2.2⟩) (hf j (by omega) i g hi)
  | m + 1, j, i, g, hf, h0, hi, hl => al_bd (hf j (by omega) i g hi) fun e g' he => al_no (by decide) (by
      have := al_cats m (j + 1) e g' (fun k hk => hf k (by omega)) (Nat.le_trans h0 he.1) he.2.1 (lo_cat hl he.2.2)
      rwa [show j + 1 + m + 1 = j + (m + 1) + 1 by omega] at this)
theorem al_alts {f : PT → Nat → List Gft → Sq} {T : PT} {i : Nat} (g : List Gft) {P : Nat → Prop} : ∀ m j, (∀ k, k < j + m → Al P (f (T.kid k) i g)) → Al P (alts f T i g m j)
  | 0, _, _ => al_nil
  | m + 1, j, hf => al_no (by decide) (al_thn (hf j (by omega)) (al_alts g m (j + 1) (fun k hk => hf k (by omega))))
theorem al_agn {f : PT → Nat → List Gft → Sq} {T : PT} {i0 : Nat} (hf : ∀ i g, i ≤ s.size → Al (fun e => i ≤ e ∧ e ≤ s.size) (f (T.kid 0) i g)) : ∀ m i g, i0 ≤ i → i ≤ s.size → Al (fun e => i0 ≤ e ∧ e ≤ s.size) (agn f T m i g)
  | 0, _, _, _, _ => al_end 3
  | m + 1, i, g, h0, hi => al_put (fun _ => ⟨h0, hi⟩) (al_no (by decide) (al_bd (hf i g hi) fun e g' he => al_no (by decide) (al_ite (fun _ => al_nil) fun _ => al_agn hf m e g' (Nat.le_trans h0 he.1) he.2)))
theorem al_agn0 {f : PT → Nat → List Gft → Sq} {T : PT} {i : Nat} (hf : ∀ g, Al (fun e => e = i) (f (T.kid 0) i g)) (m : Nat) (g : List Gft) : Al (fun e => e = i) (agn f T m i g) := by
  cases m with
  | zero => exact al_end 3
  | succ m => exact al_put (x := wy i g) (P := fun e => e = i) (fun _ => rfl) (al_no (x := hs) (by decide) (al_bd (hf g) fun e g' he => al_no (x := hs) (by decide) (al_ite (fun _ => al_nil) fun hn => absurd he hn)))
theorem onl_lo {T : PT} {i e : Nat} (ho : okS T.k T.t T.n T.len) (hi : i ≤ s.size) (hq : onl s T i = some e) : Lo T.ext i e := by
  have h1 := onl_ge hi ho hq
  rcases kinds24 ho.1 with q | q | q | q | q | q | q | q | q | q | q
  · rw [ext_1 q]
    rw [show onl s T i = if (sub s i (i + T.t.size)) = T.t then some (i + T.t.size) else none by unfold onl; simp [q]] at hq
    split at hq
    · obtain rfl := Option.some.inj hq
      exact ⟨rfl, by show (i : Int) + (T.t.size : Int) ≤ ((i + T.t.size : Nat) : Int); omega, fun _ => by show ((i + T.t.size : Nat) : Int) ≤ (i : Int) + (T.t.size : Int); omega⟩
    · cases hq
  · have hn := ho.2.2.1 (.inl q)
    rw [ext_2 q]
    rw [show onl s T i = if i + T.n.toNat ≤ s.size then some (i + T.n.toNat) else none by unfold onl; simp [q]] at hq
    split at hq
    · obtain rfl := Option.some.inj hq
      exact ⟨rfl, by show (i : Int) + T.n ≤ ((i + T.n.toNat : Nat) : Int); omega, fun _ => by show ((i + T.n.toNat : Nat) : Int) ≤ (i : Int) + T.n; omega⟩
    · cases hq
  · have he : e = i + 1 := by
      rcases q with q | q
      · rw [show onl s T i = if i < s.size ∧ inB T.t (byt s i) = true then some (i + 1) else none by unfold onl; simp [q]] at hq
        split at hq
        · exact (Option.some.inj hq).symm
        · cases hq
      · rw [show onl s T i = if i < s.size ∧ inB T.t (byt s i) = false then some (i + 1) else none by unfold onl; simp [q]] at hq
        split at hq
        · exact (Option.some.inj hq).symm
        · cases hq
    rw [ext_3 q, he]
    exact ⟨rfl, by show (i : Int) + 1 ≤ ((i + 1 : Nat) : Int); omega, fun _ => by show ((i + 1 : Nat) : Int) ≤ (i : Int) + 1; omega⟩
  · rw [ext_5 q]
    rcases q with q | q
    · rw [show onl s T i = if i < unt s T.t false i then some (unt s T.t false i) else none by unfold onl; simp [q]] at hq
      split at hq
      · obtain rfl := Option.some.inj hq
        exact ⟨rfl, by show (i : Int) + 1 ≤ (unt s T.t false i : Int); omega, fun h => absurd rfl h⟩
      · cases hq
    · rw [show onl s T i = none by unfold onl; simp [q]] at hq
      cases hq
  · have he : e = i := by
      rcases q with q | q | q | q
      · rw [show onl s T i = if i = T.n.toNat then some i else none by unfold onl; simp [q]] at hq
        split at hq
        · exact (Option.some.inj hq).symm
        · cases hq
      · rw [show onl s T i = if i + T.n.toNat = s.size then some i else none by unfold onl; simp [q]] at hq
        split at hq
        · exact (Option.some.inj hq).symm
        · cases hq
      all_goals
        rw [show onl s T i = none by unfold onl; simp [q]] at hq
        cases hq
    rw [ext_10 q, he]
    exact lo_here
  · rw [show onl s T i = none by unfold onl; rcases q with q | q <;> simp [q]] at hq
    cases hq
  · rw [show onl s T i = none by unfold onl; simp [q]] at hq
    cases hq
  · rw [show onl s T i = none by unfold onl; simp [q]] at hq
    cases hq
  · rw [show onl s T i = none by unfold onl; rcases q with q | q <;> simp [q]] at hq
    cases hq
  · rw [show onl s T i = none by unfold onl; simp [q]] at hq
    cases hq
  · rw [ext_rest q]
    exact lo_open h1
theorem D_lo (hR : ∀ nm U, R nm = some U → FineS U) : ∀ n T i g, FineS T → i ≤ s.size → Al (In2 s T.ext i) (D s R dg n T i g)
  | 0, _, _, _, _, _ => al_end 3
  | n + 1, T, i, g, hT, hi => by
    have ih := D_lo hR n
    have ho := hT.ok
    have hkid : ∀ k, k < T.len → ∀ i g, i ≤ s.size → Al (In2 s (T.kid k).ext i) (D s R dg n (T.kid k) i g) := fun k hk i g h => ih _ i g (hT.kid hk) h
    rw [D]
    refine al_no (by decide) (al_ite (fun _ => al_end 1) fun _ => al_ite (fun q => ?_) fun _ => al_ite (fun q => ?_) fun _ => al_ite (fun q => ?_) fun _ => al_ite (fun q => ?_) fun _ => al_ite (fun q => ?_) fun _ => al_ite (fun q => ?_) fun _ => al_ite (fun q => ?_) fun _ => al_ite (fun q => ?_) fun _ => al_ite (fun q => ?_) fun _ => al_ite (fun q => ?_) fun _ => al_ite (fun q => ?_) fun _ => ?_)
    · rw [ext_10 (by omega)]
      intro x hx
      rcases List.mem_cons.1 hx with rfl | hx
      · exact fun _ => ⟨Nat.le_refl _, hi, lo_here⟩
      · rw [List.mem_singleton.1 hx]; exact fun h => absurd h (by decide)
    · have hl := ho.2.2.2.2 (.inl q)
      have hk0 := hkid 0 (by omega)
      rw [ext_20 q hl]
      split
      · rename_i hz
        refine al_mono (P := fun e => e = i) (fun e he => by rw [he]; exact ⟨Nat.le_refl _, hi, lo_here⟩) (al_agn0 (fun g => al_mono (fun e he => ?_) (hk0 i g hi)) n g)
        obtain ⟨e1, e2, e3, e4, e5⟩ := he
        rcases hz with hz | hz
        · rw [hz] at e3; cases e3
        · have := e5 (by rw [hz]; decide)
          rw [hz] at this
          omega
      · exact al_mono (fun e he => ⟨he.1, he.2, lo_open he.1⟩) (al_agn (fun i g h => al_mono (fun e he => ⟨he.1, he.2.1⟩) (hk0 i g h)) n i g (Nat.le_refl _) hi)
    · rw [ext_19 q]
      exact al_alts g T.len 0 fun k hk => al_mono (fun e he => ⟨he.1, he.2.1, lo_altTo (f := fun i => (T.kid i).ext) he.2.2 T.len (by omega)⟩) (hkid k (by omega) i g hi)
    · rw [ext_rest (by omega)]
      exact al_arbs g _ _ (Nat.le_refl _) (by omega)
    · rw [ext_rest (by omega)]
      exact al_bxs _ g _ _ (Nat.le_refl _)
    · rw [ext_5 (by omega)]
      exact al_bls g _ _ (Nat.le_refl _)
    · have hl := ho.2.2.2.1 (.inl q)
      rw [ext_18 q]
      have := al_cats (s := s) (T := T) (T.len - 1) 0 i g (fun k hk => hkid k (by omega)) (Nat.le_refl i) hi lo_here
      rwa [show 0 + (T.len - 1) + 1 = T.len by omega] at this
    · have hl := ho.2.2.2.2 (.inr (.inl q))
      rw [ext_21 (.inl q) hl]
      exact al_bd (hkid 0 (by omega) i g hi) fun e g' he => al_no (by decide) (al_way _ he)
    · have hl := ho.2.2.2.2 (.inr (.inr q))
      rw [ext_21 (.inr q) hl]
      exact al_bd (hkid 0 (by omega) i g hi) fun e g' he => al_no (by show (2 : Nat) ≠ 3; decide) (al_way _ he)
    · rw [ext_rest (by omega)]
      split
      · rename_i U hU
        exact al_mono (fun e he => ⟨he.1, he.2.1, lo_open he.1⟩) (ih U i g (hR _ U hU) hi)
      · exact al_end 2
    · rw [ext_10 (by omega)]
      exact al_no (by show (2 : Nat) ≠ 3; decide) (al_way _ ⟨Nat.le_refl _, hi, lo_here⟩)
    · cases hq : onl s T i with
      | none => exact al_nil
      | some e => exact al_way g ⟨onl_ge hi ho hq, onl_le hi ho hq, onl_lo ho hi hq⟩
end
end Go.Proofs.YtjfahpklemohgaaDoor
