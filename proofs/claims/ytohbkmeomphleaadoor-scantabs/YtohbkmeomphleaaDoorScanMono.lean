/- Who looks deeper sees the same, and maybe more. -/
import Derived.Test.YtohbkmeomphleaaDoorScanPlain
namespace Go.Proofs.YtohbkmeomphleaaDoor

/-- The same; or all there is, as far as it is looked at. -/
def Le (p q : Sq) : Prop := p = q ∨ (p.2 = 3 ∧ p.1 <+: q.1)
theorem le_refl (p : Sq) : Le p p := .inl rfl
theorem le_bot (q : Sq) : Le ([], 3) q := .inr ⟨rfl, List.nil_prefix⟩
theorem le_put (x : Ev) {p q : Sq} (h : Le p q) : Le (put x p) (put x q) := by
  rcases h with rfl | ⟨h1, h2⟩
  · exact le_refl _
  · exact .inr ⟨h1, List.prefix_cons_inj x |>.2 h2⟩
theorem le_thn {p p' q q' : Sq} (h : Le p p') (k : Le q q') : Le (thn p q) (thn p' q') := by
  rcases h with rfl | ⟨h1, h2⟩
  · unfold thn
    split
    · rcases k with rfl | ⟨k1, k2⟩
      · exact le_refl _
      · exact .inr ⟨k1, (List.prefix_append_right_inj p.1).2 k2⟩
    · exact le_refl _
  · rw [thn_stop q (by omega)]
    unfold thn
    split
    · exact .inr ⟨h1, h2.trans (List.prefix_append _ _)⟩
    · exact .inr ⟨h1, h2⟩
theorem le_bnd {f f' : Nat → List Gft → Sq} (hf : ∀ e g, Le (f e g) (f' e g)) (r : List Ev) (n n' : Nat) (hr : (r = [] ∧ n = n') ∨ n = 3) : ∀ l, Le (bnd l n f) (bnd (l ++ r) n' f')
  | [] => by
    rcases hr with ⟨rfl, rfl⟩ | rfl
    · exact le_refl _
    · exact le_bot _
  | x :: l => by
    rw [List.cons_append, bnd, bnd]
    have ih := le_bnd hf r n n' hr l
    split
    · exact le_thn (hf _ _) ih
    · exact le_put x ih
theorem le_bd {p p' : Sq} {f f' : Nat → List Gft → Sq} (h : Le p p') (hf : ∀ e g, Le (f e g) (f' e g)) : Le (bd p f) (bd p' f') := by
  rcases h with rfl | ⟨h1, r, h2⟩
  · have := le_bnd hf [] p.2 p.2 (.inl ⟨rfl, rfl⟩) p.1
    rwa [List.append_nil] at this
  · have := le_bnd hf r p.2 p'.2 (.inr h1) p.1
    rw [h2] at this
    exact this
theorem le_ite {c : Prop} [Decidable c] {p q p' q' : Sq} (h : Le p p') (k : Le q q') : Le (if c then p else q) (if c then p' else q') := by
  split
  · exact h
  · exact k
theorem le_trans {p q r : Sq} (h : Le p q) (k : Le q r) : Le p r := by
  rcases h with rfl | ⟨h1, h2⟩
  · exact k
  · rcases k with rfl | ⟨_, k2⟩
    · exact .inr ⟨h1, h2⟩
    · exact .inr ⟨h1, h2.trans k2⟩

section
variable {f f' : PT → Nat → List Gft → Sq} (hf : ∀ U i g, Le (f U i g) (f' U i g)) (T : PT)
include hf
theorem cats_le : ∀ m j i g, Le (cats f T m j i g) (cats f' T m j i g)
  | 0, _, _, _ => hf _ _ _
  | m + 1, j, _, _ => le_bd (hf _ _ _) fun e g' => le_put _ (cats_le m (j + 1) e g')
theorem alts_le (i : Nat) (g : List Gft) : ∀ m j, Le (alts f T i g m j) (alts f' T i g m j)
  | 0, _ => le_refl _
  | m + 1, j => le_put _ (le_thn (hf _ _ _) (alts_le i g m (j + 1)))
theorem agn_le : ∀ m i g, Le (agn f T m i g) (agn f' T (m + 1) i g)
  | 0, _, _ => le_bot _
  | m + 1, _, _ => le_put _ (le_put _ (le_bd (hf _ _ _) fun e g' => le_put _ (le_ite (le_refl _) (agn_le m e g'))))
end
theorem D_le (s : ByteArray) (R : ByteArray → Option PT) (dg : Nat → ByteArray) : ∀ n T i g, Le (D s R dg n T i g) (D s R dg (n + 1) T i g)
  | 0, _, _, _ => le_bot _
  | n + 1, T, i, g => by
    have ih := D_le s R dg n
    rw [D, D]
    refine le_put _ (le_ite (le_refl _) (le_ite (le_refl _) (le_ite (agn_le ih _ _ _ _) (le_ite (alts_le ih _ _ _ _ _) (le_ite (le_refl _) (le_ite (le_refl _) (le_ite (le_refl _) (le_ite (cats_le ih _ _ _ _ _) (le_ite (le_bd (ih _ _ _) fun _ _ => le_refl _) (le_ite (le_bd (ih _ _ _) fun _ _ => le_refl _) (le_ite ?_ (le_ite (le_refl _) (le_refl _)))))))))))))
    cases R T.nm with
    | none => exact le_refl _
    | some U => exact ih _ _ _
theorem D_le_add (s : ByteArray) (R : ByteArray → Option PT) (dg : Nat → ByteArray) (n : Nat) (T : PT) (i : Nat) (g : List Gft) : ∀ m, Le (D s R dg n T i g) (D s R dg (n + m) T i g)
  | 0 => le_refl _
  | m + 1 => le_trans (D_le_add s R dg n T i g m) (D_le s R dg (n + m) T i g)
/-- Who has seen the end has seen all. -/
theorem D_same (s : ByteArray) (R : ByteArray → Option PT) (dg : Nat → ByteArray) {n m : Nat} (h : n ≤ m) (T : PT) (i : Nat) (g : List Gft) (he : (D s R dg n T i g).2 ≠ 3) : D s R dg m T i g = D s R dg n T i g := by
  have := D_le_add s R dg n T i g (m - n)
  rw [show n + (m - n) = m by omega] at this
  rcases this with e | ⟨e, _⟩
  · exact e.symm
  · exact absurd e he

/-- The ways alone, in order. -/
def wys (l : List Ev) : List Ev := l.filter fun x => x.w == 3
def onlyW (q : Sq) : Sq := (wys q.1, q.2)
theorem wys_append (a b : List Ev) : wys (a ++ b) = wys a ++ wys b := List.filter_append _ _
theorem onlyW_put {x : Ev} (h : x.w ≠ 3) (q : Sq) : onlyW (put x q) = onlyW q := by
  unfold onlyW put wys
  rw [List.filter_cons, if_neg (by simpa using h)]
theorem onlyW_thn (p q : Sq) : onlyW (thn p q) = thn (onlyW p) (onlyW q) := by
  unfold thn
  show onlyW (if p.2 = 0 then _ else _) = if p.2 = 0 then _ else _
  split
  · unfold onlyW
    rw [wys_append]
  · rfl
theorem onlyW_bd (q : Sq) (f : Nat → List Gft → Sq) : onlyW (bd q f) = bd (onlyW q) fun e g => onlyW (f e g) := by
  obtain ⟨l, n⟩ := q
  induction l with
  | nil => rfl
  | cons x l ih =>
    have ih' : onlyW (bnd l n f) = bnd (wys l) n fun e g => onlyW (f e g) := ih
    show onlyW (bnd (x :: l) n f) = bnd (wys (x :: l)) n _
    unfold wys at ih' ⊢
    rw [bnd, List.filter_cons]
    by_cases h : x.w = 3
    · rw [if_pos h, if_pos (by simpa using h), bnd, if_pos h, onlyW_thn, ih']
    · rw [if_neg h, if_neg (by simpa using h), onlyW_put h, ih']
end Go.Proofs.YtohbkmeomphleaaDoor
