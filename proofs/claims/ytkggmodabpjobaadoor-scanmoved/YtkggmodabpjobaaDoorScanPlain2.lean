/- What comes of trying a pattern, one thing behind the other: a list of events and how it ends; one behind the other, one for each way. What the ways of a pattern are, one behind the other, and what a machine with two lists makes of them. Who looks deeper sees the same, and maybe more. -/
import Derived.Test.YtkggmodabpjobaaDoorPatPlain
namespace Go.Proofs.YtkggmodabpjobaaDoor

/-- What is given a name. -/
abbrev Gft := ByteArray × ByteArray
/-- w: 0 a coming, 1 a turn, 2 something told, 3 a way; a: where it ends; g: what is given on it, or told. -/
structure Ev where
  w : Nat
  a : Nat
  g : List Gft
/-- Events, and the end: 0 no more, 1 nobody may look further, 2 a name without a rule, 3 beyond what is looked at. -/
abbrev Sq := List Ev × Nat

def tk : Ev := ⟨0, 0, []⟩
def hs : Ev := ⟨1, 0, []⟩
def sd (x : Gft) : Ev := ⟨2, 0, [x]⟩
def wy (e : Nat) (g : List Gft) : Ev := ⟨3, e, g⟩
def put (x : Ev) (q : Sq) : Sq := (x :: q.1, q.2)
def one (x : Ev) : Sq := ([x], 0)
def nil : Sq := ([], 0)
/-- One, and if it is at its end, the other one. -/
def thn (p q : Sq) : Sq := if p.2 = 0 then (p.1 ++ q.1, q.2) else p
/-- Behind each way something. -/
def bnd : List Ev → Nat → (Nat → List Gft → Sq) → Sq
  | [], n, _ => ([], n)
  | x :: r, n, f => if x.w = 3 then thn (f x.a x.g) (bnd r n f) else put x (bnd r n f)
def bd (q : Sq) (f : Nat → List Gft → Sq) : Sq := bnd q.1 q.2 f

theorem thn_nil (q : Sq) : thn nil q = q := rfl
theorem nil_thn (q : Sq) : thn q nil = q := by
  obtain ⟨l, n⟩ := q
  unfold thn nil
  by_cases h : n = 0
  · simp [h]
  · simp [h]
theorem thn_put (x : Ev) (p q : Sq) : thn (put x p) q = put x (thn p q) := by
  unfold thn put
  by_cases h : p.2 = 0
  · simp [h]
  · simp [h]
theorem thn_assoc (p q r : Sq) : thn (thn p q) r = thn p (thn q r) := by
  unfold thn
  by_cases h : p.2 = 0
  · by_cases k : q.2 = 0
    · simp [h, k]
    · simp [h, k]
  · simp [h]
theorem thn_stop {p : Sq} (q : Sq) (h : p.2 ≠ 0) : thn p q = p := if_neg h
theorem one_thn (x : Ev) (q : Sq) : thn (one x) q = put x q := rfl

theorem bd_nil (f : Nat → List Gft → Sq) : bd nil f = nil := rfl
theorem bd_end (n : Nat) (f : Nat → List Gft → Sq) : bd ([], n) f = ([], n) := rfl
theorem bd_put {x : Ev} (h : x.w ≠ 3) (q : Sq) (f : Nat → List Gft → Sq) : bd (put x q) f = put x (bd q f) := by
  show bnd (x :: q.1) q.2 f = _
  rw [bnd, if_neg h]; rfl
theorem bd_tk (q : Sq) (f : Nat → List Gft → Sq) : bd (put tk q) f = put tk (bd q f) := bd_put (by decide) q f
theorem bd_hs (q : Sq) (f : Nat → List Gft → Sq) : bd (put hs q) f = put hs (bd q f) := bd_put (by decide) q f
theorem bd_sd (x : Gft) (q : Sq) (f : Nat → List Gft → Sq) : bd (put (sd x) q) f = put (sd x) (bd q f) := bd_put (x := sd x) (by show (2 : Nat) ≠ 3; decide) q f
theorem bd_wy (e : Nat) (g : List Gft) (q : Sq) (f : Nat → List Gft → Sq) : bd (put (wy e g) q) f = thn (f e g) (bd q f) := by
  show bnd (wy e g :: q.1) q.2 f = _
  rw [bnd, if_pos (show (wy e g).w = 3 from rfl)]; rfl
theorem bd_one (e : Nat) (g : List Gft) (f : Nat → List Gft → Sq) : bd (one (wy e g)) f = f e g := by
  rw [show one (wy e g) = put (wy e g) nil from rfl, bd_wy, bd_nil, nil_thn]
theorem bnd_append (f : Nat → List Gft → Sq) (n : Nat) (m : List Ev) : ∀ l, bnd (l ++ m) n f = thn (bnd l 0 f) (bnd m n f)
  | [] => rfl
  | x :: l => by
    rw [List.cons_append, bnd, bnd, bnd_append f n m l]
    split
    · rw [thn_assoc]
    · rw [thn_put]
theorem bd_thn (p q : Sq) (f : Nat → List Gft → Sq) : bd (thn p q) f = thn (bd p f) (bd q f) := by
  obtain ⟨l, n⟩ := p
  by_cases h : n = 0
  · subst h
    exact bnd_append f q.2 q.1 l
  · rw [thn_stop (p := (l, n)) q h]
    have : ∀ l, (bnd l n f).2 ≠ 0 := by
      intro l
      induction l with
      | nil => exact h
      | cons x l ih =>
        rw [bnd]
        split
        · unfold thn
          split
          · exact ih
          · assumption
        · exact ih
    exact (thn_stop (p := bd (l, n) f) _ (this l)).symm
theorem bd_bd (q : Sq) (f k : Nat → List Gft → Sq) : bd (bd q f) k = bd q fun e g => bd (f e g) k := by
  obtain ⟨l, n⟩ := q
  induction l with
  | nil => rfl
  | cons x l ih =>
    show bd (bnd (x :: l) n f) k = bnd (x :: l) n _
    have ih' : bd (bnd l n f) k = bnd l n fun e g => bd (f e g) k := ih
    rw [bnd, bnd]
    split
    · rw [bd_thn, ih']
    · rw [bd_put (by assumption), ih']
theorem bd_unit (q : Sq) : bd q (fun e g => one (wy e g)) = q := by
  obtain ⟨l, n⟩ := q
  induction l with
  | nil => rfl
  | cons x l ih =>
    show bnd (x :: l) n _ = _
    have ih' : bnd l n (fun e g => one (wy e g)) = (l, n) := ih
    obtain ⟨w, a, g⟩ := x
    rw [bnd, ih']
    split
    · rename_i h
      simp only at h
      subst h
      rfl
    · rfl
theorem bd_congr (q : Sq) {f k : Nat → List Gft → Sq} (h : ∀ e g, f e g = k e g) : bd q f = bd q k := by
  rw [show f = k from funext fun e => funext fun g => h e g]

/-- How many comings. -/
def tks (l : List Ev) : Nat := (l.filter fun x => x.w == 0).length
theorem tks_nil : tks [] = 0 := rfl
theorem tks_append (l m : List Ev) : tks (l ++ m) = tks l + tks m := by unfold tks; rw [List.filter_append, List.length_append]
theorem tks_cons (x : Ev) (l : List Ev) : tks (x :: l) = (if x.w = 0 then 1 else 0) + tks l := by
  unfold tks
  rw [List.filter_cons]
  by_cases h : x.w = 0
  · simp [h]; omega
  · simp [h]
theorem tks_tk (l : List Ev) : tks (tk :: l) = 1 + tks l := tks_cons _ _

/-- Who comes beyond what is looked at has come so often. -/
def Dp (n : Nat) (q : Sq) : Prop := q.2 = 3 → n ≤ tks q.1
theorem dp_mono {n m : Nat} {q : Sq} (h : Dp n q) (k : m ≤ n) : Dp m q := fun e => Nat.le_trans k (h e)
theorem dp_thn {n : Nat} {p q : Sq} (hp : Dp n p) (hq : Dp n q) : Dp n (thn p q) := by
  unfold thn
  split
  · intro h
    have := hq h
    rw [show (p.1 ++ q.1, q.2).1 = p.1 ++ q.1 from rfl, tks_append]; omega
  · exact hp
theorem dp_put {n : Nat} {q : Sq} (x : Ev) (h : Dp n q) : Dp n (put x q) := fun e => by
  have := h e
  show n ≤ tks (x :: q.1)
  rw [tks_cons]; omega
theorem dp_tk {n : Nat} {q : Sq} (h : Dp n q) : Dp (n + 1) (put tk q) := fun e => by
  have := h e
  show n + 1 ≤ tks (tk :: q.1)
  rw [tks_tk]; omega
theorem dp_nil (n : Nat) : Dp n nil := fun h => by cases h
theorem dp_one (n : Nat) (x : Ev) : Dp n (one x) := fun h => by cases h
theorem dp_fin {n k : Nat} (l : List Ev) (h : k ≠ 3) : Dp n (l, k) := fun e => absurd e h
theorem dp_bd {n : Nat} {q : Sq} {f : Nat → List Gft → Sq} (hq : Dp n q) (hf : ∀ e g, Dp n (f e g)) : Dp n (bd q f) := by
  obtain ⟨l, m⟩ := q
  have : ∀ l, (m = 3 → tks l ≥ n → True) → ((bnd l m f).2 = 3 → n ≤ tks (bnd l m f).1 ∨ (m = 3 ∧ tks l ≤ tks (bnd l m f).1)) := by
    intro l _
    induction l with
    | nil => intro h; exact .inr ⟨h, Nat.le_refl _⟩
    | cons x l ih =>
      rw [bnd]
      split
      · rename_i hw
        unfold thn
        split
        · intro h
          have h' := ih (fun _ _ => trivial) h
          rw [show (((f x.a x.g).1 ++ (bnd l m f).1, (bnd l m f).2) : Sq).1 = (f x.a x.g).1 ++ (bnd l m f).1 from rfl, tks_append, tks_cons, if_neg (by omega)]
          rcases h' with h' | ⟨h1, h2⟩
          · exact .inl (by omega)
          · exact .inr ⟨h1, by omega⟩
        · intro h
          exact .inl (hf _ _ h)
      · intro h
        have h' := ih (fun _ _ => trivial) h
        show n ≤ tks (x :: (bnd l m f).1) ∨ (m = 3 ∧ tks (x :: l) ≤ tks (x :: (bnd l m f).1))
        rw [tks_cons, tks_cons]
        rcases h' with h' | ⟨h1, h2⟩
        · exact .inl (by omega)
        · exact .inr ⟨h1, by omega⟩
  intro h
  rcases this l (fun _ _ => trivial) h with h' | ⟨h1, h2⟩
  · exact h'
  · exact Nat.le_trans (hq h1) h2
/-- Behind something that has come once. -/
theorem dp_bd1 {n : Nat} {q : Sq} {f : Nat → List Gft → Sq} (hq : Dp (n + 1) (put tk q)) (hf : ∀ e g, Dp n (f e g)) : Dp (n + 1) (bd (put tk q) f) := by
  rw [bd_tk]
  refine dp_tk (dp_bd (fun e => ?_) hf)
  have := hq e
  have h2 : n + 1 ≤ tks (tk :: q.1) := this
  rw [tks_tk] at h2
  omega

end Go.Proofs.YtkggmodabpjobaaDoor

namespace Go.Proofs.YtkggmodabpjobaaDoor

/-- Is a byte one of a text's? -/
def inB (t : ByteArray) (b : Nat) : Bool := t.data.toList.any fun c => c.toNat == b
def byt (s : ByteArray) (i : Nat) : Nat := (s.data.toList.getD i 0).toNat
def sub (s : ByteArray) (a b : Nat) : ByteArray := s.extract a b
/-- The first place from here on with a byte of a text (or one that is none of it); or the end. -/
def untl (s t : ByteArray) (want : Bool) : Nat → Nat → Nat
  | 0, i => i
  | n + 1, i => if inB t (byt s i) = want then i else untl s t want n (i + 1)
def unt (s t : ByteArray) (want : Bool) (i : Nat) : Nat := untl s t want (s.size - i) i
/-- The nearest place behind this one with all brackets between in pairs. -/
def prd (s : ByteArray) : Nat → Int → Nat → Option Nat
  | 0, _, _ => none
  | n + 1, d, i =>
    let d' := if byt s i = 40 then d + 1 else if byt s i = 41 then d - 1 else d
    if d' = 0 then some (i + 1) else if d' < 0 then none else prd s n d' (i + 1)
def prs (s : ByteArray) (i : Nat) : Option Nat := prd s (s.size - i) 0 i

/-- Where the way of a node ends that has one at most. -/
def onl (s : ByteArray) (T : PT) (i : Nat) : Option Nat :=
  if T.k = 1 then (if (sub s i (i + T.t.size)) = T.t then some (i + T.t.size) else none)
  else if T.k = 2 then (if i + T.n.toNat ≤ s.size then some (i + T.n.toNat) else none)
  else if T.k = 3 then (if i < s.size ∧ inB T.t (byt s i) = true then some (i + 1) else none)
  else if T.k = 4 then (if i < s.size ∧ inB T.t (byt s i) = false then some (i + 1) else none)
  else if T.k = 5 then (if i < unt s T.t false i then some (unt s T.t false i) else none)
  else if T.k = 6 then (if unt s T.t true i < s.size then some (unt s T.t true i) else none)
  else if T.k = 8 then (if i ≤ T.n.toNat ∧ T.n.toNat ≤ s.size then some T.n.toNat else none)
  else if T.k = 9 then (if i + T.n.toNat ≤ s.size then some (s.size - T.n.toNat) else none)
  else if T.k = 10 then (if i = T.n.toNat then some i else none)
  else if T.k = 11 then (if i + T.n.toNat = s.size then some i else none)
  else if T.k = 12 then some s.size
  else none

def arbs (g : List Gft) : Nat → Nat → Sq
  | 0, _ => one hs
  | n + 1, e => put hs (put (wy e g) (arbs g n (e + 1)))
def bxs (s t : ByteArray) (g : List Gft) : Nat → Nat → Sq
  | 0, _ => one hs
  | n + 1, e => if unt s t true e < s.size then put hs (put (wy (unt s t true e) g) (bxs s t g n (unt s t true e + 1))) else one hs
def bls (s : ByteArray) (g : List Gft) : Nat → Nat → Sq
  | 0, _ => one hs
  | n + 1, e => match prs s e with
    | some t => put hs (put (wy t g) (bls s g n t))
    | none => one hs

section
variable (f : PT → Nat → List Gft → Sq) (T : PT)
/-- From kid j on, m more behind it. -/
def cats : Nat → Nat → Nat → List Gft → Sq
  | 0, j, i, g => f (T.kid j) i g
  | m + 1, j, i, g => bd (f (T.kid j) i g) fun e g' => put hs (cats m (j + 1) e g')
def alts (i : Nat) (g : List Gft) : Nat → Nat → Sq
  | 0, _ => nil
  | m + 1, j => put hs (thn (f (T.kid j) i g) (alts i g m (j + 1)))
def agn : Nat → Nat → List Gft → Sq
  | 0, _, _ => ([], 3)
  | m + 1, i, g => put (wy i g) (put hs (bd (f (T.kid 0) i g) fun e g' => put hs (if e = i then nil else agn m e g')))
end

/-- All that comes of a node at a place; n: how deep it is looked at. -/
def D (s : ByteArray) (R : ByteArray → Option PT) (dg : Nat → ByteArray) : Nat → PT → Nat → List Gft → Sq
  | 0, _, _, _ => ([], 3)
  | n + 1, T, i, g => put tk (
    if T.k = 17 then ([], 1)
    else if T.k = 16 then ([wy i g, hs], 1)
    else if T.k = 20 then agn (D s R dg n) T n i g
    else if T.k = 19 then alts (D s R dg n) T i g T.len 0
    else if T.k = 13 then arbs g (s.size + 1 - i) i
    else if T.k = 7 then bxs s T.t g (s.size + 1 - i) i
    else if T.k = 14 then bls s g (s.size + 1 - i) i
    else if T.k = 18 then cats (D s R dg n) T (T.len - 1) 0 i g
    else if T.k = 21 then bd (D s R dg n (T.kid 0) i g) fun e g' => put hs (one (wy e (g' ++ [(T.nm, sub s i e)])))
    else if T.k = 22 then bd (D s R dg n (T.kid 0) i g) fun e g' => put (sd (T.nm, sub s i e)) (one (wy e g'))
    else if T.k = 24 then (match R T.nm with | some U => D s R dg n U i g | none => ([], 2))
    else if T.k = 23 then put (sd (T.nm, dg i)) (one (wy i g))
    else match onl s T i with | some e => one (wy e g) | none => nil)

theorem arbs_end (g : List Gft) : ∀ n e, (arbs g n e).2 = 0
  | 0, _ => rfl
  | n + 1, e => arbs_end g n (e + 1)
theorem bxs_end (s t : ByteArray) (g : List Gft) : ∀ n e, (bxs s t g n e).2 = 0
  | 0, _ => rfl
  | n + 1, e => by
    rw [bxs]
    split
    · exact bxs_end s t g n _
    · rfl
theorem bls_end (s : ByteArray) (g : List Gft) : ∀ n e, (bls s g n e).2 = 0
  | 0, _ => rfl
  | n + 1, e => by
    rw [bls]
    split
    · exact bls_end s g n _
    · rfl

section
variable {f : PT → Nat → List Gft → Sq} {T : PT} {n : Nat}
theorem cats_dp (hf : ∀ U i g, Dp n (f U i g)) : ∀ m j i g, Dp n (cats f T m j i g)
  | 0, _, _, _ => hf _ _ _
  | m + 1, j, _, _ => dp_bd (hf _ _ _) fun e g' => dp_put _ (cats_dp hf m (j + 1) e g')
theorem alts_dp (hf : ∀ U i g, Dp n (f U i g)) (i : Nat) (g : List Gft) : ∀ m j, Dp n (alts f T i g m j)
  | 0, _ => dp_nil _
  | m + 1, j => dp_put _ (dp_thn (hf _ _ _) (alts_dp hf i g m (j + 1)))
end
theorem agn_dp {f : PT → Nat → List Gft → Sq} {T : PT} {n : Nat} (hf : ∀ U i g, Dp (n + 1) (f U i g)) (h1 : ∀ U i g, ∃ q, f U i g = put tk q) : ∀ m i g, m ≤ n + 1 → Dp m (agn f T m i g)
  | 0, _, _, _ => fun _ => Nat.zero_le _
  | m + 1, i, g, h => by
    refine dp_put _ (dp_put _ ?_)
    obtain ⟨q, hq⟩ := h1 (T.kid 0) i g
    have := hf (T.kid 0) i g
    rw [hq] at this ⊢
    refine dp_bd1 (dp_mono this h) fun e g' => dp_put _ ?_
    split
    · exact dp_nil _
    · exact agn_dp hf h1 m e g' (by omega)
theorem dp_ite {c : Prop} [Decidable c] {n : Nat} {p q : Sq} (hp : Dp n p) (hq : Dp n q) : Dp n (if c then p else q) := by
  split
  · exact hp
  · exact hq
theorem D_tk (s : ByteArray) (R : ByteArray → Option PT) (dg : Nat → ByteArray) (n : Nat) (T : PT) (i : Nat) (g : List Gft) : ∃ q, D s R dg (n + 1) T i g = put tk q := ⟨_, rfl⟩
theorem D_dp (s : ByteArray) (R : ByteArray → Option PT) (dg : Nat → ByteArray) : ∀ n T i g, Dp n (D s R dg n T i g)
  | 0, _, _, _ => fun _ => Nat.zero_le _
  | n + 1, T, i, g => by
    have ih := D_dp s R dg n
    rw [D]
    refine dp_tk ?_
    refine dp_ite (dp_fin _ (by decide)) (dp_ite (dp_fin _ (by decide)) (dp_ite ?_ (dp_ite (alts_dp ih _ _ _ _) (dp_ite ?_ (dp_ite ?_ (dp_ite ?_ (dp_ite (cats_dp ih _ _ _ _) (dp_ite ?_ (dp_ite ?_ (dp_ite ?_ (dp_ite (dp_put _ (dp_one _ _)) ?_)))))))))))
    · cases n with
      | zero => exact fun _ => Nat.zero_le _
      | succ n => exact agn_dp ih (D_tk s R dg n) _ _ _ (Nat.le_refl _)
    · exact fun h => by rw [arbs_end] at h; cases h
    · exact fun h => by rw [bxs_end] at h; cases h
    · exact fun h => by rw [bls_end] at h; cases h
    · exact dp_bd (ih _ _ _) fun _ _ => dp_put _ (dp_one _ _)
    · exact dp_bd (ih _ _ _) fun _ _ => dp_put _ (dp_one _ _)
    · split
      · exact ih _ _ _
      · exact dp_fin _ (by decide)
    · split
      · exact dp_one _ _
      · exact dp_nil _

/-- What is to be done behind: the node, its kid, the place where that began. -/
structure Wk where
  n : Nat
  m : Nat
  T : PT
  j : Nat
  i : Nat
/-- A choice: the node, what is next, where, what is behind, what has been given. -/
structure Ch where
  n : Nat
  m : Nat
  T : PT
  x : Nat
  i : Nat
  ch : List Wk
  g : List Gft

section
variable (s : ByteArray) (R : ByteArray → Option PT) (dg : Nat → ByteArray)
def K : List Wk → Nat → List Gft → Sq
  | [], e, g => one (wy e g)
  | w :: ws, e, g =>
    if w.T.k = 18 then put hs (bd (cats (D s R dg w.n) w.T (w.T.len - 1 - (w.j + 1)) (w.j + 1) e g) (K ws))
    else if w.T.k = 20 then put hs (if e = w.i then nil else bd (agn (D s R dg w.n) w.T w.m e g) (K ws))
    else if w.T.k = 21 then put hs (K ws e (g ++ [(w.T.nm, sub s w.i e)]))
    else put (sd (w.T.nm, sub s w.i e)) (K ws e g)
def Res (c : Ch) : Sq :=
  if c.T.k = 16 then ([hs], 1)
  else if c.T.k = 19 then alts (D s R dg c.n) c.T c.i c.g (c.T.len - c.x) c.x
  else if c.T.k = 20 then put hs (bd (D s R dg c.n (c.T.kid 0) c.i c.g) fun e g' => put hs (if e = c.i then nil else agn (D s R dg c.n) c.T c.m e g'))
  else if c.T.k = 13 then arbs c.g (s.size + 1 - c.x) c.x
  else if c.T.k = 7 then bxs s c.T.t c.g (s.size + 1 - c.x) c.x
  else bls s c.g (s.size + 1 - c.x) c.x
def Fa : List Ch → Sq
  | [] => nil
  | c :: cs => thn (bd (Res s R dg c) (K s R dg c.ch)) (Fa cs)
/-- What comes of coming to a node; of what is behind; of going back. -/
def dCome (n : Nat) (T : PT) (i : Nat) (g : List Gft) (ch : List Wk) (cs : List Ch) : Sq := thn (bd (D s R dg n T i g) (K s R dg ch)) (Fa s R dg cs)
def dBehind (i : Nat) (g : List Gft) (ch : List Wk) (cs : List Ch) : Sq := thn (K s R dg ch i g) (Fa s R dg cs)
def dBack (cs : List Ch) : Sq := Fa s R dg cs
end

section
variable {s : ByteArray} {R : ByteArray → Option PT} {dg : Nat → ByteArray} {n : Nat} {T : PT} {i : Nat} {g : List Gft} {ch : List Wk} {cs : List Ch}
theorem res16 {c : Ch} (h : c.T.k = 16) : Res s R dg c = ([hs], 1) := by unfold Res; rw [if_pos h]
theorem res19 {c : Ch} (h : c.T.k = 19) : Res s R dg c = alts (D s R dg c.n) c.T c.i c.g (c.T.len - c.x) c.x := by unfold Res; rw [if_neg (by omega), if_pos h]
theorem res20 {c : Ch} (h : c.T.k = 20) : Res s R dg c = put hs (bd (D s R dg c.n (c.T.kid 0) c.i c.g) fun e g' => put hs (if e = c.i then nil else agn (D s R dg c.n) c.T c.m e g')) := by unfold Res; rw [if_neg (by omega), if_neg (by omega), if_pos h]
theorem res13 {c : Ch} (h : c.T.k = 13) : Res s R dg c = arbs c.g (s.size + 1 - c.x) c.x := by unfold Res; rw [if_neg (by omega), if_neg (by omega), if_neg (by omega), if_pos h]
theorem res7 {c : Ch} (h : c.T.k = 7) : Res s R dg c = bxs s c.T.t c.g (s.size + 1 - c.x) c.x := by unfold Res; rw [if_neg (by omega), if_neg (by omega), if_neg (by omega), if_neg (by omega), if_pos h]
theorem res14 {c : Ch} (h : c.T.k = 14) : Res s R dg c = bls s c.g (s.size + 1 - c.x) c.x := by unfold Res; rw [if_neg (by omega), if_neg (by omega), if_neg (by omega), if_neg (by omega), if_neg (by omega)]
theorem K20 {w : Wk} (h : w.T.k = 20) (e : Nat) (g : List Gft) : K s R dg (w :: ch) e g = put hs (if e = w.i then nil else bd (agn (D s R dg w.n) w.T w.m e g) (K s R dg ch)) := by rw [K, if_neg (by omega), if_pos h]
theorem K21 {w : Wk} (h : w.T.k = 21) (e : Nat) (g : List Gft) : K s R dg (w :: ch) e g = put hs (K s R dg ch e (g ++ [(w.T.nm, sub s w.i e)])) := by rw [K, if_neg (by omega), if_neg (by omega), if_pos h]
theorem K22 {w : Wk} (h : w.T.k = 22) (e : Nat) (g : List Gft) : K s R dg (w :: ch) e g = put (sd (w.T.nm, sub s w.i e)) (K s R dg ch e g) := by rw [K, if_neg (by omega), if_neg (by omega), if_neg (by omega)]
theorem come_abort (h : T.k = 17) : dCome s R dg (n + 1) T i g ch cs = ([tk], 1) := by
  unfold dCome; rw [D, if_pos h, bd_tk, thn_put]; rfl
theorem come_fence (h : T.k = 16) (m : Nat) : dCome s R dg (n + 1) T i g ch cs = put tk (dBehind s R dg i g ch (⟨n, m, T, 0, i, ch, g⟩ :: cs)) := by
  unfold dCome; rw [D, if_neg (by omega), if_pos h, bd_tk, thn_put]
  unfold dBehind
  rw [Fa, res16 h, show (([wy i g, hs], 1) : Sq) = put (wy i g) ([hs], 1) from rfl, bd_wy, thn_assoc]
theorem come_arbno (h : T.k = 20) : dCome s R dg (n + 2) T i g ch cs = put tk (dBehind s R dg i g ch (⟨n + 1, n, T, 0, i, ch, g⟩ :: cs)) := by
  unfold dCome; rw [D, if_neg (by omega), if_neg (by omega), if_pos h, bd_tk, thn_put]
  unfold dBehind
  rw [Fa, res20 h, agn, bd_wy, thn_assoc]
theorem come_alt (h : T.k = 19) : dCome s R dg (n + 1) T i g ch cs = put tk (dBack s R dg (⟨n, 0, T, 0, i, ch, g⟩ :: cs)) := by
  unfold dCome; rw [D, if_neg (by omega), if_neg (by omega), if_neg (by omega), if_pos h, bd_tk, thn_put]
  unfold dBack
  rw [Fa, res19 h]; rfl
theorem come_arb (h : T.k = 13) : dCome s R dg (n + 1) T i g ch cs = put tk (dBack s R dg (⟨n, 0, T, i, i, ch, g⟩ :: cs)) := by
  unfold dCome; rw [D, if_neg (by omega), if_neg (by omega), if_neg (by omega), if_neg (by omega), if_pos h, bd_tk, thn_put]
  unfold dBack
  rw [Fa, res13 h]
theorem come_breakx (h : T.k = 7) : dCome s R dg (n + 1) T i g ch cs = put tk (dBack s R dg (⟨n, 0, T, i, i, ch, g⟩ :: cs)) := by
  unfold dCome; rw [D, if_neg (by omega), if_neg (by omega), if_neg (by omega), if_neg (by omega), if_neg (by omega), if_pos h, bd_tk, thn_put]
  unfold dBack
  rw [Fa, res7 h]
theorem come_bal (h : T.k = 14) : dCome s R dg (n + 1) T i g ch cs = put tk (dBack s R dg (⟨n, 0, T, i, i, ch, g⟩ :: cs)) := by
  unfold dCome; rw [D, if_neg (by omega), if_neg (by omega), if_neg (by omega), if_neg (by omega), if_neg (by omega), if_neg (by omega), if_pos h, bd_tk, thn_put]
  unfold dBack
  rw [Fa, res14 h]
theorem K_cat {w : Wk} (h : w.T.k = 18) (e : Nat) (g : List Gft) : K s R dg (w :: ch) e g = put hs (bd (cats (D s R dg w.n) w.T (w.T.len - 1 - (w.j + 1)) (w.j + 1) e g) (K s R dg ch)) := by rw [K, if_pos h]
/-- A kid is entered that is not the last one. -/
theorem cats_enter {m j : Nat} (h : T.k = 18) (hm : T.len - 1 - j = m + 1) : bd (cats (D s R dg n) T (m + 1) j i g) (K s R dg ch) = bd (D s R dg n (T.kid j) i g) (K s R dg (⟨n, 0, T, j, i⟩ :: ch)) := by
  rw [cats, bd_bd]
  refine bd_congr _ fun e g' => ?_
  rw [bd_hs, K_cat h]
  show put hs (bd (cats (D s R dg n) T m (j + 1) e g') _) = put hs (bd (cats (D s R dg n) T (T.len - 1 - (j + 1)) (j + 1) e g') _)
  rw [show T.len - 1 - (j + 1) = m by omega]
theorem come_cat (h : T.k = 18) (hl : 2 ≤ T.len) : dCome s R dg (n + 1) T i g ch cs = put tk (dCome s R dg n (T.kid 0) i g (⟨n, 0, T, 0, i⟩ :: ch) cs) := by
  obtain ⟨m, hm⟩ : ∃ m, T.len - 1 = m + 1 := ⟨T.len - 2, by omega⟩
  unfold dCome
  rw [D, if_neg (by omega), if_neg (by omega), if_neg (by omega), if_neg (by omega), if_neg (by omega), if_neg (by omega), if_neg (by omega), if_pos h, bd_tk, thn_put, hm, cats_enter h (by omega)]
theorem come_cond (h : T.k = 21) : dCome s R dg (n + 1) T i g ch cs = put tk (dCome s R dg n (T.kid 0) i g (⟨n, 0, T, 0, i⟩ :: ch) cs) := by
  unfold dCome
  rw [D, if_neg (by omega), if_neg (by omega), if_neg (by omega), if_neg (by omega), if_neg (by omega), if_neg (by omega), if_neg (by omega), if_neg (by omega), if_pos h, bd_tk, thn_put, bd_bd]
  congr 2
  refine bd_congr _ fun e g' => ?_
  rw [bd_hs, bd_one, K21 h]
theorem come_imm (h : T.k = 22) : dCome s R dg (n + 1) T i g ch cs = put tk (dCome s R dg n (T.kid 0) i g (⟨n, 0, T, 0, i⟩ :: ch) cs) := by
  unfold dCome
  rw [D, if_neg (by omega), if_neg (by omega), if_neg (by omega), if_neg (by omega), if_neg (by omega), if_neg (by omega), if_neg (by omega), if_neg (by omega), if_neg (by omega), if_pos h, bd_tk, thn_put, bd_bd]
  congr 2
  refine bd_congr _ fun e g' => ?_
  rw [bd_sd, bd_one, K22 h]
theorem come_call {U : PT} (h : T.k = 24) (hU : R T.nm = some U) : dCome s R dg (n + 1) T i g ch cs = put tk (dCome s R dg n U i g ch cs) := by
  unfold dCome
  rw [D, if_neg (by omega), if_neg (by omega), if_neg (by omega), if_neg (by omega), if_neg (by omega), if_neg (by omega), if_neg (by omega), if_neg (by omega), if_neg (by omega), if_neg (by omega), if_pos h, hU, bd_tk, thn_put]
theorem come_none (h : T.k = 24) (hU : R T.nm = none) : dCome s R dg (n + 1) T i g ch cs = ([tk], 2) := by
  unfold dCome
  rw [D, if_neg (by omega), if_neg (by omega), if_neg (by omega), if_neg (by omega), if_neg (by omega), if_neg (by omega), if_neg (by omega), if_neg (by omega), if_neg (by omega), if_neg (by omega), if_pos h, hU, bd_tk, thn_put]; rfl
theorem come_cursor (h : T.k = 23) : dCome s R dg (n + 1) T i g ch cs = put tk (put (sd (T.nm, dg i)) (dBehind s R dg i g ch cs)) := by
  unfold dCome
  rw [D, if_neg (by omega), if_neg (by omega), if_neg (by omega), if_neg (by omega), if_neg (by omega), if_neg (by omega), if_neg (by omega), if_neg (by omega), if_neg (by omega), if_neg (by omega), if_neg (by omega), if_pos h, bd_tk, thn_put, bd_sd, bd_one, thn_put]; rfl
/-- The kinds with one way at most. -/
def leafK (k : Int) : Prop := k ≠ 17 ∧ k ≠ 16 ∧ k ≠ 20 ∧ k ≠ 19 ∧ k ≠ 13 ∧ k ≠ 7 ∧ k ≠ 14 ∧ k ≠ 18 ∧ k ≠ 21 ∧ k ≠ 22 ∧ k ≠ 24 ∧ k ≠ 23
theorem D_leaf (h : leafK T.k) : D s R dg (n + 1) T i g = put tk (match onl s T i with | some e => one (wy e g) | none => nil) := by
  obtain ⟨h1, h2, h3, h4, h5, h6, h7, h8, h9, h10, h11, h12⟩ := h
  rw [D, if_neg h1, if_neg h2, if_neg h3, if_neg h4, if_neg h5, if_neg h6, if_neg h7, if_neg h8, if_neg h9, if_neg h10, if_neg h11, if_neg h12]
theorem come_leaf {e : Nat} (h : leafK T.k) (ho : onl s T i = some e) : dCome s R dg (n + 1) T i g ch cs = put tk (dBehind s R dg e g ch cs) := by
  unfold dCome
  rw [D_leaf h, ho, bd_tk, thn_put]
  show put tk (thn (bd (one (wy e g)) _) _) = _
  rw [bd_one]; rfl
theorem come_leaf_no (h : leafK T.k) (ho : onl s T i = none) : dCome s R dg (n + 1) T i g ch cs = put tk (dBack s R dg cs) := by
  unfold dCome
  rw [D_leaf h, ho, bd_tk, thn_put]; rfl

/-- What is behind. -/
theorem behind_cat {w : Wk} (h : w.T.k = 18) (hj : w.j + 2 < w.T.len) : dBehind s R dg i g (w :: ch) cs = put hs (dCome s R dg w.n (w.T.kid (w.j + 1)) i g (⟨w.n, 0, w.T, w.j + 1, i⟩ :: ch) cs) := by
  obtain ⟨m, hm⟩ : ∃ m, w.T.len - 1 - (w.j + 1) = m + 1 := ⟨w.T.len - 1 - (w.j + 2), by omega⟩
  unfold dBehind dCome
  rw [K_cat h, hm, cats_enter h hm, thn_put]
theorem behind_cat_last {w : Wk} (h : w.T.k = 18) (hj : w.j + 2 = w.T.len) : dBehind s R dg i g (w :: ch) cs = put hs (dCome s R dg w.n (w.T.kid (w.j + 1)) i g ch cs) := by
  unfold dBehind dCome
  rw [K_cat h, show w.T.len - 1 - (w.j + 1) = 0 by omega, cats, thn_put]
theorem behind_arbno_same {w : Wk} (h : w.T.k = 20) (hi : i = w.i) : dBehind s R dg i g (w :: ch) cs = put hs (dBack s R dg cs) := by
  unfold dBehind
  rw [K20 h, if_pos hi, thn_put]; rfl
theorem behind_arbno {w : Wk} {m : Nat} (h : w.T.k = 20) (hi : i ≠ w.i) (hm : w.m = m + 1) : dBehind s R dg i g (w :: ch) cs = put hs (dBehind s R dg i g ch (⟨w.n, m, w.T, 0, i, ch, g⟩ :: cs)) := by
  unfold dBehind
  rw [K20 h, if_neg hi, thn_put, hm, agn, bd_wy, thn_assoc, Fa, res20 (c := ⟨w.n, m, w.T, 0, i, ch, g⟩) h]
theorem behind_cond {w : Wk} (h : w.T.k = 21) : dBehind s R dg i g (w :: ch) cs = put hs (dBehind s R dg i (g ++ [(w.T.nm, sub s w.i i)]) ch cs) := by
  unfold dBehind
  rw [K21 h, thn_put]
theorem behind_imm {w : Wk} (h : w.T.k = 22) : dBehind s R dg i g (w :: ch) cs = put (sd (w.T.nm, sub s w.i i)) (dBehind s R dg i g ch cs) := by
  unfold dBehind
  rw [K22 h, thn_put]
theorem behind_nothing : dBehind s R dg i g [] cs = put (wy i g) (dBack s R dg cs) := rfl

/-- Going back. -/
theorem back_nothing : dBack s R dg [] = nil := rfl
theorem back_fence {c : Ch} (h : c.T.k = 16) : dBack s R dg (c :: cs) = ([hs], 1) := by
  unfold dBack
  rw [Fa, res16 h]; rfl
theorem back_alt {c : Ch} (h : c.T.k = 19) (hx : c.x + 1 < c.T.len) : dBack s R dg (c :: cs) = put hs (dCome s R dg c.n (c.T.kid c.x) c.i c.g c.ch ({ c with x := c.x + 1 } :: cs)) := by
  unfold dBack dCome
  rw [Fa, Fa, res19 h, res19 (c := { c with x := c.x + 1 }) h, show c.T.len - c.x = (c.T.len - (c.x + 1)) + 1 by omega, alts, bd_hs, thn_put, bd_thn, thn_assoc]
theorem back_alt_last {c : Ch} (h : c.T.k = 19) (hx : c.x + 1 = c.T.len) : dBack s R dg (c :: cs) = put hs (dCome s R dg c.n (c.T.kid c.x) c.i c.g c.ch cs) := by
  unfold dBack dCome
  rw [Fa, res19 h, show c.T.len - c.x = 0 + 1 by omega, alts, alts, bd_hs, thn_put, nil_thn]
theorem back_arbno {c : Ch} (h : c.T.k = 20) : dBack s R dg (c :: cs) = put hs (dCome s R dg c.n (c.T.kid 0) c.i c.g (⟨c.n, c.m, c.T, 0, c.i⟩ :: c.ch) cs) := by
  unfold dBack dCome
  rw [Fa, res20 h, bd_hs, thn_put, bd_bd]
  congr 2
  refine bd_congr _ fun e g' => ?_
  rw [bd_hs, K20 h]
  congr 1
  split <;> rfl
theorem back_arb {c : Ch} (h : c.T.k = 13) (hx : c.x ≤ s.size) : dBack s R dg (c :: cs) = put hs (dBehind s R dg c.x c.g c.ch ({ c with x := c.x + 1 } :: cs)) := by
  unfold dBack dBehind
  rw [Fa, Fa, res13 h, res13 (c := { c with x := c.x + 1 }) h, show s.size + 1 - c.x = (s.size + 1 - (c.x + 1)) + 1 by omega, arbs, bd_hs, thn_put, bd_wy, thn_assoc]
theorem back_arb_no {c : Ch} (h : c.T.k = 13) (hx : s.size < c.x) : dBack s R dg (c :: cs) = put hs (dBack s R dg cs) := by
  unfold dBack
  rw [Fa, res13 h, show s.size + 1 - c.x = 0 by omega, arbs]; rfl
theorem back_breakx {c : Ch} (h : c.T.k = 7) (hc : c.x ≤ unt s c.T.t true c.x) (hx : unt s c.T.t true c.x < s.size) : dBack s R dg (c :: cs) = put hs (dBehind s R dg (unt s c.T.t true c.x) c.g c.ch ({ c with x := unt s c.T.t true c.x + 1 } :: cs)) := by
  have key : ∀ m m' e, s.size - e ≤ m → s.size - e ≤ m' → bxs s c.T.t c.g m e = bxs s c.T.t c.g m' e := by
    intro m
    induction m with
    | zero =>
      intro m' e h1 _
      cases m' with
      | zero => rfl
      | succ m' =>
        have hu : unt s c.T.t true e = e := by unfold unt; rw [show s.size - e = 0 by omega]; rfl
        rw [bxs, bxs, if_neg (by omega)]
    | succ m ih =>
      intro m' e h1 h2
      have hge : ∀ n i, i ≤ untl s c.T.t true n i := by
        intro n
        induction n with
        | zero => exact fun i => Nat.le_refl _
        | succ n ih =>
          intro i
          rw [untl]
          split
          · exact Nat.le_refl _
          · exact Nat.le_trans (Nat.le_succ i) (ih (i + 1))
      have hu : e ≤ unt s c.T.t true e := hge _ _
      cases m' with
      | zero =>
        rw [bxs, bxs, if_neg (by omega)]
      | succ m' =>
        rw [bxs, bxs]
        split
        · rw [ih m' _ (by omega) (by omega)]
        · rfl
  unfold dBack dBehind
  rw [Fa, Fa, res7 h, res7 (c := { c with x := unt s c.T.t true c.x + 1 }) h, show s.size + 1 - c.x = (s.size - c.x) + 1 by omega, bxs, if_pos hx, bd_hs, thn_put, bd_wy, thn_assoc]
  rw [key (s.size - c.x) (s.size + 1 - (unt s c.T.t true c.x + 1)) _ (by omega) (by omega)]
theorem back_breakx_no {c : Ch} (h : c.T.k = 7) (hx : s.size ≤ unt s c.T.t true c.x) : dBack s R dg (c :: cs) = put hs (dBack s R dg cs) := by
  unfold dBack
  rw [Fa, res7 h]
  cases hm : s.size + 1 - c.x with
  | zero => rw [bxs]; rfl
  | succ m => rw [bxs, if_neg (by omega)]; rfl
theorem prd_gt (s : ByteArray) {t : Nat} : ∀ n d i, prd s n d i = some t → i < t ∧ t ≤ i + n
  | 0, _, _, h => by cases h
  | n + 1, d, i, h => by
    rw [prd] at h
    generalize (if byt s i = 40 then d + 1 else if byt s i = 41 then d - 1 else d) = d' at h
    split at h
    · injection h with h; omega
    · split at h
      · cases h
      · have := prd_gt s n _ _ h; omega
theorem prs_gt {t : Nat} (h : prs s i = some t) : i < t ∧ t ≤ s.size := by
  have := prd_gt s _ _ _ h
  rcases Nat.lt_or_ge i s.size with h1 | h1
  · omega
  · unfold prs at h
    rw [show s.size - i = 0 by omega] at h
    cases h
theorem bls_any (g : List Gft) : ∀ m m' e, s.size - e ≤ m → s.size - e ≤ m' → bls s g m e = bls s g m' e := by
  intro m
  induction m with
  | zero =>
    intro m' e h1 _
    cases m' with
    | zero => rfl
    | succ m' =>
      have hu : prs s e = none := by unfold prs; rw [show s.size - e = 0 by omega]; rfl
      rw [bls, bls, hu]
  | succ m ih =>
    intro m' e h1 h2
    cases m' with
    | zero =>
      have hu : prs s e = none := by unfold prs; rw [show s.size - e = 0 by omega]; rfl
      rw [bls, bls, hu]
    | succ m' =>
      rw [bls, bls]
      cases hp : prs s e with
      | none => rfl
      | some t =>
        have := prs_gt hp
        show put hs (put _ _) = put hs (put _ _)
        rw [ih m' t (by omega) (by omega)]
theorem back_bal {c : Ch} {t : Nat} (h : c.T.k = 14) (hx : prs s c.x = some t) : dBack s R dg (c :: cs) = put hs (dBehind s R dg t c.g c.ch ({ c with x := t } :: cs)) := by
  have := prs_gt hx
  unfold dBack dBehind
  rw [Fa, Fa, res14 h, res14 (c := { c with x := t }) h, show s.size + 1 - c.x = (s.size - c.x) + 1 by omega, bls, hx]
  show thn (bd (put hs (put _ _)) _) _ = _
  rw [bd_hs, thn_put, bd_wy, thn_assoc, bls_any c.g (s.size - c.x) (s.size + 1 - t) t (by omega) (by omega)]
theorem back_bal_no {c : Ch} (h : c.T.k = 14) (hx : prs s c.x = none) : dBack s R dg (c :: cs) = put hs (dBack s R dg cs) := by
  unfold dBack
  rw [Fa, res14 h]
  cases hm : s.size + 1 - c.x with
  | zero => rw [bls]; rfl
  | succ m => rw [bls, hx]; rfl
end
end Go.Proofs.YtkggmodabpjobaaDoor

namespace Go.Proofs.YtkggmodabpjobaaDoor

/-- The same; or all there is, as far as it is looked at. -/
def Le (p q : Sq) : Prop := p = q ∨ (p.2 = 3 ∧ p.1 <+: q.1)
theorem le_refl (p : Sq) : Le p p := .inl rfl
theorem le_bot (q : Sq) : Le ([], 3) q := .inr ⟨rfl, List.nil_prefix⟩
theorem le_put (x : Ev) {p q : Sq} (h : Le p q) : Le (put x p) (put x q) := by
  rcases h with rfl | ⟨h1, h2⟩
  · exact le_refl _
  · exact .inr ⟨h1, List.prefix_cons_inj x |>.2 h2⟩
theorem le_thn {p p' q q' : Sq} (h : Le p p') (k : Le q q') : Le (thn p q) (thn p' q') := by
  rcases h with rfl | ⟨h1, h2⟩
  · unfold thn
    split
    · rcases k with rfl | ⟨k1, k2⟩
      · exact le_refl _
      · exact .inr ⟨k1, (List.prefix_append_right_inj p.1).2 k2⟩
    · exact le_refl _
  · rw [thn_stop q (by omega)]
    unfold thn
    split
    · exact .inr ⟨h1, h2.trans (List.prefix_append _ _)⟩
    · exact .inr ⟨h1, h2⟩
theorem le_bnd {f f' : Nat → List Gft → Sq} (hf : ∀ e g, Le (f e g) (f' e g)) (r : List Ev) (n n' : Nat) (hr : (r = [] ∧ n = n') ∨ n = 3) : ∀ l, Le (bnd l n f) (bnd (l ++ r) n' f')
  | [] => by
    rcases hr with ⟨rfl, rfl⟩ | rfl
    · exact le_refl _
    · exact le_bot _
  | x :: l => by
    rw [List.cons_append, bnd, bnd]
    have ih := le_bnd hf r n n' hr l
    split
    · exact le_thn (hf _ _) ih
    · exact le_put x ih
theorem le_bd {p p' : Sq} {f f' : Nat → List Gft → Sq} (h : Le p p') (hf : ∀ e g, Le (f e g) (f' e g)) : Le (bd p f) (bd p' f') := by
  rcases h with rfl | ⟨h1, r, h2⟩
  · have := le_bnd hf [] p.2 p.2 (.inl ⟨rfl, rfl⟩) p.1
    rwa [List.append_nil] at this
  · have := le_bnd hf r p.2 p'.2 (.inr h1) p.1
    rw [h2] at this
    exact this
theorem le_ite {c : Prop} [Decidable c] {p q p' q' : Sq} (h : Le p p') (k : Le q q') : Le (if c then p else q) (if c then p' else q') := by
  split
  · exact h
  · exact k
theorem le_trans {p q r : Sq} (h : Le p q) (k : Le q r) : Le p r := by
  rcases h with rfl | ⟨h1, h2⟩
  · exact k
  · rcases k with rfl | ⟨_, k2⟩
    · exact .inr ⟨h1, h2⟩
    · exact .inr ⟨h1, h2.trans k2⟩

section
variable {f f' : PT → Nat → List Gft → Sq}
theorem cats_le (hf : ∀ U i g, Le (f U i g) (f' U i g)) (T : PT) : ∀ m j i g, Le (cats f T m j i g) (cats f' T m j i g)
  | 0, _, _, _ => hf _ _ _
  | m + 1, j, _, _ => le_bd (hf _ _ _) fun e g' => le_put _ (cats_le hf T m (j + 1) e g')
theorem alts_le (hf : ∀ U i g, Le (f U i g) (f' U i g)) (T : PT) (i : Nat) (g : List Gft) : ∀ m j, Le (alts f T i g m j) (alts f' T i g m j)
  | 0, _ => le_refl _
  | m + 1, j => le_put _ (le_thn (hf _ _ _) (alts_le hf T i g m (j + 1)))
theorem agn_le (hf : ∀ U i g, Le (f U i g) (f' U i g)) (T : PT) : ∀ m i g, Le (agn f T m i g) (agn f' T (m + 1) i g)
  | 0, _, _ => le_bot _
  | m + 1, _, _ => le_put _ (le_put _ (le_bd (hf _ _ _) fun e g' => le_put _ (le_ite (le_refl _) (agn_le hf T m e g'))))
end
theorem D_le (s : ByteArray) (R : ByteArray → Option PT) (dg : Nat → ByteArray) : ∀ n T i g, Le (D s R dg n T i g) (D s R dg (n + 1) T i g)
  | 0, _, _, _ => le_bot _
  | n + 1, T, i, g => by
    have ih := D_le s R dg n
    rw [D, D]
    refine le_put _ (le_ite (le_refl _) (le_ite (le_refl _) (le_ite (agn_le ih _ _ _ _) (le_ite (alts_le ih _ _ _ _ _) (le_ite (le_refl _) (le_ite (le_refl _) (le_ite (le_refl _) (le_ite (cats_le ih _ _ _ _ _) (le_ite (le_bd (ih _ _ _) fun _ _ => le_refl _) (le_ite (le_bd (ih _ _ _) fun _ _ => le_refl _) (le_ite ?_ (le_ite (le_refl _) (le_refl _)))))))))))))
    cases R T.nm with
    | none => exact le_refl _
    | some U => exact ih _ _ _
theorem D_le_add (s : ByteArray) (R : ByteArray → Option PT) (dg : Nat → ByteArray) (n : Nat) (T : PT) (i : Nat) (g : List Gft) : ∀ m, Le (D s R dg n T i g) (D s R dg (n + m) T i g)
  | 0 => le_refl _
  | m + 1 => le_trans (D_le_add s R dg n T i g m) (D_le s R dg (n + m) T i g)
/-- Who has seen the end has seen all. -/
theorem D_same (s : ByteArray) (R : ByteArray → Option PT) (dg : Nat → ByteArray) {n m : Nat} (h : n ≤ m) (T : PT) (i : Nat) (g : List Gft) (he : (D s R dg n T i g).2 ≠ 3) : D s R dg m T i g = D s R dg n T i g := by
  have := D_le_add s R dg n T i g (m - n)
  rw [show n + (m - n) = m by omega] at this
  rcases this with e | ⟨e, _⟩
  · exact e.symm
  · exact absurd e he

/-- The ways alone, in order. -/
def wys (l : List Ev) : List Ev := l.filter fun x => x.w == 3
def onlyW (q : Sq) : Sq := (wys q.1, q.2)
theorem wys_append (a b : List Ev) : wys (a ++ b) = wys a ++ wys b := List.filter_append _ _
theorem onlyW_put {x : Ev} (h : x.w ≠ 3) (q : Sq) : onlyW (put x q) = onlyW q := by
  unfold onlyW put wys
  rw [List.filter_cons, if_neg (by simpa using h)]
theorem onlyW_thn (p q : Sq) : onlyW (thn p q) = thn (onlyW p) (onlyW q) := by
  unfold thn
  show onlyW (if p.2 = 0 then _ else _) = if p.2 = 0 then _ else _
  split
  · unfold onlyW
    rw [wys_append]
  · rfl
theorem onlyW_bd (q : Sq) (f : Nat → List Gft → Sq) : onlyW (bd q f) = bd (onlyW q) fun e g => onlyW (f e g) := by
  obtain ⟨l, n⟩ := q
  induction l with
  | nil => rfl
  | cons x l ih =>
    have ih' : onlyW (bnd l n f) = bnd (wys l) n fun e g => onlyW (f e g) := ih
    show onlyW (bnd (x :: l) n f) = bnd (wys (x :: l)) n _
    unfold wys at ih' ⊢
    rw [bnd, List.filter_cons]
    by_cases h : x.w = 3
    · rw [if_pos h, if_pos (by simpa using h), bnd, if_pos h, onlyW_thn, ih']
    · rw [if_neg h, if_neg (by simpa using h), onlyW_put h, ih']
end Go.Proofs.YtkggmodabpjobaaDoor
