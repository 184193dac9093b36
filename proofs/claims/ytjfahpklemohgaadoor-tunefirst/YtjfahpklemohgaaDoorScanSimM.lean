/- What comes of trying a pattern, one thing behind the other: a list of events and how it ends; one behind the other, one for each way. What the ways of a pattern are, one behind the other, and what a machine with two lists makes of them. Who looks deeper sees the same, and maybe more. How the machine lies in memory: a block of nineteen fields and six rows. How the machine's lists stand for what is to be done: nodes for a pattern, works for what is behind, choices for where it may go back to. -/
import Derived.Test.YtjfahpklemohgaaDoorPatSizeM
import Derived.Maps.AppendAt
namespace Go.Proofs.YtjfahpklemohgaaDoor

/-- What is given a name. -/
abbrev Gft := ByteArray × ByteArray
/-- w: 0 a coming, 1 a turn, 2 something told, 3 a way; a: where it ends; g: what is given on it, or told. -/
structure Ev where
  w : Nat
  a : Nat
  g : List Gft
/-- Events, and the end: 0 no more, 1 nobody may look further, 2 a name without a rule, 3 beyond what is looked at. -/
abbrev Sq := List Ev × Nat

def tk : Ev := ⟨0, 0, []⟩
def hs : Ev := ⟨1, 0, []⟩
def sd (x : Gft) : Ev := ⟨2, 0, [x]⟩
def wy (e : Nat) (g : List Gft) : Ev := ⟨3, e, g⟩
def put (x : Ev) (q : Sq) : Sq := (x :: q.1, q.2)
def one (x : Ev) : Sq := ([x], 0)
def nil : Sq := ([], 0)
/-- One, and if it is at its end, the other one. -/
def thn (p q : Sq) : Sq := if p.2 = 0 then (p.1 ++ q.1, q.2) else p
/-- Behind each way something. -/
def bnd : List Ev → Nat → (Nat → List Gft → Sq) → Sq
  | [], n, _ => ([], n)
  | x :: r, n, f => if x.w = 3 then thn (f x.a x.g) (bnd r n f) else put x (bnd r n f)
def bd (q : Sq) (f : Nat → List Gft → Sq) : Sq := bnd q.1 q.2 f

theorem thn_nil (q : Sq) : thn nil q = q := rfl
theorem nil_thn (q : Sq) : thn q nil = q := by
  obtain ⟨l, n⟩ := q
  unfold thn nil
  by_cases h : n = 0
  · simp [h]
  · simp [h]
theorem thn_put (x : Ev) (p q : Sq) : thn (put x p) q = put x (thn p q) := by
  unfold thn put
  by_cases h : p.2 = 0
  · simp [h]
  · simp [h]
theorem thn_assoc (p q r : Sq) : thn (thn p q) r = thn p (thn q r) := by
  unfold thn
  by_cases h : p.2 = 0
  · by_cases k : q.2 = 0
    · simp [h, k]
    · simp [h, k]
  · simp [h]
theorem thn_stop {p : Sq} (q : Sq) (h : p.2 ≠ 0) : thn p q = p := if_neg h
theorem one_thn (x : Ev) (q : Sq) : thn (one x) q = put x q := rfl

theorem bd_nil (f : Nat → List Gft → Sq) : bd nil f = nil := rfl
theorem bd_end (n : Nat) (f : Nat → List Gft → Sq) : bd ([], n) f = ([], n) := rfl
theorem bd_put {x : Ev} (h : x.w ≠ 3) (q : Sq) (f : Nat → List Gft → Sq) : bd (put x q) f = put x (bd q f) := by
  show bnd (x :: q.1) q.2 f = _
  rw [bnd, if_neg h]; rfl
theorem bd_tk (q : Sq) (f : Nat → List Gft → Sq) : bd (put tk q) f = put tk (bd q f) := bd_put (by decide) q f
theorem bd_hs (q : Sq) (f : Nat → List Gft → Sq) : bd (put hs q) f = put hs (bd q f) := bd_put (by decide) q f
theorem bd_sd (x : Gft) (q : Sq) (f : Nat → List Gft → Sq) : bd (put (sd x) q) f = put (sd x) (bd q f) := bd_put (x := sd x) (by show (2 : Nat) ≠ 3; decide) q f
theorem bd_wy (e : Nat) (g : List Gft) (q : Sq) (f : Nat → List Gft → Sq) : bd (put (wy e g) q) f = thn (f e g) (bd q f) := by
  show bnd (wy e g :: q.1) q.2 f = _
  rw [bnd, if_pos (show (wy e g).w = 3 from rfl)]; rfl
theorem bd_one (e : Nat) (g : List Gft) (f : Nat → List Gft → Sq) : bd (one (wy e g)) f = f e g := by
  rw [show one (wy e g) = put (wy e g) nil from rfl, bd_wy, bd_nil, nil_thn]
theorem bnd_append (f : Nat → List Gft → Sq) (n : Nat) (m : List Ev) : ∀ l, bnd (l ++ m) n f = thn (bnd l 0 f) (bnd m n f)
  | [] => rfl
  | x :: l => by
    rw [List.cons_append, bnd, bnd, bnd_append f n m l]
    split
    · rw [thn_assoc]
    · rw [thn_put]
theorem bd_thn (p q : Sq) (f : Nat → List Gft → Sq) : bd (thn p q) f = thn (bd p f) (bd q f) := by
  obtain ⟨l, n⟩ := p
  by_cases h : n = 0
  · subst h
    exact bnd_append f q.2 q.1 l
  · rw [thn_stop (p := (l, n)) q h]
    have : ∀ l, (bnd l n f).2 ≠ 0 := by
      intro l
      induction l with
      | nil => exact h
      | cons x l ih =>
        rw [bnd]
        split
        · unfold thn
          split
          · exact ih
          · assumption
        · exact ih
    exact (thn_stop (p := bd (l, n) f) _ (this l)).symm
theorem bd_bd (q : Sq) (f k : Nat → List Gft → Sq) : bd (bd q f) k = bd q fun e g => bd (f e g) k := by
  obtain ⟨l, n⟩ := q
  induction l with
  | nil => rfl
  | cons x l ih =>
    show bd (bnd (x :: l) n f) k = bnd (x :: l) n _
    have ih' : bd (bnd l n f) k = bnd l n fun e g => bd (f e g) k := ih
    rw [bnd, bnd]
    split
    · rw [bd_thn, ih']
    · rw [bd_put (by assumption), ih']
theorem bd_unit (q : Sq) : bd q (fun e g => one (wy e g)) = q := by
  obtain ⟨l, n⟩ := q
  induction l with
  | nil => rfl
  | cons x l ih =>
    show bnd (x :: l) n _ = _
    have ih' : bnd l n (fun e g => one (wy e g)) = (l, n) := ih
    obtain ⟨w, a, g⟩ := x
    rw [bnd, ih']
    split
    · rename_i h
      simp only at h
      subst h
      rfl
    · rfl
theorem bd_congr (q : Sq) {f k : Nat → List Gft → Sq} (h : ∀ e g, f e g = k e g) : bd q f = bd q k := by
  rw [show f = k from funext fun e => funext fun g => h e g]

/-- How many comings. -/
def tks (l : List Ev) : Nat := (l.filter fun x => x.w == 0).length
theorem tks_nil : tks [] = 0 := rfl
theorem tks_append (l m : List Ev) : tks (l ++ m) = tks l + tks m := by unfold tks; rw [List.filter_append, List.length_append]
theorem tks_cons (x : Ev) (l : List Ev) : tks (x :: l) = (if x.w = 0 then 1 else 0) + tks l := by
  unfold tks
  rw [List.filter_cons]
  by_cases h : x.w = 0
  · simp [h]; omega
  · simp [h]
theorem tks_tk (l : List Ev) : tks (tk :: l) = 1 + tks l := tks_cons _ _

/-- Who comes beyond what is looked at has come so often. -/
def Dp (n : Nat) (q : Sq) : Prop := q.2 = 3 → n ≤ tks q.1
theorem dp_mono {n m : Nat} {q : Sq} (h : Dp n q) (k : m ≤ n) : Dp m q := fun e => Nat.le_trans k (h e)
theorem dp_thn {n : Nat} {p q : Sq} (hp : Dp n p) (hq : Dp n q) : Dp n (thn p q) := by
  unfold thn
  split
  · intro h
    have := hq h
    rw [show (p.1 ++ q.1, q.2).1 = p.1 ++ q.1 from rfl, tks_append]; omega
  · exact hp
theorem dp_put {n : Nat} {q : Sq} (x : Ev) (h : Dp n q) : Dp n (put x q) := fun e => by
  have := h e
  show n ≤ tks (x :: q.1)
  rw [tks_cons]; omega
theorem dp_tk {n : Nat} {q : Sq} (h : Dp n q) : Dp (n + 1) (put tk q) := fun e => by
  have := h e
  show n + 1 ≤ tks (tk :: q.1)
  rw [tks_tk]; omega
theorem dp_nil (n : Nat) : Dp n nil := fun h => by cases h
theorem dp_one (n : Nat) (x : Ev) : Dp n (one x) := fun h => by cases h
theorem dp_fin {n k : Nat} (l : List Ev) (h : k ≠ 3) : Dp n (l, k) := fun e => absurd e h
theorem dp_bd {n : Nat} {q : Sq} {f : Nat → List Gft → Sq} (hq : Dp n q) (hf : ∀ e g, Dp n (f e g)) : Dp n (bd q f) := by
  obtain ⟨l, m⟩ := q
  have : ∀ l, (m = 3 → tks l ≥ n → True) → ((bnd l m f).2 = 3 → n ≤ tks (bnd l m f).1 ∨ (m = 3 ∧ tks l ≤ tks (bnd l m f).1)) := by
    intro l _
    induction l with
    | nil => intro h; exact .inr ⟨h, Nat.le_refl _⟩
    | cons x l ih =>
      rw [bnd]
      split
      · rename_i hw
        unfold thn
        split
        · intro h
          have h' := ih (fun _ _ => trivial) h
          rw [show (((f x.a x.g).1 ++ (bnd l m f).1, (bnd l m f).2) : Sq).1 = (f x.a x.g).1 ++ (bnd l m f).1 from rfl, tks_append, tks_cons, if_neg (by omega)]
          rcases h' with h' | ⟨h1, h2⟩
          · exact .inl (by omega)
          · exact .inr ⟨h1, by omega⟩
        · intro h
          exact .inl (hf _ _ h)
      · intro h
        have h' := ih (fun _ _ => trivial) h
        show n ≤ tks (x :: (bnd l m f).1) ∨ (m = 3 ∧ tks (x :: l) ≤ tks (x :: (bnd l m f).1))
        rw [tks_cons, tks_cons]
        rcases h' with h' | ⟨h1, h2⟩
        · exact .inl (by omega)
        · exact .inr ⟨h1, by omega⟩
  intro h
  rcases this l (fun _ _ => trivial) h with h' | ⟨h1, h2⟩
  · exact h'
  · exact Nat.le_trans (hq h1) h2
/-- Behind something that has come once. -/
theorem dp_bd1 {n : Nat} {q : Sq} {f : Nat → List Gft → Sq} (hq : Dp (n + 1) (put tk q)) (hf : ∀ e g, Dp n (f e g)) : Dp (n + 1) (bd (put tk q) f) := by
  rw [bd_tk]
  refine dp_tk (dp_bd (fun e => ?_) hf)
  have := hq e
  have h2 : n + 1 ≤ tks (tk :: q.1) := this
  rw [tks_tk] at h2
  omega

end Go.Proofs.YtjfahpklemohgaaDoor

namespace Go.Proofs.YtjfahpklemohgaaDoor

/-- Is a byte one of a text's? -/
def inB (t : ByteArray) (b : Nat) : Bool := t.data.toList.any fun c => c.toNat == b
def byt (s : ByteArray) (i : Nat) : Nat := (s.data.toList.getD i 0).toNat
def sub (s : ByteArray) (a b : Nat) : ByteArray := s.extract a b
/-- The first place from here on with a byte of a text (or one that is none of it); or the end. -/
def untl (s t : ByteArray) (want : Bool) : Nat → Nat → Nat
  | 0, i => i
  | n + 1, i => if inB t (byt s i) = want then i else untl s t want n (i + 1)
def unt (s t : ByteArray) (want : Bool) (i : Nat) : Nat := untl s t want (s.size - i) i
/-- The nearest place behind this one with all brackets between in pairs. -/
def prd (s : ByteArray) : Nat → Int → Nat → Option Nat
  | 0, _, _ => none
  | n + 1, d, i =>
    let d' := if byt s i = 40 then d + 1 else if byt s i = 41 then d - 1 else d
    if d' = 0 then some (i + 1) else if d' < 0 then none else prd s n d' (i + 1)
def prs (s : ByteArray) (i : Nat) : Option Nat := prd s (s.size - i) 0 i

/-- Where the way of a node ends that has one at most. -/
def onl (s : ByteArray) (T : PT) (i : Nat) : Option Nat :=
  if T.k = 1 then (if (sub s i (i + T.t.size)) = T.t then some (i + T.t.size) else none)
  else if T.k = 2 then (if i + T.n.toNat ≤ s.size then some (i + T.n.toNat) else none)
  else if T.k = 3 then (if i < s.size ∧ inB T.t (byt s i) = true then some (i + 1) else none)
  else if T.k = 4 then (if i < s.size ∧ inB T.t (byt s i) = false then some (i + 1) else none)
  else if T.k = 5 then (if i < unt s T.t false i then some (unt s T.t false i) else none)
  else if T.k = 6 then (if unt s T.t true i < s.size then some (unt s T.t true i) else none)
  else if T.k = 8 then (if i ≤ T.n.toNat ∧ T.n.toNat ≤ s.size then some T.n.toNat else none)
  else if T.k = 9 then (if i + T.n.toNat ≤ s.size then some (s.size - T.n.toNat) else none)
  else if T.k = 10 then (if i = T.n.toNat then some i else none)
  else if T.k = 11 then (if i + T.n.toNat = s.size then some i else none)
  else if T.k = 12 then some s.size
  else none

def arbs (g : List Gft) : Nat → Nat → Sq
  | 0, _ => one hs
  | n + 1, e => put hs (put (wy e g) (arbs g n (e + 1)))
def bxs (s t : ByteArray) (g : List Gft) : Nat → Nat → Sq
  | 0, _ => one hs
  | n + 1, e => if unt s t true e < s.size then put hs (put (wy (unt s t true e) g) (bxs s t g n (unt s t true e + 1))) else one hs
def bls (s : ByteArray) (g : List Gft) : Nat → Nat → Sq
  | 0, _ => one hs
  | n + 1, e => match prs s e with
    | some t => put hs (put (wy t g) (bls s g n t))
    | none => one hs

section
variable (f : PT → Nat → List Gft → Sq) (T : PT)
/-- From kid j on, m more behind it. -/
def cats : Nat → Nat → Nat → List Gft → Sq
  | 0, j, i, g => f (T.kid j) i g
  | m + 1, j, i, g => bd (f (T.kid j) i g) fun e g' => put hs (cats m (j + 1) e g')
def alts (i : Nat) (g : List Gft) : Nat → Nat → Sq
  | 0, _ => nil
  | m + 1, j => put hs (thn (f (T.kid j) i g) (alts i g m (j + 1)))
def agn : Nat → Nat → List Gft → Sq
  | 0, _, _ => ([], 3)
  | m + 1, i, g => put (wy i g) (put hs (bd (f (T.kid 0) i g) fun e g' => put hs (if e = i then nil else agn m e g')))
end

/-- All that comes of a node at a place; n: how deep it is looked at. -/
def D (s : ByteArray) (R : ByteArray → Option PT) (dg : Nat → ByteArray) : Nat → PT → Nat → List Gft → Sq
  | 0, _, _, _ => ([], 3)
  | n + 1, T, i, g => put tk (
    if T.k = 17 then ([], 1)
    else if T.k = 16 then ([wy i g, hs], 1)
    else if T.k = 20 then agn (D s R dg n) T n i g
    else if T.k = 19 then alts (D s R dg n) T i g T.len 0
    else if T.k = 13 then arbs g (s.size + 1 - i) i
    else if T.k = 7 then bxs s T.t g (s.size + 1 - i) i
    else if T.k = 14 then bls s g (s.size + 1 - i) i
    else if T.k = 18 then cats (D s R dg n) T (T.len - 1) 0 i g
    else if T.k = 21 then bd (D s R dg n (T.kid 0) i g) fun e g' => put hs (one (wy e (g' ++ [(T.nm, sub s i e)])))
    else if T.k = 22 then bd (D s R dg n (T.kid 0) i g) fun e g' => put (sd (T.nm, sub s i e)) (one (wy e g'))
    else if T.k = 24 then (match R T.nm with | some U => D s R dg n U i g | none => ([], 2))
    else if T.k = 23 then put (sd (T.nm, dg i)) (one (wy i g))
    else match onl s T i with | some e => one (wy e g) | none => nil)

theorem arbs_end (g : List Gft) : ∀ n e, (arbs g n e).2 = 0
  | 0, _ => rfl
  | n + 1, e => arbs_end g n (e + 1)
theorem bxs_end (s t : ByteArray) (g : List Gft) : ∀ n e, (bxs s t g n e).2 = 0
  | 0, _ => rfl
  | n + 1, e => by
    rw [bxs]
    split
    · exact bxs_end s t g n _
    · rfl
theorem bls_end (s : ByteArray) (g : List Gft) : ∀ n e, (bls s g n e).2 = 0
  | 0, _ => rfl
  | n + 1, e => by
    rw [bls]
    split
    · exact bls_end s g n _
    · rfl

section
variable {f : PT → Nat → List Gft → Sq} {T : PT} {n : Nat}
theorem cats_dp (hf : ∀ U i g, Dp n (f U i g)) : ∀ m j i g, Dp n (cats f T m j i g)
  | 0, _, _, _ => hf _ _ _
  | m + 1, j, _, _ => dp_bd (hf _ _ _) fun e g' => dp_put _ (cats_dp hf m (j + 1) e g')
theorem alts_dp (hf : ∀ U i g, Dp n (f U i g)) (i : Nat) (g : List Gft) : ∀ m j, Dp n (alts f T i g m j)
  | 0, _ => dp_nil _
  | m + 1, j => dp_put _ (dp_thn (hf _ _ _) (alts_dp hf i g m (j + 1)))
end
theorem agn_dp {f : PT → Nat → List Gft → Sq} {T : PT} {n : Nat} (hf : ∀ U i g, Dp (n + 1) (f U i g)) (h1 : ∀ U i g, ∃ q, f U i g = put tk q) : ∀ m i g, m ≤ n + 1 → Dp m (agn f T m i g)
  | 0, _, _, _ => fun _ => Nat.zero_le _
  | m + 1, i, g, h => by
    refine dp_put _ (dp_put _ ?_)
    obtain ⟨q, hq⟩ := h1 (T.kid 0) i g
    have := hf (T.kid 0) i g
    rw [hq] at this ⊢
    refine dp_bd1 (dp_mono this h) fun e g' => dp_put _ ?_
    split
    · exact dp_nil _
    · exact agn_dp hf h1 m e g' (by omega)
theorem dp_ite {c : Prop} [Decidable c] {n : Nat} {p q : Sq} (hp : Dp n p) (hq : Dp n q) : Dp n (if c then p else q) := by
  split
  · exact hp
  · exact hq
theorem D_tk (s : ByteArray) (R : ByteArray → Option PT) (dg : Nat → ByteArray) (n : Nat) (T : PT) (i : Nat) (g : List Gft) : ∃ q, D s R dg (n + 1) T i g = put tk q := ⟨_, rfl⟩
theorem D_dp (s : ByteArray) (R : ByteArray → Option PT) (dg : Nat → ByteArray) : ∀ n T i g, Dp n (D s R dg n T i g)
  | 0, _, _, _ => fun _ => Nat.zero_le _
  | n + 1, T, i, g => by
    have ih := D_dp s R dg n
    rw [D]
    refine dp_tk ?_
    refine dp_ite (dp_fin _ (by decide)) (dp_ite (dp_fin _ (by decide)) (dp_ite ?_ (dp_ite (alts_dp ih _ _ _ _) (dp_ite ?_ (dp_ite ?_ (dp_ite ?_ (dp_ite (cats_dp ih _ _ _ _) (dp_ite ?_ (dp_ite ?_ (dp_ite ?_ (dp_ite (dp_put _ (dp_one _ _)) ?_)))))))))))
    · cases n with
      | zero => exact fun _ => Nat.zero_le _
      | succ n => exact agn_dp ih (D_tk s R dg n) _ _ _ (Nat.le_refl _)
    · exact fun h => by rw [arbs_end] at h; cases h
    · exact fun h => by rw [bxs_end] at h; cases h
    · exact fun h => by rw [bls_end] at h; cases h
    · exact dp_bd (ih _ _ _) fun _ _ => dp_put _ (dp_one _ _)
    · exact dp_bd (ih _ _ _) fun _ _ => dp_put _ (dp_one _ _)
    · split
      · exact ih _ _ _
      · exact dp_fin _ (by decide)
    · split
      · exact dp_one _ _
      · exact dp_nil _

/-- What is to be done behind: the node, its kid, the place where that began. -/
structure Wk where
  n : Nat
  m : Nat
  T : PT
  j : Nat
  i : Nat
/-- A choice: the node, what is next, where, what is behind, what has been given. -/
structure Ch where
  n : Nat
  m : Nat
  T : PT
  x : Nat
  i : Nat
  ch : List Wk
  g : List Gft

section
variable (s : ByteArray) (R : ByteArray → Option PT) (dg : Nat → ByteArray)
def K : List Wk → Nat → List Gft → Sq
  | [], e, g => one (wy e g)
  | w :: ws, e, g =>
    if w.T.k = 18 then put hs (bd (cats (D s R dg w.n) w.T (w.T.len - 1 - (w.j + 1)) (w.j + 1) e g) (K ws))
    else if w.T.k = 20 then put hs (if e = w.i then nil else bd (agn (D s R dg w.n) w.T w.m e g) (K ws))
    else if w.T.k = 21 then put hs (K ws e (g ++ [(w.T.nm, sub s w.i e)]))
    else put (sd (w.T.nm, sub s w.i e)) (K ws e g)
def Res (c : Ch) : Sq :=
  if c.T.k = 16 then ([hs], 1)
  else if c.T.k = 19 then alts (D s R dg c.n) c.T c.i c.g (c.T.len - c.x) c.x
  else if c.T.k = 20 then put hs (bd (D s R dg c.n (c.T.kid 0) c.i c.g) fun e g' => put hs (if e = c.i then nil else agn (D s R dg c.n) c.T c.m e g'))
  else if c.T.k = 13 then arbs c.g (s.size + 1 - c.x) c.x
  else if c.T.k = 7 then bxs s c.T.t c.g (s.size + 1 - c.x) c.x
  else bls s c.g (s.size + 1 - c.x) c.x
def Fa : List Ch → Sq
  | [] => nil
  | c :: cs => thn (bd (Res s R dg c) (K s R dg c.ch)) (Fa cs)
/-- What comes of coming to a node; of what is behind; of going back. -/
def dCome (n : Nat) (T : PT) (i : Nat) (g : List Gft) (ch : List Wk) (cs : List Ch) : Sq := thn (bd (D s R dg n T i g) (K s R dg ch)) (Fa s R dg cs)
def dBehind (i : Nat) (g : List Gft) (ch : List Wk) (cs : List Ch) : Sq := thn (K s R dg ch i g) (Fa s R dg cs)
def dBack (cs : List Ch) : Sq := Fa s R dg cs
end

section
variable {s : ByteArray} {R : ByteArray → Option PT} {dg : Nat → ByteArray} {n : Nat} {T : PT} {i : Nat} {g : List Gft} {ch : List Wk} {cs : List Ch}
theorem res16 {c : Ch} (h : c.T.k = 16) : Res s R dg c = ([hs], 1) := by unfold Res; rw [if_pos h]
theorem res19 {c : Ch} (h : c.T.k = 19) : Res s R dg c = alts (D s R dg c.n) c.T c.i c.g (c.T.len - c.x) c.x := by unfold Res; rw [if_neg (by omega), if_pos h]
theorem res20 {c : Ch} (h : c.T.k = 20) : Res s R dg c = put hs (bd (D s R dg c.n (c.T.kid 0) c.i c.g) fun e g' => put hs (if e = c.i then nil else agn (D s R dg c.n) c.T c.m e g')) := by unfold Res; rw [if_neg (by omega), if_neg (by omega), if_pos h]
theorem res13 {c : Ch} (h : c.T.k = 13) : Res s R dg c = arbs c.g (s.size + 1 - c.x) c.x := by unfold Res; rw [if_neg (by omega), if_neg (by omega), if_neg (by omega), if_pos h]
theorem res7 {c : Ch} (h : c.T.k = 7) : Res s R dg c = bxs s c.T.t c.g (s.size + 1 - c.x) c.x := by unfold Res; rw [if_neg (by omega), if_neg (by omega), if_neg (by omega), if_neg (by omega), if_pos h]
theorem res14 {c : Ch} (h : c.T.k = 14) : Res s R dg c = bls s c.g (s.size + 1 - c.x) c.x := by unfold Res; rw [if_neg (by omega), if_neg (by omega), if_neg (by omega), if_neg (by omega), if_neg (by omega)]
theorem K20 {w : Wk} (h : w.T.k = 20) (e : Nat) (g : List Gft) : K s R dg (w :: ch) e g = put hs (if e = w.i then nil else bd (agn (D s R dg w.n) w.T w.m e g) (K s R dg ch)) := by rw [K, if_neg (by omega), if_pos h]
theorem K21 {w : Wk} (h : w.T.k = 21) (e : Nat) (g : List Gft) : K s R dg (w :: ch) e g = put hs (K s R dg ch e (g ++ [(w.T.nm, sub s w.i e)])) := by rw [K, if_neg (by omega), if_neg (by omega), if_pos h]
theorem K22 {w : Wk} (h : w.T.k = 22) (e : Nat) (g : List Gft) : K s R dg (w :: ch) e g = put (sd (w.T.nm, sub s w.i e)) (K s R dg ch e g) := by rw [K, if_neg (by omega), if_neg (by omega), if_neg (by omega)]
theorem come_abort (h : T.k = 17) : dCome s R dg (n + 1) T i g ch cs = ([tk], 1) := by
  unfold dCome; rw [D, if_pos h, bd_tk, thn_put]; rfl
theorem come_fence (h : T.k = 16) (m : Nat) : dCome s R dg (n + 1) T i g ch cs = put tk (dBehind s R dg i g ch (⟨n, m, T, 0, i, ch, g⟩ :: cs)) := by
  unfold dCome; rw [D, if_neg (by omega), if_pos h, bd_tk, thn_put]
  unfold dBehind
  rw [Fa, res16 h, show (([wy i g, hs], 1) : Sq) = put (wy i g) ([hs], 1) from rfl, bd_wy, thn_assoc]
theorem come_arbno (h : T.k = 20) : dCome s R dg (n + 2) T i g ch cs = put tk (dBehind s R dg i g ch (⟨n + 1, n, T, 0, i, ch, g⟩ :: cs)) := by
  unfold dCome; rw [D, if_neg (by omega), if_neg (by omega), if_pos h, bd_tk, thn_put]
  unfold dBehind
  rw [Fa, res20 h, agn, bd_wy, thn_assoc]
theorem come_alt (h : T.k = 19) : dCome s R dg (n + 1) T i g ch cs = put tk (dBack s R dg (⟨n, 0, T, 0, i, ch, g⟩ :: cs)) := by
  unfold dCome; rw [D, if_neg (by omega), if_neg (by omega), if_neg (by omega), if_pos h, bd_tk, thn_put]
  unfold dBack
  rw [Fa, res19 h]; rfl
theorem come_arb (h : T.k = 13) : dCome s R dg (n + 1) T i g ch cs = put tk (dBack s R dg (⟨n, 0, T, i, i, ch, g⟩ :: cs)) := by
  unfold dCome; rw [D, if_neg (by omega), if_neg (by omega), if_neg (by omega), if_neg (by omega), if_pos h, bd_tk, thn_put]
  unfold dBack
  rw [Fa, res13 h]
theorem come_breakx (h : T.k = 7) : dCome s R dg (n + 1) T i g ch cs = put tk (dBack s R dg (⟨n, 0, T, i, i, ch, g⟩ :: cs)) := by
  unfold dCome; rw [D, if_neg (by omega), if_neg (by omega), if_neg (by omega), if_neg (by omega), if_neg (by omega), if_pos h, bd_tk, thn_put]
  unfold dBack
  rw [Fa, res7 h]
theorem come_bal (h : T.k = 14) : dCome s R dg (n + 1) T i g ch cs = put tk (dBack s R dg (⟨n, 0, T, i, i, ch, g⟩ :: cs)) := by
  unfold dCome; rw [D, if_neg (by omega), if_neg (by omega), if_neg (by omega), if_neg (by omega), if_neg (by omega), if_neg (by omega), if_pos h, bd_tk, thn_put]
  unfold dBack
  rw [Fa, res14 h]
theorem K_cat {w : Wk} (h : w.T.k = 18) (e : Nat) (g : List Gft) : K s R dg (w :: ch) e g = put hs (bd (cats (D s R dg w.n) w.T (w.T.len - 1 - (w.j + 1)) (w.j + 1) e g) (K s R dg ch)) := by rw [K, if_pos h]
/-- A kid is entered that is not the last one. -/
theorem cats_enter {m j : Nat} (h : T.k = 18) (hm : T.len - 1 - j = m + 1) : bd (cats (D s R dg n) T (m + 1) j i g) (K s R dg ch) = bd (D s R dg n (T.kid j) i g) (K s R dg (⟨n, 0, T, j, i⟩ :: ch)) := by
  rw [cats, bd_bd]
  refine bd_congr _ fun e g' => ?_
  rw [bd_hs, K_cat h]
  show put hs (bd (cats (D s R dg n) T m (j + 1) e g') _) = put hs (bd (cats (D s R dg n) T (T.len - 1 - (j + 1)) (j + 1) e g') _)
  rw [show T.len - 1 - (j + 1) = m by omega]
theorem come_cat (h : T.k = 18) (hl : 2 ≤ T.len) : dCome s R dg (n + 1) T i g ch cs = put tk (dCome s R dg n (T.kid 0) i g (⟨n, 0, T, 0, i⟩ :: ch) cs) := by
  obtain ⟨m, hm⟩ : ∃ m, T.len - 1 = m + 1 := ⟨T.len - 2, by omega⟩
  unfold dCome
  rw [D, if_neg (by omega), if_neg (by omega), if_neg (by omega), if_neg (by omega), if_neg (by omega), if_neg (by omega), if_neg (by omega), if_pos h, bd_tk, thn_put, hm, cats_enter h (by omega)]
theorem come_cond (h : T.k = 21) : dCome s R dg (n + 1) T i g ch cs = put tk (dCome s R dg n (T.kid 0) i g (⟨n, 0, T, 0, i⟩ :: ch) cs) := by
  unfold dCome
  rw [D, if_neg (by omega), if_neg (by omega), if_neg (by omega), if_neg (by omega), if_neg (by omega), if_neg (by omega), if_neg (by omega), if_neg (by omega), if_pos h, bd_tk, thn_put, bd_bd]
  congr 2
  refine bd_congr _ fun e g' => ?_
  rw [bd_hs, bd_one, K21 h]
theorem come_imm (h : T.k = 22) : dCome s R dg (n + 1) T i g ch cs = put tk (dCome s R dg n (T.kid 0) i g (⟨n, 0, T, 0, i⟩ :: ch) cs) := by
  unfold dCome
  rw [D, if_neg (by omega), if_neg (by omega), if_neg (by omega), if_neg (by omega), if_neg (by omega), if_neg (by omega), if_neg (by omega), if_neg (by omega), if_neg (by omega), if_pos h, bd_tk, thn_put, bd_bd]
  congr 2
  refine bd_congr _ fun e g' => ?_
  rw [bd_sd, bd_one, K22 h]
theorem come_call {U : PT} (h : T.k = 24) (hU : R T.nm = some U) : dCome s R dg (n + 1) T i g ch cs = put tk (dCome s R dg n U i g ch cs) := by
  unfold dCome
  rw [D, if_neg (by omega), if_neg (by omega), if_neg (by omega), if_neg (by omega), if_neg (by omega), if_neg (by omega), if_neg (by omega), if_neg (by omega), if_neg (by omega), if_neg (by omega), if_pos h, hU, bd_tk, thn_put]
theorem come_none (h : T.k = 24) (hU : R T.nm = none) : dCome s R dg (n + 1) T i g ch cs = ([tk], 2) := by
  unfold dCome
  rw [D, if_neg (by omega), if_neg (by omega), if_neg (by omega), if_neg (by omega), if_neg (by omega), if_neg (by omega), if_neg (by omega), if_neg (by omega), if_neg (by omega), if_neg (by omega), if_pos h, hU, bd_tk, thn_put]; rfl
theorem come_cursor (h : T.k = 23) : dCome s R dg (n + 1) T i g ch cs = put tk (put (sd (T.nm, dg i)) (dBehind s R dg i g ch cs)) := by
  unfold dCome
  rw [D, if_neg (by omega), if_neg (by omega), if_neg (by omega), if_neg (by omega), if_neg (by omega), if_neg (by omega), if_neg (by omega), if_neg (by omega), if_neg (by omega), if_neg (by omega), if_neg (by omega), if_pos h, bd_tk, thn_put, bd_sd, bd_one, thn_put]; rfl
/-- The kinds with one way at most. -/
def leafK (k : Int) : Prop := k ≠ 17 ∧ k ≠ 16 ∧ k ≠ 20 ∧ k ≠ 19 ∧ k ≠ 13 ∧ k ≠ 7 ∧ k ≠ 14 ∧ k ≠ 18 ∧ k ≠ 21 ∧ k ≠ 22 ∧ k ≠ 24 ∧ k ≠ 23
theorem D_leaf (h : leafK T.k) : D s R dg (n + 1) T i g = put tk (match onl s T i with | some e => one (wy e g) | none => nil) := by
  obtain ⟨h1, h2, h3, h4, h5, h6, h7, h8, h9, h10, h11, h12⟩ := h
  rw [D, if_neg h1, if_neg h2, if_neg h3, if_neg h4, if_neg h5, if_neg h6, if_neg h7, if_neg h8, if_neg h9, if_neg h10, if_neg h11, if_neg h12]
theorem come_leaf {e : Nat} (h : leafK T.k) (ho : onl s T i = some e) : dCome s R dg (n + 1) T i g ch cs = put tk (dBehind s R dg e g ch cs) := by
  unfold dCome
  rw [D_leaf h, ho, bd_tk, thn_put]
  show put tk (thn (bd (one (wy e g)) _) _) = _
  rw [bd_one]; rfl
theorem come_leaf_no (h : leafK T.k) (ho : onl s T i = none) : dCome s R dg (n + 1) T i g ch cs = put tk (dBack s R dg cs) := by
  unfold dCome
  rw [D_leaf h, ho, bd_tk, thn_put]; rfl

/-- What is behind. -/
theorem behind_cat {w : Wk} (h : w.T.k = 18) (hj : w.j + 2 < w.T.len) : dBehind s R dg i g (w :: ch) cs = put hs (dCome s R dg w.n (w.T.kid (w.j + 1)) i g (⟨w.n, 0, w.T, w.j + 1, i⟩ :: ch) cs) := by
  obtain ⟨m, hm⟩ : ∃ m, w.T.len - 1 - (w.j + 1) = m + 1 := ⟨w.T.len - 1 - (w.j + 2), by omega⟩
  unfold dBehind dCome
  rw [K_cat h, hm, cats_enter h hm, thn_put]
theorem behind_cat_last {w : Wk} (h : w.T.k = 18) (hj : w.j + 2 = w.T.len) : dBehind s R dg i g (w :: ch) cs = put hs (dCome s R dg w.n (w.T.kid (w.j + 1)) i g ch cs) := by
  unfold dBehind dCome
  rw [K_cat h, show w.T.len - 1 - (w.j + 1) = 0 by omega, cats, thn_put]
theorem behind_arbno_same {w : Wk} (h : w.T.k = 20) (hi : i = w.i) : dBehind s R dg i g (w :: ch) cs = put hs (dBack s R dg cs) := by
  unfold dBehind
  rw [K20 h, if_pos hi, thn_put]; rfl
theorem behind_arbno {w : Wk} {m : Nat} (h : w.T.k = 20) (hi : i ≠ w.i) (hm : w.m = m + 1) : dBehind s R dg i g (w :: ch) cs = put hs (dBehind s R dg i g ch (⟨w.n, m, w.T, 0, i, ch, g⟩ :: cs)) := by
  unfold dBehind
  rw [K20 h, if_neg hi, thn_put, hm, agn, bd_wy, thn_assoc, Fa, res20 (c := ⟨w.n, m, w.T, 0, i, ch, g⟩) h]
theorem behind_cond {w : Wk} (h : w.T.k = 21) : dBehind s R dg i g (w :: ch) cs = put hs (dBehind s R dg i (g ++ [(w.T.nm, sub s w.i i)]) ch cs) := by
  unfold dBehind
  rw [K21 h, thn_put]
theorem behind_imm {w : Wk} (h : w.T.k = 22) : dBehind s R dg i g (w :: ch) cs = put (sd (w.T.nm, sub s w.i i)) (dBehind s R dg i g ch cs) := by
  unfold dBehind
  rw [K22 h, thn_put]
theorem behind_nothing : dBehind s R dg i g [] cs = put (wy i g) (dBack s R dg cs) := rfl

/-- Going back. -/
theorem back_nothing : dBack s R dg [] = nil := rfl
theorem back_fence {c : Ch} (h : c.T.k = 16) : dBack s R dg (c :: cs) = ([hs], 1) := by
  unfold dBack
  rw [Fa, res16 h]; rfl
theorem back_alt {c : Ch} (h : c.T.k = 19) (hx : c.x + 1 < c.T.len) : dBack s R dg (c :: cs) = put hs (dCome s R dg c.n (c.T.kid c.x) c.i c.g c.ch ({ c with x := c.x + 1 } :: cs)) := by
  unfold dBack dCome
  rw [Fa, Fa, res19 h, res19 (c := { c with x := c.x + 1 }) h, show c.T.len - c.x = (c.T.len - (c.x + 1)) + 1 by omega, alts, bd_hs, thn_put, bd_thn, thn_assoc]
theorem back_alt_last {c : Ch} (h : c.T.k = 19) (hx : c.x + 1 = c.T.len) : dBack s R dg (c :: cs) = put hs (dCome s R dg c.n (c.T.kid c.x) c.i c.g c.ch cs) := by
  unfold dBack dCome
  rw [Fa, res19 h, show c.T.len - c.x = 0 + 1 by omega, alts, alts, bd_hs, thn_put, nil_thn]
theorem back_arbno {c : Ch} (h : c.T.k = 20) : dBack s R dg (c :: cs) = put hs (dCome s R dg c.n (c.T.kid 0) c.i c.g (⟨c.n, c.m, c.T, 0, c.i⟩ :: c.ch) cs) := by
  unfold dBack dCome
  rw [Fa, res20 h, bd_hs, thn_put, bd_bd]
  congr 2
  refine bd_congr _ fun e g' => ?_
  rw [bd_hs, K20 h]
  congr 1
  split <;> rfl
theorem back_arb {c : Ch} (h : c.T.k = 13) (hx : c.x ≤ s.size) : dBack s R dg (c :: cs) = put hs (dBehind s R dg c.x c.g c.ch ({ c with x := c.x + 1 } :: cs)) := by
  unfold dBack dBehind
  rw [Fa, Fa, res13 h, res13 (c := { c with x := c.x + 1 }) h, show s.size + 1 - c.x = (s.size + 1 - (c.x + 1)) + 1 by omega, arbs, bd_hs, thn_put, bd_wy, thn_assoc]
theorem back_arb_no {c : Ch} (h : c.T.k = 13) (hx : s.size < c.x) : dBack s R dg (c :: cs) = put hs (dBack s R dg cs) := by
  unfold dBack
  rw [Fa, res13 h, show s.size + 1 - c.x = 0 by omega, arbs]; rfl
theorem back_breakx {c : Ch} (h : c.T.k = 7) (hc : c.x ≤ unt s c.T.t true c.x) (hx : unt s c.T.t true c.x < s.size) : dBack s R dg (c :: cs) = put hs (dBehind s R dg (unt s c.T.t true c.x) c.g c.ch ({ c with x := unt s c.T.t true c.x + 1 } :: cs)) := by
  have key : ∀ m m' e, s.size - e ≤ m → s.size - e ≤ m' → bxs s c.T.t c.g m e = bxs s c.T.t c.g m' e := by
    intro m
    induction m with
    | zero =>
      intro m' e h1 _
      cases m' with
      | zero => rfl
      | succ m' =>
        have hu : unt s c.T.t true e = e := by unfold unt; rw [show s.size - e = 0 by omega]; rfl
        rw [bxs, bxs, if_neg (by omega)]
    | succ m ih =>
      intro m' e h1 h2
      have hge : ∀ n i, i ≤ untl s c.T.t true n i := by
        intro n
        induction n with
        | zero => exact fun i => Nat.le_refl _
        | succ n ih =>
          intro i
          rw [untl]
          split
          · exact Nat.le_refl _
          · exact Nat.le_trans (Nat.le_succ i) (ih (i + 1))
      have hu : e ≤ unt s c.T.t true e := hge _ _
      cases m' with
      | zero =>
        rw [bxs, bxs, if_neg (by omega)]
      | succ m' =>
        rw [bxs, bxs]
        split
        · rw [ih m' _ (by omega) (by omega)]
        · rfl
  unfold dBack dBehind
  rw [Fa, Fa, res7 h, res7 (c := { c with x := unt s c.T.t true c.x + 1 }) h, show s.size + 1 - c.x = (s.size - c.x) + 1 by omega, bxs, if_pos hx, bd_hs, thn_put, bd_wy, thn_assoc]
  rw [key (s.size - c.x) (s.size + 1 - (unt s c.T.t true c.x + 1)) _ (by omega) (by omega)]
theorem back_breakx_no {c : Ch} (h : c.T.k = 7) (hx : s.size ≤ unt s c.T.t true c.x) : dBack s R dg (c :: cs) = put hs (dBack s R dg cs) := by
  unfold dBack
  rw [Fa, res7 h]
  cases hm : s.size + 1 - c.x with
  | zero => rw [bxs]; rfl
  | succ m => rw [bxs, if_neg (by omega)]; rfl
theorem prd_gt (s : ByteArray) {t : Nat} : ∀ n d i, prd s n d i = some t → i < t ∧ t ≤ i + n
  | 0, _, _, h => by cases h
  | n + 1, d, i, h => by
    rw [prd] at h
    generalize (if byt s i = 40 then d + 1 else if byt s i = 41 then d - 1 else d) = d' at h
    split at h
    · injection h with h; omega
    · split at h
      · cases h
      · have := prd_gt s n _ _ h; omega
theorem prs_gt {t : Nat} (h : prs s i = some t) : i < t ∧ t ≤ s.size := by
  have := prd_gt s _ _ _ h
  rcases Nat.lt_or_ge i s.size with h1 | h1
  · omega
  · unfold prs at h
    rw [show s.size - i = 0 by omega] at h
    cases h
theorem bls_any (g : List Gft) : ∀ m m' e, s.size - e ≤ m → s.size - e ≤ m' → bls s g m e = bls s g m' e := by
  intro m
  induction m with
  | zero =>
    intro m' e h1 _
    cases m' with
    | zero => rfl
    | succ m' =>
      have hu : prs s e = none := by unfold prs; rw [show s.size - e = 0 by omega]; rfl
      rw [bls, bls, hu]
  | succ m ih =>
    intro m' e h1 h2
    cases m' with
    | zero =>
      have hu : prs s e = none := by unfold prs; rw [show s.size - e = 0 by omega]; rfl
      rw [bls, bls, hu]
    | succ m' =>
      rw [bls, bls]
      cases hp : prs s e with
      | none => rfl
      | some t =>
        have := prs_gt hp
        show put hs (put _ _) = put hs (put _ _)
        rw [ih m' t (by omega) (by omega)]
theorem back_bal {c : Ch} {t : Nat} (h : c.T.k = 14) (hx : prs s c.x = some t) : dBack s R dg (c :: cs) = put hs (dBehind s R dg t c.g c.ch ({ c with x := t } :: cs)) := by
  have := prs_gt hx
  unfold dBack dBehind
  rw [Fa, Fa, res14 h, res14 (c := { c with x := t }) h, show s.size + 1 - c.x = (s.size - c.x) + 1 by omega, bls, hx]
  show thn (bd (put hs (put _ _)) _) _ = _
  rw [bd_hs, thn_put, bd_wy, thn_assoc, bls_any c.g (s.size - c.x) (s.size + 1 - t) t (by omega) (by omega)]
theorem back_bal_no {c : Ch} (h : c.T.k = 14) (hx : prs s c.x = none) : dBack s R dg (c :: cs) = put hs (dBack s R dg cs) := by
  unfold dBack
  rw [Fa, res14 h]
  cases hm : s.size + 1 - c.x with
  | zero => rw [bls]; rfl
  | succ m => rw [bls, hx]; rfl
end
end Go.Proofs.YtjfahpklemohgaaDoor

namespace Go.Proofs.YtjfahpklemohgaaDoor

/-- The same; or all there is, as far as it is looked at. -/
def Le (p q : Sq) : Prop := p = q ∨ (p.2 = 3 ∧ p.1 <+: q.1)
theorem le_refl (p : Sq) : Le p p := .inl rfl
theorem le_bot (q : Sq) : Le ([], 3) q := .inr ⟨rfl, List.nil_prefix⟩
theorem le_put (x : Ev) {p q : Sq} (h : Le p q) : Le (put x p) (put x q) := by
  rcases h with rfl | ⟨h1, h2⟩
  · exact le_refl _
  · exact .inr ⟨h1, List.prefix_cons_inj x |>.2 h2⟩
theorem le_thn {p p' q q' : Sq} (h : Le p p') (k : Le q q') : Le (thn p q) (thn p' q') := by
  rcases h with rfl | ⟨h1, h2⟩
  · unfold thn
    split
    · rcases k with rfl | ⟨k1, k2⟩
      · exact le_refl _
      · exact .inr ⟨k1, (List.prefix_append_right_inj p.1).2 k2⟩
    · exact le_refl _
  · rw [thn_stop q (by omega)]
    unfold thn
    split
    · exact .inr ⟨h1, h2.trans (List.prefix_append _ _)⟩
    · exact .inr ⟨h1, h2⟩
theorem le_bnd {f f' : Nat → List Gft → Sq} (hf : ∀ e g, Le (f e g) (f' e g)) (r : List Ev) (n n' : Nat) (hr : (r = [] ∧ n = n') ∨ n = 3) : ∀ l, Le (bnd l n f) (bnd (l ++ r) n' f')
  | [] => by
    rcases hr with ⟨rfl, rfl⟩ | rfl
    · exact le_refl _
    · exact le_bot _
  | x :: l => by
    rw [List.cons_append, bnd, bnd]
    have ih := le_bnd hf r n n' hr l
    split
    · exact le_thn (hf _ _) ih
    · exact le_put x ih
theorem le_bd {p p' : Sq} {f f' : Nat → List Gft → Sq} (h : Le p p') (hf : ∀ e g, Le (f e g) (f' e g)) : Le (bd p f) (bd p' f') := by
  rcases h with rfl | ⟨h1, r, h2⟩
  · have := le_bnd hf [] p.2 p.2 (.inl ⟨rfl, rfl⟩) p.1
    rwa [List.append_nil] at this
  · have := le_bnd hf r p.2 p'.2 (.inr h1) p.1
    rw [h2] at this
    exact this
theorem le_ite {c : Prop} [Decidable c] {p q p' q' : Sq} (h : Le p p') (k : Le q q') : Le (if c then p else q) (if c then p' else q') := by
  split
  · exact h
  · exact k
theorem le_trans {p q r : Sq} (h : Le p q) (k : Le q r) : Le p r := by
  rcases h with rfl | ⟨h1, h2⟩
  · exact k
  · rcases k with rfl | ⟨_, k2⟩
    · exact .inr ⟨h1, h2⟩
    · exact .inr ⟨h1, h2.trans k2⟩

section
variable {f f' : PT → Nat → List Gft → Sq}
theorem cats_le (hf : ∀ U i g, Le (f U i g) (f' U i g)) (T : PT) : ∀ m j i g, Le (cats f T m j i g) (cats f' T m j i g)
  | 0, _, _, _ => hf _ _ _
  | m + 1, j, _, _ => le_bd (hf _ _ _) fun e g' => le_put _ (cats_le hf T m (j + 1) e g')
theorem alts_le (hf : ∀ U i g, Le (f U i g) (f' U i g)) (T : PT) (i : Nat) (g : List Gft) : ∀ m j, Le (alts f T i g m j) (alts f' T i g m j)
  | 0, _ => le_refl _
  | m + 1, j => le_put _ (le_thn (hf _ _ _) (alts_le hf T i g m (j + 1)))
theorem agn_le (hf : ∀ U i g, Le (f U i g) (f' U i g)) (T : PT) : ∀ m i g, Le (agn f T m i g) (agn f' T (m + 1) i g)
  | 0, _, _ => le_bot _
  | m + 1, _, _ => le_put _ (le_put _ (le_bd (hf _ _ _) fun e g' => le_put _ (le_ite (le_refl _) (agn_le hf T m e g'))))
end
theorem D_le (s : ByteArray) (R : ByteArray → Option PT) (dg : Nat → ByteArray) : ∀ n T i g, Le (D s R dg n T i g) (D s R dg (n + 1) T i g)
  | 0, _, _, _ => le_bot _
  | n + 1, T, i, g => by
    have ih := D_le s R dg n
    rw [D, D]
    refine le_put _ (le_ite (le_refl _) (le_ite (le_refl _) (le_ite (agn_le ih _ _ _ _) (le_ite (alts_le ih _ _ _ _ _) (le_ite (le_refl _) (le_ite (le_refl _) (le_ite (le_refl _) (le_ite (cats_le ih _ _ _ _ _) (le_ite (le_bd (ih _ _ _) fun _ _ => le_refl _) (le_ite (le_bd (ih _ _ _) fun _ _ => le_refl _) (le_ite ?_ (le_ite (le_refl _) (le_refl _)))))))))))))
    cases R T.nm with
    | none => exact le_refl _
    | some U => exact ih _ _ _
theorem D_le_add (s : ByteArray) (R : ByteArray → Option PT) (dg : Nat → ByteArray) (n : Nat) (T : PT) (i : Nat) (g : List Gft) : ∀ m, Le (D s R dg n T i g) (D s R dg (n + m) T i g)
  | 0 => le_refl _
  | m + 1 => le_trans (D_le_add s R dg n T i g m) (D_le s R dg (n + m) T i g)
/-- Who has seen the end has seen all. -/
theorem D_same (s : ByteArray) (R : ByteArray → Option PT) (dg : Nat → ByteArray) {n m : Nat} (h : n ≤ m) (T : PT) (i : Nat) (g : List Gft) (he : (D s R dg n T i g).2 ≠ 3) : D s R dg m T i g = D s R dg n T i g := by
  have := D_le_add s R dg n T i g (m - n)
  rw [show n + (m - n) = m by omega] at this
  rcases this with e | ⟨e, _⟩
  · exact e.symm
  · exact absurd e he

/-- The ways alone, in order. -/
def wys (l : List Ev) : List Ev := l.filter fun x => x.w == 3
def onlyW (q : Sq) : Sq := (wys q.1, q.2)
theorem wys_append (a b : List Ev) : wys (a ++ b) = wys a ++ wys b := List.filter_append _ _
theorem onlyW_put {x : Ev} (h : x.w ≠ 3) (q : Sq) : onlyW (put x q) = onlyW q := by
  unfold onlyW put wys
  rw [List.filter_cons, if_neg (by simpa using h)]
theorem onlyW_thn (p q : Sq) : onlyW (thn p q) = thn (onlyW p) (onlyW q) := by
  unfold thn
  show onlyW (if p.2 = 0 then _ else _) = if p.2 = 0 then _ else _
  split
  · unfold onlyW
    rw [wys_append]
  · rfl
theorem onlyW_bd (q : Sq) (f : Nat → List Gft → Sq) : onlyW (bd q f) = bd (onlyW q) fun e g => onlyW (f e g) := by
  obtain ⟨l, n⟩ := q
  induction l with
  | nil => rfl
  | cons x l ih =>
    have ih' : onlyW (bnd l n f) = bnd (wys l) n fun e g => onlyW (f e g) := ih
    show onlyW (bnd (x :: l) n f) = bnd (wys (x :: l)) n _
    unfold wys at ih' ⊢
    rw [bnd, List.filter_cons]
    by_cases h : x.w = 3
    · rw [if_pos h, if_pos (by simpa using h), bnd, if_pos h, onlyW_thn, ih']
    · rw [if_neg h, if_neg (by simpa using h), onlyW_put h, ih']
end Go.Proofs.YtjfahpklemohgaaDoor

namespace Go.Proofs.YtjfahpklemohgaaDoor
open Go.RowKit

/-- Rows of entries, each of as many cells. -/
def flat {α : Type} (f : α → List Value) (l : List α) : List Value := l.flatMap f
section
variable {α : Type} {f : α → List Value} {sz : Nat}
theorem flat_len (hf : ∀ x, (f x).length = sz) (l : List α) : (flat f l).length = l.length * sz := by
  induction l with
  | nil => simp [flat]
  | cons x l ih =>
    show (f x ++ flat f l).length = _
    rw [List.length_append, hf, ih, List.length_cons, Nat.add_mul]; omega
theorem flat_get (hf : ∀ x, (f x).length = sz) : ∀ (l : List α) (i k : Nat) (x : α), l[i]? = some x → k < sz → (flat f l)[i * sz + k]? = (f x)[k]?
  | [], i, k, x, h, _ => by simp at h
  | y :: l, 0, k, x, h, hk => by
    have : y = x := by simpa using h
    subst this
    show (f y ++ flat f l)[0 * sz + k]? = _
    rw [Nat.zero_mul, Nat.zero_add, List.getElem?_append_left (by rw [hf]; exact hk)]
  | y :: l, i + 1, k, x, h, hk => by
    show (f y ++ flat f l)[(i + 1) * sz + k]? = _
    rw [List.getElem?_append_right (by rw [hf, Nat.add_mul]; omega), hf, show (i + 1) * sz + k - sz = i * sz + k by rw [Nat.add_mul]; omega]
    exact flat_get hf l i k x (by simpa using h) hk
theorem flat_take (hf : ∀ x, (f x).length = sz) : ∀ (l : List α) (m : Nat), (flat f l).take (m * sz) = flat f (l.take m)
  | [], m => by simp [flat]
  | y :: l, 0 => by simp [flat]
  | y :: l, m + 1 => by
    show (f y ++ flat f l).take _ = f y ++ flat f (l.take m)
    rw [List.take_append, hf, List.take_of_length_le (by rw [hf, Nat.add_mul]; omega), show (m + 1) * sz - sz = m * sz by rw [Nat.add_mul]; omega, flat_take hf l m]
theorem flat_set (hf : ∀ x, (f x).length = sz) : ∀ (l : List α) (i k : Nat) (x : α) (y : α) (v : Value), l[i]? = some x → k < sz → f y = (f x).set k v → (flat f l).set (i * sz + k) v = flat f (l.set i y)
  | [], i, k, x, y, v, h, _, _ => by simp at h
  | z :: l, 0, k, x, y, v, h, hk, e => by
    have : z = x := by simpa using h
    subst this
    show (f z ++ flat f l).set (0 * sz + k) v = f y ++ flat f l
    rw [Nat.zero_mul, Nat.zero_add, List.set_append_left _ _ (by rw [hf]; exact hk), e]
  | z :: l, i + 1, k, x, y, v, h, hk, e => by
    show (f z ++ flat f l).set ((i + 1) * sz + k) v = f z ++ flat f (l.set i y)
    rw [List.set_append_right _ _ (by rw [hf, Nat.add_mul]; omega), hf, show (i + 1) * sz + k - sz = i * sz + k by rw [Nat.add_mul]; omega, flat_set hf l i k x y v (by simpa using h) hk e]
end
theorem flat_append {α : Type} (f : α → List Value) (a b : List α) : flat f (a ++ b) = flat f a ++ flat f b := by unfold flat; rw [List.flatMap_append]
theorem flat_one {α : Type} (f : α → List Value) (a : α) : flat f [a] = f a := by simp [flat]

/-- A row of the call's own. -/
def Row {α : Type} (w : World) (B : Nat) (e : TypeId) (sz : Nat) (f : α → List Value) (v : Value) (l : List α) : Prop := w.ownsRow B e sz v l.length (flat f l)
section
variable {α : Type} {w w' : World} {B : Nat} {e : TypeId} {sz : Nat} {f : α → List Value} {v : Value} {l : List α}
theorem Row.type (h : Row w B e sz f v l) {k : Nat} (hk : v.ownBlock = some k) : ∃ cur, w.heap[k]? = some (.cells cur e (0, 0)) := by
  rcases h.2 with ⟨rfl, _⟩ | ⟨g, cap, cur, rfl, _, hg, _⟩
  · cases hk
  · cases hk; exact ⟨cur, hg⟩
theorem Row.low (h : Row w B e sz f v l) {k : Nat} (hk : v.ownBlock = some k) : B ≤ k ∧ k < w.heap.size := World.ownsRow.lt h k hk
theorem Row.same (h : Row w B e sz f v l) (hs : ∀ k, v.ownBlock = some k → w'.heap[k]? = w.heap[k]?) : Row w' B e sz f v l := by
  rcases h with ⟨h1, ⟨rfl, h2⟩ | ⟨g, cap, cur, rfl, hb, hg, hr⟩⟩
  · exact ⟨h1, .inl ⟨rfl, h2⟩⟩
  · exact ⟨h1, .inr ⟨g, cap, cur, rfl, hb, (hs g rfl).trans hg, hr⟩⟩
theorem Row.later (h : Row w B e sz f v l) (hb : Below w.heap.size w w') : Row w' B e sz f v l := h.same fun k hk => hb.block k (h.low hk).2
/-- What another row's growing leaves. -/
theorem Row.keep {β : Type} {e' : TypeId} {sz' B' : Nat} {f' : β → List Value} {v' : Value} {l' : List β} (h : Row w B e sz f v l) (h' : Row w B' e' sz' f' v' l') (hne : e ≠ e') (hg : w.grownBy w' v'.ownBlock) : Row w' B e sz f v l :=
  h.same fun k hk => hg.block k (h.low hk).2 fun x => by
    obtain ⟨c1, h1⟩ := h.type hk
    obtain ⟨c2, h2⟩ := h'.type x.symm
    rw [h1] at h2
    injection h2 with h2
    injection h2 with _ h2
    exact hne h2
theorem Row.keepBut {t : TypeId} {g : Nat} {c : Array Value} (h : Row w B e sz f v l) (hg : w.heap[g]? = some (.cells c t (0, 0))) (hne : e ≠ t) (hb : But g w w') : Row w' B e sz f v l :=
  h.same fun k hk => hb.block k (h.low hk).2 fun x => by
    obtain ⟨c1, h1⟩ := h.type hk
    rw [x, hg] at h1
    injection h1 with h1
    injection h1 with _ h1
    exact hne h1.symm
theorem Row.form (h : Row w B e sz f v l) (hl : l ≠ []) : ∃ g cap, v = .slice (some ⟨g, 0, none⟩) l.length cap ∧ l.length ≤ cap ∧ cap ≤ maxLen := by
  rcases h.2 with ⟨_, h0⟩ | ⟨g, cap, cur, rfl, _, _, h1, h2, _⟩
  · exact absurd (List.eq_nil_of_length_eq_zero h0) hl
  · exact ⟨g, cap, rfl, h1, h2⟩
theorem Row.max (h : Row w B e sz f v l) : l.length ≤ maxLen := by
  rcases h.2 with ⟨_, h0⟩ | ⟨g, cap, cur, rfl, _, _, h1, h2, _⟩
  · rw [h0]; exact Nat.zero_le _
  · omega
/-- What comes of its length: as a value. -/
def lenV (v : Value) : Nat := match v with | .slice _ n _ => n | _ => 0
theorem Row.len (h : Row w B e sz f v l) : ∃ a cap, v = .slice a l.length cap ∧ (a = none → cap = 0 ∧ l.length = 0) ∧ l.length ≤ cap := by
  rcases h.2 with ⟨rfl, h0⟩ | ⟨g, cap, cur, rfl, _, _, h1, h2, _⟩
  · exact ⟨none, 0, by rw [h0], fun _ => ⟨rfl, h0⟩, by omega⟩
  · exact ⟨_, cap, rfl, fun h => (by cases h), h1⟩
theorem Row.take (h : Row w B e sz f v l) (hf : ∀ x, (f x).length = sz) {a : Option Addr} {cap m : Nat} (hv : v = .slice a l.length cap) (hm : m ≤ l.length) : Row w B e sz f (.slice a m cap) (l.take m) := by
  have hlm : (l.take m).length = m := by simp; omega
  refine ⟨flat_len hf _, ?_⟩
  rcases h.2 with ⟨h1, h0⟩ | ⟨g, cap', cur, h1, hb, hg, hc, hx, hs, ht⟩
  · rw [hv] at h1
    injection h1 with e1 e2 e3
    have : m = 0 := by omega
    subst this e1 e3
    exact .inl ⟨rfl, by simp⟩
  · rw [hv] at h1
    cases h1
    refine .inr ⟨g, cap, cur, by rw [hlm], hb, hg, by omega, hx, hs, ?_⟩
    rw [hlm, ← flat_take hf l m, ← ht, List.take_take, Nat.min_eq_left (Nat.mul_le_mul_right _ hm)]
theorem Row.cell (h : Row w B e sz f v l) (hf : ∀ x, (f x).length = sz) {g cap i k : Nat} {x : α} {u : Value} (hv : v = .slice (some ⟨g, 0, none⟩) l.length cap) (hx : l[i]? = some x) (hu : (f x)[k]? = some u) : w.cell? ⟨g, i * sz + k, none⟩ = some u := by
  have hk : k < sz := by rw [← hf x]; exact (List.getElem?_eq_some_iff.1 hu).1
  rcases h.2 with ⟨h1, h0⟩ | ⟨g', cap', cur, h1, hb, hg, hc, hm, hs, ht⟩
  · rw [hv] at h1; cases h1
  · rw [hv] at h1; cases h1
    have hi : i < l.length := (List.getElem?_eq_some_iff.1 hx).1
    have hlt : i * sz + k < l.length * sz := by
      have : (i + 1) * sz ≤ l.length * sz := Nat.mul_le_mul_right _ hi
      rw [Nat.add_mul] at this; omega
    rw [cell_of_row _ _ _ _ _ _ hg, ← Array.getElem?_toList]
    have := flat_get hf l i k x hx hk
    rw [← ht, List.getElem?_take, if_pos hlt] at this
    rw [this, hu]
theorem Row.frozen (h : Row w B e sz f v l) {g n cap : Nat} (hv : v = .slice (some ⟨g, 0, none⟩) n cap) (o : Nat) : w.frozen? ⟨g, o, none⟩ = false := by
  rcases h.2 with ⟨h1, h0⟩ | ⟨g', cap', cur, h1, hb, hg, hc, hm, hs, ht⟩
  · rw [hv] at h1; cases h1
  · rw [hv] at h1; cases h1
    exact frozen_of_row w g o _ _ hg
/-- One cell of an entry is stored. -/
theorem Row.set (h : Row w B e sz f v l) (hf : ∀ x, (f x).length = sz) {g n cap i k : Nat} {x y : α} {u : Value} (hv : v = .slice (some ⟨g, 0, none⟩) n cap) (hx : l[i]? = some x) (hk : k < sz) (hy : f y = (f x).set k u) : Row (w.setCell ⟨g, i * sz + k, none⟩ u) B e sz f v (l.set i y) := by
  rcases h.2 with ⟨h1, h0⟩ | ⟨g', cap', cur, h1, hb, hg, hc, hm, hs, ht⟩
  · rw [hv] at h1; cases h1
  · rw [hv] at h1; cases h1
    refine ⟨by rw [flat_len hf], .inr ⟨g, cap, cur.setIfInBounds (i * sz + k) u, ?_, hb, ?_, by simpa using hc, hm, by simpa using hs, ?_⟩⟩
    · rw [hv, List.length_set]
    · exact heap_setCell_same w g (i * sz + k) _ _ u hg
    · rw [List.length_set, ← flat_set hf l i k x y u hx hk hy, ← ht, Array.toList_setIfInBounds, List.take_set]
end

/-- A node of the machine. -/
structure Nd where
  k : Int
  t : ByteArray
  n : Int
  nm : ByteArray
  ru : Int
  fi : Nat
  en : Nat
  st : Option Nat
  fr : Int
  to : Int
def ndV (x : Nd) : List Value := [.int .i64 x.k, .string x.t, .int .i64 x.n, .string x.nm, .int .i64 x.ru, .int .i64 (x.fi : Int), .int .i64 (x.en : Int), .pointer (x.st.map fun b => ⟨b, 0, none⟩), .int .i64 x.fr, .int .i64 x.to]
/-- What is to be done. -/
structure Wr where
  node : Nat
  kid : Nat
  i : Nat
  b : Int
def wrV (x : Wr) : List Value := [.int .i64 (x.node : Int), .int .i64 (x.kid : Int), .int .i64 (x.i : Int), .int .i64 x.b]
/-- A choice. -/
structure Cr where
  node : Nat
  x : Int
  i : Nat
  b : Int
  ws : Nat
  gs : Nat
def crV (x : Cr) : List Value := [.int .i64 (x.node : Int), .int .i64 x.x, .int .i64 (x.i : Int), .int .i64 x.b, .int .i64 (x.ws : Int), .int .i64 (x.gs : Int)]
def gfV (x : Gft) : List Value := [.string x.1, .string x.2]
def inV (x : Int) : List Value := [.int .i64 x]
theorem ndV_len (x : Nd) : (ndV x).length = 10 := rfl
theorem wrV_len (x : Wr) : (wrV x).length = 4 := rfl
theorem crV_len (x : Cr) : (crV x).length = 6 := rfl
theorem gfV_len (x : Gft) : (gfV x).length = 2 := rfl
theorem inV_len (x : Int) : (inV x).length = 1 := rfl

/-- The machine's fields. -/
structure MS where
  s : ByteArray
  rv : Value
  nv : Value
  root : Int
  ro : Value
  begun : Bool
  node : Nat
  i : Nat
  b : Int
  wv : Value
  cv : Value
  gv : Value
  sv : Value
  told : Nat
  room : Nat
  fuel : Nat
  ticks : Nat
  shut : Bool
  err : Int
def MS.row (m : MS) : Array Value := #[.string m.s, m.rv, m.nv, .int .i64 m.root, m.ro, .bool m.begun, .int .i64 (m.node : Int), .int .i64 (m.i : Int), .int .i64 m.b, m.wv, m.cv, m.gv, m.sv, .int .i64 (m.told : Int), .int .i64 (m.room : Int), .int .i64 (m.fuel : Int), .int .i64 (m.ticks : Int), .bool m.shut, .int .i64 m.err]

/-- The machine in memory. -/
structure Rep (w : World) (B g : Nat) (m : MS) (N : List Nd) (O : List Int) (W : List Wr) (C : List Cr) (G S : List Gft) : Prop where
  low : B ≤ g
  blk : w.heap[g]? = some (.cells m.row 56 (0, 0))
  nodes : Row w B 91 10 ndV m.nv N
  roots : Row w B 3 1 inV m.ro O
  works : Row w B 101 4 wrV m.wv W
  choices : Row w B 104 6 crV m.cv C
  given : Row w B 59 2 gfV m.gv G
  said : Row w B 59 2 gfV m.sv S
  apart : ∀ k, m.gv.ownBlock = some k → m.sv.ownBlock ≠ some k
  base : B ≤ w.heap.size

section
variable {w w' : World} {B g : Nat} {m : MS} {N : List Nd} {O : List Int} {W : List Wr} {C : List Cr} {G S : List Gft}
theorem Rep.lt (h : Rep w B g m N O W C G S) : g < w.heap.size := (Array.getElem?_eq_some_iff.1 h.blk).1
theorem Rep.later (h : Rep w B g m N O W C G S) (hb : Below w.heap.size w w') : Rep w' B g m N O W C G S :=
  ⟨h.low, row_below h.blk hb, h.nodes.later hb, h.roots.later hb, h.works.later hb, h.choices.later hb, h.given.later hb, h.said.later hb, h.apart, Nat.le_trans h.base hb.size⟩
theorem Rep.cell (h : Rep w B g m N O W C G S) {k : Nat} {v : Value} (hk : m.row[k]? = some v) : w.cell? ⟨g, k, none⟩ = some v := by rw [cell_of_row w _ _ _ _ _ h.blk, hk]
theorem Rep.frozen (h : Rep w B g m N O W C G S) (k : Nat) : w.frozen? ⟨g, k, none⟩ = false := frozen_of_row w g k _ _ h.blk
theorem Rep.c0 (h : Rep w B g m N O W C G S) : w.cell? ⟨g, 0, none⟩ = some (.string m.s) := h.cell rfl
theorem Rep.c1 (h : Rep w B g m N O W C G S) : w.cell? ⟨g, 1, none⟩ = some (m.rv) := h.cell rfl
theorem Rep.c2 (h : Rep w B g m N O W C G S) : w.cell? ⟨g, 2, none⟩ = some (m.nv) := h.cell rfl
theorem Rep.c3 (h : Rep w B g m N O W C G S) : w.cell? ⟨g, 3, none⟩ = some (.int .i64 m.root) := h.cell rfl
theorem Rep.c4 (h : Rep w B g m N O W C G S) : w.cell? ⟨g, 4, none⟩ = some (m.ro) := h.cell rfl
theorem Rep.c5 (h : Rep w B g m N O W C G S) : w.cell? ⟨g, 5, none⟩ = some (.bool m.begun) := h.cell rfl
theorem Rep.c6 (h : Rep w B g m N O W C G S) : w.cell? ⟨g, 6, none⟩ = some (.int .i64 (m.node : Int)) := h.cell rfl
theorem Rep.c7 (h : Rep w B g m N O W C G S) : w.cell? ⟨g, 7, none⟩ = some (.int .i64 (m.i : Int)) := h.cell rfl
theorem Rep.c8 (h : Rep w B g m N O W C G S) : w.cell? ⟨g, 8, none⟩ = some (.int .i64 m.b) := h.cell rfl
theorem Rep.c9 (h : Rep w B g m N O W C G S) : w.cell? ⟨g, 9, none⟩ = some (m.wv) := h.cell rfl
theorem Rep.c10 (h : Rep w B g m N O W C G S) : w.cell? ⟨g, 10, none⟩ = some (m.cv) := h.cell rfl
theorem Rep.c11 (h : Rep w B g m N O W C G S) : w.cell? ⟨g, 11, none⟩ = some (m.gv) := h.cell rfl
theorem Rep.c12 (h : Rep w B g m N O W C G S) : w.cell? ⟨g, 12, none⟩ = some (m.sv) := h.cell rfl
theorem Rep.c13 (h : Rep w B g m N O W C G S) : w.cell? ⟨g, 13, none⟩ = some (.int .i64 (m.told : Int)) := h.cell rfl
theorem Rep.c14 (h : Rep w B g m N O W C G S) : w.cell? ⟨g, 14, none⟩ = some (.int .i64 (m.room : Int)) := h.cell rfl
theorem Rep.c15 (h : Rep w B g m N O W C G S) : w.cell? ⟨g, 15, none⟩ = some (.int .i64 (m.fuel : Int)) := h.cell rfl
theorem Rep.c16 (h : Rep w B g m N O W C G S) : w.cell? ⟨g, 16, none⟩ = some (.int .i64 (m.ticks : Int)) := h.cell rfl
theorem Rep.c17 (h : Rep w B g m N O W C G S) : w.cell? ⟨g, 17, none⟩ = some (.bool m.shut) := h.cell rfl
theorem Rep.c18 (h : Rep w B g m N O W C G S) : w.cell? ⟨g, 18, none⟩ = some (.int .i64 m.err) := h.cell rfl
/-- A field is stored that is no row. -/
theorem Rep.put (h : Rep w B g m N O W C G S) (k : Nat) (v : Value) (m' : MS) (hr : m.row.setIfInBounds k v = m'.row) (h1 : m'.nv = m.nv) (h2 : m'.ro = m.ro) (h3 : m'.wv = m.wv) (h4 : m'.cv = m.cv) (h5 : m'.gv = m.gv) (h6 : m'.sv = m.sv) : Rep (w.setCell ⟨g, k, none⟩ v) B g m' N O W C G S := by
  have hb : But g w (w.setCell ⟨g, k, none⟩ v) := (But.refl g w).setCell k v
  refine ⟨h.low, by rw [← hr]; exact heap_setCell_same w g k _ _ v h.blk, ?_, ?_, ?_, ?_, ?_, ?_, ?_, ?_⟩
  · rw [h1]; exact h.nodes.keepBut h.blk (by decide) hb
  · rw [h2]; exact h.roots.keepBut h.blk (by decide) hb
  · rw [h3]; exact h.works.keepBut h.blk (by decide) hb
  · rw [h4]; exact h.choices.keepBut h.blk (by decide) hb
  · rw [h5]; exact h.given.keepBut h.blk (by decide) hb
  · rw [h6]; exact h.said.keepBut h.blk (by decide) hb
  · rw [h5, h6]; exact h.apart
  · exact Nat.le_trans h.base hb.size
/-- The works are another row, or a piece of it. -/
theorem Rep.putW (h : Rep w B g m N O W C G S) (v : Value) {W' : List Wr} (hw : Row w B 101 4 wrV v W') : Rep (w.setCell ⟨g, 9, none⟩ v) B g { m with wv := v } N O W' C G S := by
  have hb : But g w (w.setCell ⟨g, 9, none⟩ v) := (But.refl g w).setCell 9 v
  exact ⟨h.low, heap_setCell_same w g 9 _ _ v h.blk, h.nodes.keepBut h.blk (by decide) hb, h.roots.keepBut h.blk (by decide) hb, hw.keepBut h.blk (by decide) hb, h.choices.keepBut h.blk (by decide) hb, h.given.keepBut h.blk (by decide) hb, h.said.keepBut h.blk (by decide) hb, h.apart, Nat.le_trans h.base hb.size⟩
theorem Rep.putC (h : Rep w B g m N O W C G S) (v : Value) {C' : List Cr} (hw : Row w B 104 6 crV v C') : Rep (w.setCell ⟨g, 10, none⟩ v) B g { m with cv := v } N O W C' G S := by
  have hb : But g w (w.setCell ⟨g, 10, none⟩ v) := (But.refl g w).setCell 10 v
  exact ⟨h.low, heap_setCell_same w g 10 _ _ v h.blk, h.nodes.keepBut h.blk (by decide) hb, h.roots.keepBut h.blk (by decide) hb, h.works.keepBut h.blk (by decide) hb, hw.keepBut h.blk (by decide) hb, h.given.keepBut h.blk (by decide) hb, h.said.keepBut h.blk (by decide) hb, h.apart, Nat.le_trans h.base hb.size⟩
theorem Rep.putG (h : Rep w B g m N O W C G S) (v : Value) {G' : List Gft} (hw : Row w B 59 2 gfV v G') (ha : ∀ k, v.ownBlock = some k → m.sv.ownBlock ≠ some k) : Rep (w.setCell ⟨g, 11, none⟩ v) B g { m with gv := v } N O W C G' S := by
  have hb : But g w (w.setCell ⟨g, 11, none⟩ v) := (But.refl g w).setCell 11 v
  exact ⟨h.low, heap_setCell_same w g 11 _ _ v h.blk, h.nodes.keepBut h.blk (by decide) hb, h.roots.keepBut h.blk (by decide) hb, h.works.keepBut h.blk (by decide) hb, h.choices.keepBut h.blk (by decide) hb, hw.keepBut h.blk (by decide) hb, h.said.keepBut h.blk (by decide) hb, ha, Nat.le_trans h.base hb.size⟩
theorem Rep.putS (h : Rep w B g m N O W C G S) (v : Value) {S' : List Gft} (hw : Row w B 59 2 gfV v S') (ha : ∀ k, m.gv.ownBlock = some k → v.ownBlock ≠ some k) : Rep (w.setCell ⟨g, 12, none⟩ v) B g { m with sv := v } N O W C G S' := by
  have hb : But g w (w.setCell ⟨g, 12, none⟩ v) := (But.refl g w).setCell 12 v
  exact ⟨h.low, heap_setCell_same w g 12 _ _ v h.blk, h.nodes.keepBut h.blk (by decide) hb, h.roots.keepBut h.blk (by decide) hb, h.works.keepBut h.blk (by decide) hb, h.choices.keepBut h.blk (by decide) hb, h.given.keepBut h.blk (by decide) hb, hw.keepBut h.blk (by decide) hb, ha, Nat.le_trans h.base hb.size⟩
/-- What an append to one of the rows leaves. -/
theorem grown_blk {e t : TypeId} {c : Array Value} {v : Value} {k : Nat} (hc : w.heap[k]? = some (.cells c t (0, 0))) (hv : ∀ j, v.ownBlock = some j → ∃ cur, w.heap[j]? = some (.cells cur e (0, 0))) (hne : e ≠ t) (hg : w.grownBy w' v.ownBlock) : w'.heap[k]? = some (.cells c t (0, 0)) :=
  (hg.block k (Array.getElem?_eq_some_iff.1 hc).1 fun x => by
    obtain ⟨c2, h2⟩ := hv k x.symm
    rw [hc] at h2
    injection h2 with h2
    injection h2 with _ h2
    exact hne h2.symm).trans hc
end

/-- Where an entry of a slice lies. -/
theorem idx_run {t e : TypeId} {sz g n cap i : Nat} (hu : Tryd.prog.underlying t = some (.slice e)) (hs : (Tryd.prog.info? e).map (·.size) = some sz) (hi : i < n) (w : World) :
    (Instr.indexAt t (.slice (some ⟨g, 0, none⟩) n cap) (.int .i64 (i : Int))).run Tryd.prog w = .ok (.pointer (some ⟨g, i * sz, none⟩)) w := by
  have h0 : (0 : Int) ≤ (i : Int) ∧ (i : Int) < (n : Int) := by omega
  cases hq : Tryd.prog.info? e with
  | none => simp [hq] at hs
  | some x =>
    have hz : x.size = sz := by simpa [hq] using hs
    simp [Instr.indexAt, asIntOf, run_underlying hu, h0, sizeOf, typeInfo, hq, hz, Addr.add_lit]
    intro h
    omega
theorem size_node : (Tryd.prog.info? 91).map (·.size) = some 10 := by kernel_rfl
theorem size_work : (Tryd.prog.info? 101).map (·.size) = some 4 := by kernel_rfl
theorem size_choice : (Tryd.prog.info? 104).map (·.size) = some 6 := by kernel_rfl
theorem size_gift : (Tryd.prog.info? 59).map (·.size) = some 2 := by kernel_rfl
/-- A slice up to a place. -/
theorem cut_run {t e : TypeId} {sz : Nat} {a : Option Addr} {n cap k : Nat} (hu : Tryd.prog.underlying t = some (.slice e)) (hs : (Tryd.prog.info? e).map (·.size) = some sz) (hk : k ≤ n) (hn : n ≤ cap) (ha : ∀ x, a = some x → ∃ b, x = ⟨b, 0, none⟩) (w : World) :
    (Instr.sliceAt t (.slice a n cap) none (some (.int .i64 (k : Int))) none).run Tryd.prog w = .ok (.slice a k cap) w := by
  cases hq : Tryd.prog.info? e with
  | none => simp [hq] at hs
  | some i =>
    have hz : i.size = sz := by simpa [hq] using hs
    have he2 : Tryd.prog.elem t = e := by simp [Program.elem, hu]
    have he : Tryd.prog.underlying t = some (.slice (Tryd.prog.elem t)) := by rw [he2]; exact hu
    rw [run_sliceAt_slice _ _ _ _ _ _ he, run_slice_h _ _ _ _ _ he .i64 (k : Int) (by omega) (by omega), he2]
    cases a with
    | none => simp [sizeOf, typeInfo, sliced, hq, hz]
    | some x =>
      obtain ⟨b, rfl⟩ := ha x rfl
      simp [sizeOf, typeInfo, sliced, hq, hz, Addr.add_lit]
/-- An append of one entry to a row of the call's own. -/
theorem append_row {α : Type} {f : α → List Value} {sz bytes : Nat} {z : Value} {t e : TypeId} (hu : Tryd.prog.underlying t = some (.slice e)) (hinf : (Tryd.prog.info? e).map (fun i => (i.zero, i.size, i.bytes)) = some (some z, sz, bytes)) (hz : z.cells.size = sz) (hsz : 0 < sz) (hby : bytes ≤ 1000) (hf : ∀ x, (f x).length = sz) (h1 : ∀ x, ∀ u ∈ f x, u.oneCell' = true)
    {w : World} {B : Nat} {v : Value} {l : List α} (h : Row w B e sz f v l) (hB : B ≤ w.heap.size) (y : α) (g c : Nat) (hc : ∀ k u, (f y)[k]? = some u → w.cell? ⟨g, k, none⟩ = some u) (hl : l.length ≤ 1000000) (ty : TypeId) :
    ∃ v' w', (Builtin.append_ #[t, t] ty #[v, .slice (some ⟨g, 0, none⟩) 1 c]).run Tryd.prog w = .ok v' w' ∧ Row w' B e sz f v' (l ++ [y]) ∧ w.grownBy w' v.ownBlock ∧ (v'.ownBlock = v.ownBlock ∨ v'.ownBlock = some w.heap.size) := by
  cases hi : Tryd.prog.info? e with
  | none => simp [hi] at hinf
  | some i =>
    simp only [hi, Option.map_some, Option.some.injEq, Prod.mk.injEq] at hinf
    obtain ⟨hz0, hz1, hz2⟩ := hinf
    have hb : (l.length + 1) * bytes ≤ 140737488355328 := by
      have : (l.length + 1) * bytes ≤ 1000001 * 1000 := Nat.mul_le_mul (by omega) hby
      omega
    obtain ⟨v', w', hr, h2, h3, -, h5⟩ := run_append_own_at (P := Tryd.prog) w B t ty e i z sz bytes hu hi hz0 hz1 hz2 hz hsz v l.length (flat f l) h ⟨g, 0, none⟩ 1 c (f y) (by rw [hf, Nat.one_mul]) (fun j u hj => by rw [Addr.add_lit, Nat.zero_add]; exact hc j u hj) (h1 y) (by unfold maxLen; omega) hb hB
    refine ⟨v', w', hr, ?_, h3, h5⟩
    unfold Row
    rw [List.length_append, flat_append, flat_one]
    exact h2
theorem step_row {α : Type} {f : α → List Value} {sz bytes : Nat} {z : Value} {t e : TypeId} (hu : Tryd.prog.underlying t = some (.slice e)) (hinf : (Tryd.prog.info? e).map (fun i => (i.zero, i.size, i.bytes)) = some (some z, sz, bytes)) (hz : z.cells.size = sz) (hsz : 0 < sz) (hby : bytes ≤ 1000) (hf : ∀ x, (f x).length = sz) (h1 : ∀ x, ∀ u ∈ f x, u.oneCell' = true)
    {w : World} {ops : Array Oper} {o : Oper} {a : Act} {K : Act → World → Prop} {Q : Exit → Act → World → Prop} {E : Prop} (hgd : o.guard = none) (s x : Operand)
    (ho : o.op = .call { callee := .builtin .append, args := #[s, x], argTypes := #[t, t] }) {B : Nat} {v : Value} {l : List α} (h : Row w B e sz f v l) (hB : B ≤ w.heap.size) (y : α) (g c : Nat) (hs : a.eval s = v) (hx : a.eval x = .slice (some ⟨g, 0, none⟩) 1 c) (hc : ∀ k u, (f y)[k]? = some u → w.cell? ⟨g, k, none⟩ = some u) (hl : l.length ≤ 1000000)
    (hK : ∀ v' w', Row w' B e sz f v' (l ++ [y]) → w.grownBy w' v.ownBlock → (v'.ownBlock = v.ownBlock ∨ v'.ownBlock = some w.heap.size) → K (a.put o.dst v') w') :
    if Region.wanted o (yielded ops a.tmps) = true then Oper.wp Tryd.prog o a w K Q else E := by
  have hw : Region.wanted o (yielded ops a.tmps) = true := by simp [Region.wanted, hgd]
  rw [if_pos hw]
  obtain ⟨v', w', hr, h2, h3, h4⟩ := append_row hu hinf hz hsz hby hf h1 h hB y g c hc hl o.type
  unfold Oper.wp execOp
  simp only [ho, resolve, invoke, builtin, Sem.run_bind, Sem.run_pure, Result.andThen_ok, List.map_toArray, List.map_cons, List.map_nil, hs, hx, hr]
  exact hK v' w' h2 h3 h4
theorem wpList_row {α : Type} {f : α → List Value} {sz bytes : Nat} {z : Value} {t e : TypeId} (hu : Tryd.prog.underlying t = some (.slice e)) (hinf : (Tryd.prog.info? e).map (fun i => (i.zero, i.size, i.bytes)) = some (some z, sz, bytes)) (hz : z.cells.size = sz) (hsz : 0 < sz) (hby : bytes ≤ 1000) (hf : ∀ x, (f x).length = sz) (h1 : ∀ x, ∀ u ∈ f x, u.oneCell' = true)
    {w : World} {ops : Array Oper} {rest : List Oper} {o : Oper} {a : Act} {Q : Exit → Act → World → Prop} (hgd : o.guard = none) (s x : Operand)
    (ho : o.op = .call { callee := .builtin .append, args := #[s, x], argTypes := #[t, t] }) {B : Nat} {v : Value} {l : List α} (h : Row w B e sz f v l) (hB : B ≤ w.heap.size) (y : α) (g c : Nat) (hs : a.eval s = v) (hx : a.eval x = .slice (some ⟨g, 0, none⟩) 1 c) (hc : ∀ k u, (f y)[k]? = some u → w.cell? ⟨g, k, none⟩ = some u) (hl : l.length ≤ 1000000)
    (hK : ∀ v' w', Row w' B e sz f v' (l ++ [y]) → w.grownBy w' v.ownBlock → (v'.ownBlock = v.ownBlock ∨ v'.ownBlock = some w.heap.size) → wpList Tryd.prog ops Q rest (a.put o.dst v') w') : wpList Tryd.prog ops Q (o :: rest) a w := by
  refine wpList_plain hgd fun K hK' => ?_
  obtain ⟨v', w', hr, h2, h3, h4⟩ := append_row hu hinf hz hsz hby hf h1 h hB y g c hc hl o.type
  unfold Oper.wp execOp
  simp only [ho, resolve, invoke, builtin, Sem.run_bind, Sem.run_pure, Result.andThen_ok, List.map_toArray, List.map_cons, List.map_nil, hs, hx, hr]
  exact hK' _ _ (hK v' w' h2 h3 h4)
theorem ndV_one (x : Nd) : ∀ u ∈ ndV x, u.oneCell' = true := by
  intro u hu
  simp only [ndV, List.mem_cons, List.not_mem_nil, or_false] at hu
  rcases hu with rfl | rfl | rfl | rfl | rfl | rfl | rfl | rfl | rfl | rfl <;> rfl
theorem wrV_one (x : Wr) : ∀ u ∈ wrV x, u.oneCell' = true := by
  intro u hu
  simp only [wrV, List.mem_cons, List.not_mem_nil, or_false] at hu
  rcases hu with rfl | rfl | rfl | rfl <;> rfl
theorem crV_one (x : Cr) : ∀ u ∈ crV x, u.oneCell' = true := by
  intro u hu
  simp only [crV, List.mem_cons, List.not_mem_nil, or_false] at hu
  rcases hu with rfl | rfl | rfl | rfl | rfl | rfl <;> rfl
theorem gfV_one (x : Gft) : ∀ u ∈ gfV x, u.oneCell' = true := by
  intro u hu
  simp only [gfV, List.mem_cons, List.not_mem_nil, or_false] at hu
  rcases hu with rfl | rfl <;> rfl
theorem info_choice : (Tryd.prog.info? 104).map (fun i => (i.zero, i.size, i.bytes)) = some (some (.agg #[.int .i64 0, .int .i64 0, .int .i64 0, .int .i64 0, .int .i64 0, .int .i64 0]), 6, 48) := by kernel_rfl
theorem info_work : (Tryd.prog.info? 101).map (fun i => (i.zero, i.size, i.bytes)) = some (some (.agg #[.int .i64 0, .int .i64 0, .int .i64 0, .int .i64 0]), 4, 32) := by kernel_rfl
theorem info_gift : (Tryd.prog.info? 59).map (fun i => (i.zero, i.size, i.bytes)) = some (some (.agg #[.string ⟨#[]⟩, .string ⟨#[]⟩]), 2, 32) := by kernel_rfl
/-- The cells of a block that is just made. -/
theorem made_cells {w : World} {g : Nat} {c : Array Value} {t : TypeId} (h : w.heap[g]? = some (.cells c t (0, 0))) {l : List Value} (hl : c.toList = l) : ∀ k u, l[k]? = some u → w.cell? ⟨g, k, none⟩ = some u := fun k u hk => by
  rw [cell_of_row _ _ _ _ _ _ h, ← Array.getElem?_toList, hl, hk]
/-- A cell of the machine's block behind a row's growing. -/
theorem Rep.grownC {w w' : World} {B g : Nat} {m : MS} {N : List Nd} {O : List Int} {W : List Wr} {C : List Cr} {G S : List Gft} {v : Value} {l : List Cr} (h : Rep w B g m N O W C G S) (hg : w.grownBy w' m.cv.ownBlock) (hr : Row w' B 104 6 crV v l) : Rep (w'.setCell ⟨g, 10, none⟩ v) B g { m with cv := v } N O W l G S := by
  have hb : w'.heap[g]? = some (.cells m.row 56 (0, 0)) := grown_blk h.blk (fun j hj => h.choices.type hj) (by decide) hg
  have hBut : But g w' (w'.setCell ⟨g, 10, none⟩ v) := (But.refl g w').setCell 10 v
  exact ⟨h.low, heap_setCell_same w' g 10 _ _ v hb, (h.nodes.keep h.choices (by decide) hg).keepBut hb (by decide) hBut, (h.roots.keep h.choices (by decide) hg).keepBut hb (by decide) hBut, (h.works.keep h.choices (by decide) hg).keepBut hb (by decide) hBut, hr.keepBut hb (by decide) hBut, (h.given.keep h.choices (by decide) hg).keepBut hb (by decide) hBut, (h.said.keep h.choices (by decide) hg).keepBut hb (by decide) hBut, h.apart, Nat.le_trans h.base (Nat.le_trans hg.size hBut.size)⟩
theorem Rep.grownW {w w' : World} {B g : Nat} {m : MS} {N : List Nd} {O : List Int} {W : List Wr} {C : List Cr} {G S : List Gft} {v : Value} {l : List Wr} (h : Rep w B g m N O W C G S) (hg : w.grownBy w' m.wv.ownBlock) (hr : Row w' B 101 4 wrV v l) : Rep (w'.setCell ⟨g, 9, none⟩ v) B g { m with wv := v } N O l C G S := by
  have hb : w'.heap[g]? = some (.cells m.row 56 (0, 0)) := grown_blk h.blk (fun j hj => h.works.type hj) (by decide) hg
  have hBut : But g w' (w'.setCell ⟨g, 9, none⟩ v) := (But.refl g w').setCell 9 v
  exact ⟨h.low, heap_setCell_same w' g 9 _ _ v hb, (h.nodes.keep h.works (by decide) hg).keepBut hb (by decide) hBut, (h.roots.keep h.works (by decide) hg).keepBut hb (by decide) hBut, hr.keepBut hb (by decide) hBut, (h.choices.keep h.works (by decide) hg).keepBut hb (by decide) hBut, (h.given.keep h.works (by decide) hg).keepBut hb (by decide) hBut, (h.said.keep h.works (by decide) hg).keepBut hb (by decide) hBut, h.apart, Nat.le_trans h.base (Nat.le_trans hg.size hBut.size)⟩
theorem Row.apartKeep {w w' : World} {B : Nat} {e : TypeId} {sz : Nat} {α : Type} {f : α → List Value} {v v' : Value} {l : List α} (h : Row w B e sz f v l) (ha : ∀ k, v.ownBlock = some k → v'.ownBlock ≠ some k) (hg : w.grownBy w' v'.ownBlock) : Row w' B e sz f v l :=
  h.same fun k hk => hg.block k (h.low hk).2 fun x => ha k hk x.symm
theorem Rep.grownG {w w' : World} {B g : Nat} {m : MS} {N : List Nd} {O : List Int} {W : List Wr} {C : List Cr} {G S : List Gft} {v : Value} {l : List Gft} (h : Rep w B g m N O W C G S) (hg : w.grownBy w' m.gv.ownBlock) (hr : Row w' B 59 2 gfV v l) (hv : v.ownBlock = m.gv.ownBlock ∨ v.ownBlock = some w.heap.size) : Rep (w'.setCell ⟨g, 11, none⟩ v) B g { m with gv := v } N O W C l S := by
  have hb : w'.heap[g]? = some (.cells m.row 56 (0, 0)) := grown_blk h.blk (fun j hj => h.given.type hj) (by decide) hg
  have hBut : But g w' (w'.setCell ⟨g, 11, none⟩ v) := (But.refl g w').setCell 11 v
  refine ⟨h.low, heap_setCell_same w' g 11 _ _ v hb, (h.nodes.keep h.given (by decide) hg).keepBut hb (by decide) hBut, (h.roots.keep h.given (by decide) hg).keepBut hb (by decide) hBut, (h.works.keep h.given (by decide) hg).keepBut hb (by decide) hBut, (h.choices.keep h.given (by decide) hg).keepBut hb (by decide) hBut, hr.keepBut hb (by decide) hBut, (h.said.apartKeep (fun k hk x => h.apart k x hk) hg).keepBut hb (by decide) hBut, fun k hk hs => ?_, Nat.le_trans h.base (Nat.le_trans hg.size hBut.size)⟩
  rcases hv with e | e
  · exact h.apart k (e ▸ hk) hs
  · have := (h.said.low hs).2
    rw [show (MS.gv { m with gv := v }) = v from rfl, e] at hk
    injection hk with hk
    omega
theorem Rep.grownS {w w' : World} {B g : Nat} {m : MS} {N : List Nd} {O : List Int} {W : List Wr} {C : List Cr} {G S : List Gft} {v : Value} {l : List Gft} (h : Rep w B g m N O W C G S) (hg : w.grownBy w' m.sv.ownBlock) (hr : Row w' B 59 2 gfV v l) (hv : v.ownBlock = m.sv.ownBlock ∨ v.ownBlock = some w.heap.size) : Rep (w'.setCell ⟨g, 12, none⟩ v) B g { m with sv := v } N O W C G l := by
  have hb : w'.heap[g]? = some (.cells m.row 56 (0, 0)) := grown_blk h.blk (fun j hj => h.said.type hj) (by decide) hg
  have hBut : But g w' (w'.setCell ⟨g, 12, none⟩ v) := (But.refl g w').setCell 12 v
  refine ⟨h.low, heap_setCell_same w' g 12 _ _ v hb, (h.nodes.keep h.said (by decide) hg).keepBut hb (by decide) hBut, (h.roots.keep h.said (by decide) hg).keepBut hb (by decide) hBut, (h.works.keep h.said (by decide) hg).keepBut hb (by decide) hBut, (h.choices.keep h.said (by decide) hg).keepBut hb (by decide) hBut, (h.given.apartKeep h.apart hg).keepBut hb (by decide) hBut, hr.keepBut hb (by decide) hBut, fun k hk hs => ?_, Nat.le_trans h.base (Nat.le_trans hg.size hBut.size)⟩
  rcases hv with e | e
  · exact h.apart k hk (e ▸ hs)
  · have := (h.given.low hk).2
    rw [show (MS.sv { m with sv := v }) = v from rfl, e] at hs
    injection hs with hs
    omega
/-- What lies below is as it was. -/
theorem below_grown {B : Nat} {a w w' : World} {α : Type} {e : TypeId} {sz : Nat} {f : α → List Value} {v : Value} {l : List α} (h : Below B a w) (hr : Row w B e sz f v l) (hB : B ≤ a.heap.size) (hg : w.grownBy w' v.ownBlock) : Below B a w' :=
  ⟨hg.os.trans h.os, hg.tape.trans h.tape, hg.output.trans h.output, Nat.le_trans h.size hg.size, fun k hk => (hg.block k (by have := h.size; omega) fun x => by have := (hr.low x.symm).1; omega).trans (h.block k hk)⟩
theorem below_cell {B g : Nat} {a w : World} (h : Below B a w) (hg : B ≤ g) (k : Nat) (v : Value) : Below B a (w.setCell ⟨g, k, none⟩ v) :=
  ⟨h.os, h.tape, h.output, by simpa using h.size, fun i hi => (heap_setCell_other w ⟨g, k, none⟩ i v (by show i ≠ g; omega)).trans (h.block i hi)⟩
theorem Row.neBlk {w : World} {B : Nat} {e t : TypeId} {sz : Nat} {α : Type} {f : α → List Value} {v : Value} {l : List α} (h : Row w B e sz f v l) {g : Nat} {c : Array Value} (hg : w.heap[g]? = some (.cells c t (0, 0))) (hne : e ≠ t) : some g ≠ v.ownBlock := fun x => by
  obtain ⟨c1, h1⟩ := h.type x.symm
  rw [hg] at h1
  injection h1 with h1
  injection h1 with _ h1
  exact hne h1.symm
theorem bel_trans {B : Nat} {a b c : World} (h : Below B a b) (k : Below B b c) (_hB : B ≤ a.heap.size) : Below B a c :=
  ⟨k.os.trans h.os, k.tape.trans h.tape, k.output.trans h.output, Nat.le_trans h.size k.size, fun i hi => (k.block i hi).trans (h.block i hi)⟩
theorem Row.zeroAt {w : World} {B : Nat} {e : TypeId} {sz : Nat} {α : Type} {f : α → List Value} {v : Value} {l : List α} (h : Row w B e sz f v l) {a : Option Addr} {n cap : Nat} (hv : v = .slice a n cap) : ∀ x, a = some x → ∃ b, x = ⟨b, 0, none⟩ := by
  intro x hx
  rcases h.2 with ⟨h1, h0⟩ | ⟨g, cap', cur, h1, _⟩
  · rw [hv, hx] at h1; cases h1
  · rw [hv, hx] at h1
    injection h1 with h1
    injection h1 with h1
    exact ⟨g, h1⟩

/-- The blocks that the machine has. -/
def MS.owns (m : MS) (g k : Nat) : Prop := k = g ∨ m.nv.ownBlock = some k ∨ m.ro.ownBlock = some k ∨ m.wv.ownBlock = some k ∨ m.cv.ownBlock = some k ∨ m.gv.ownBlock = some k ∨ m.sv.ownBlock = some k
/-- Nothing else has changed, and what it has now it had, or is new. -/
structure Fr (g : Nat) (m m' : MS) (w w' : World) : Prop where
  os : w'.os = w.os
  tape : w'.tape = w.tape
  output : w'.output = w.output
  size : w.heap.size ≤ w'.heap.size
  block : ∀ k, k < w.heap.size → ¬ m.owns g k → w'.heap[k]? = w.heap[k]?
  own : ∀ k, m'.owns g k → m.owns g k ∨ w.heap.size ≤ k
theorem Fr.refl (g : Nat) (m : MS) (w : World) : Fr g m m w w := ⟨rfl, rfl, rfl, Nat.le_refl _, fun _ _ _ => rfl, fun _ h => .inl h⟩
theorem Fr.trans {g : Nat} {m1 m2 m3 : MS} {a b c : World} (h : Fr g m1 m2 a b) (k : Fr g m2 m3 b c) : Fr g m1 m3 a c :=
  ⟨k.os.trans h.os, k.tape.trans h.tape, k.output.trans h.output, Nat.le_trans h.size k.size, fun i hi hn => (k.block i (Nat.lt_of_lt_of_le hi h.size) fun x => by
    rcases h.own i x with y | y
    · exact hn y
    · omega).trans (h.block i hi hn), fun i hi => by
    rcases k.own i hi with y | y
    · exact h.own i y
    · exact .inr (Nat.le_trans h.size y)⟩
theorem Fr.later {g : Nat} {m : MS} {a b : World} (h : Below a.heap.size a b) : Fr g m m a b := ⟨h.os, h.tape, h.output, h.size, fun k hk _ => h.block k hk, fun _ h => .inl h⟩
theorem Fr.cell {g : Nat} {m m' : MS} {w : World} (k : Nat) (v : Value) (h1 : m'.nv = m.nv) (h2 : m'.ro = m.ro) (h3 : m'.wv = m.wv) (h4 : m'.cv = m.cv) (h5 : m'.gv = m.gv) (h6 : m'.sv = m.sv) : Fr g m m' w (w.setCell ⟨g, k, none⟩ v) :=
  ⟨rfl, rfl, rfl, by simp, fun i _ hn => heap_setCell_other w ⟨g, k, none⟩ i v (fun e => hn (.inl e)), fun i hi => .inl (by unfold MS.owns at *; rw [h1, h2, h3, h4, h5, h6] at hi; exact hi)⟩
theorem Fr.below {w w' : World} {B g : Nat} {m m' : MS} {N : List Nd} {O : List Int} {W : List Wr} {C : List Cr} {G S : List Gft} (h : Rep w B g m N O W C G S) (f : Fr g m m' w w') : Below B w w' :=
  ⟨f.os, f.tape, f.output, f.size, fun k hk => f.block k (Nat.lt_of_lt_of_le hk h.base) fun x => by
    have hl := h.low
    rcases x with x | x | x | x | x | x | x
    · omega
    · have := (h.nodes.low x).1; omega
    · have := (h.roots.low x).1; omega
    · have := (h.works.low x).1; omega
    · have := (h.choices.low x).1; omega
    · have := (h.given.low x).1; omega
    · have := (h.said.low x).1; omega⟩
/-- A row has grown, and its new value is stored. -/
theorem fr_grow {g : Nat} {m m' : MS} {w w' : World} {o v : Value} (k : Nat) (hg : w.grownBy w' o.ownBlock) (ho : ∀ i, o.ownBlock = some i → m.owns g i) (hv : v.ownBlock = o.ownBlock ∨ v.ownBlock = some w.heap.size)
    (hm : ∀ i, m'.owns g i → m.owns g i ∨ v.ownBlock = some i) : Fr g m m' w (w'.setCell ⟨g, k, none⟩ v) :=
  ⟨hg.os, hg.tape, hg.output, by simpa using hg.size, fun i hi hn => (heap_setCell_other w' ⟨g, k, none⟩ i v (fun e => hn (.inl e))).trans (hg.block i hi fun e => hn (ho i e.symm)), fun i hi => by
    rcases hm i hi with x | x
    · exact .inl x
    · rcases hv with y | y
      · exact .inl (ho i (y ▸ x))
      · rw [y] at x; injection x with x; exact .inr (by omega)⟩
theorem Fr.growC {g : Nat} {m : MS} {w w' : World} {v : Value} (hg : w.grownBy w' m.cv.ownBlock) (hv : v.ownBlock = m.cv.ownBlock ∨ v.ownBlock = some w.heap.size) : Fr g m { m with cv := v } w (w'.setCell ⟨g, 10, none⟩ v) :=
  fr_grow 10 hg (fun i h => .inr (.inr (.inr (.inr (.inl h))))) hv fun i h => by
    rcases h with x | x | x | x | x | x | x
    · exact .inl (.inl x)
    · exact .inl (.inr (.inl x))
    · exact .inl (.inr (.inr (.inl x)))
    · exact .inl (.inr (.inr (.inr (.inl x))))
    · exact .inr x
    · exact .inl (.inr (.inr (.inr (.inr (.inr (.inl x))))))
    · exact .inl (.inr (.inr (.inr (.inr (.inr (.inr x))))))
theorem Fr.growW {g : Nat} {m : MS} {w w' : World} {v : Value} (hg : w.grownBy w' m.wv.ownBlock) (hv : v.ownBlock = m.wv.ownBlock ∨ v.ownBlock = some w.heap.size) : Fr g m { m with wv := v } w (w'.setCell ⟨g, 9, none⟩ v) :=
  fr_grow 9 hg (fun i h => .inr (.inr (.inr (.inl h)))) hv fun i h => by
    rcases h with x | x | x | x | x | x | x
    · exact .inl (.inl x)
    · exact .inl (.inr (.inl x))
    · exact .inl (.inr (.inr (.inl x)))
    · exact .inr x
    · exact .inl (.inr (.inr (.inr (.inr (.inl x)))))
    · exact .inl (.inr (.inr (.inr (.inr (.inr (.inl x))))))
    · exact .inl (.inr (.inr (.inr (.inr (.inr (.inr x))))))
theorem Fr.growG {g : Nat} {m : MS} {w w' : World} {v : Value} (hg : w.grownBy w' m.gv.ownBlock) (hv : v.ownBlock = m.gv.ownBlock ∨ v.ownBlock = some w.heap.size) : Fr g m { m with gv := v } w (w'.setCell ⟨g, 11, none⟩ v) :=
  fr_grow 11 hg (fun i h => .inr (.inr (.inr (.inr (.inr (.inl h)))))) hv fun i h => by
    rcases h with x | x | x | x | x | x | x
    · exact .inl (.inl x)
    · exact .inl (.inr (.inl x))
    · exact .inl (.inr (.inr (.inl x)))
    · exact .inl (.inr (.inr (.inr (.inl x))))
    · exact .inl (.inr (.inr (.inr (.inr (.inl x)))))
    · exact .inr x
    · exact .inl (.inr (.inr (.inr (.inr (.inr (.inr x))))))
theorem Fr.growS {g : Nat} {m : MS} {w w' : World} {v : Value} (hg : w.grownBy w' m.sv.ownBlock) (hv : v.ownBlock = m.sv.ownBlock ∨ v.ownBlock = some w.heap.size) : Fr g m { m with sv := v } w (w'.setCell ⟨g, 12, none⟩ v) :=
  fr_grow 12 hg (fun i h => .inr (.inr (.inr (.inr (.inr (.inr h)))))) hv fun i h => by
    rcases h with x | x | x | x | x | x | x
    · exact .inl (.inl x)
    · exact .inl (.inr (.inl x))
    · exact .inl (.inr (.inr (.inl x)))
    · exact .inl (.inr (.inr (.inr (.inl x))))
    · exact .inl (.inr (.inr (.inr (.inr (.inl x)))))
    · exact .inl (.inr (.inr (.inr (.inr (.inr (.inl x))))))
    · exact .inr x
/-- A cell of the choices is stored. -/
theorem RepCset {w : World} {B g : Nat} {m : MS} {N : List Nd} {O : List Int} {W : List Wr} {C C' : List Cr} {G S : List Gft} (h : Rep w B g m N O W C G S) {gc : Nat} (ho : m.cv.ownBlock = some gc) (k : Nat) (v : Value) (hr : Row (w.setCell ⟨gc, k, none⟩ v) B 104 6 crV m.cv C') : Rep (w.setCell ⟨gc, k, none⟩ v) B g m N O W C' G S := by
  obtain ⟨cur, hcur⟩ := h.choices.type ho
  have hb : But gc w (w.setCell ⟨gc, k, none⟩ v) := (But.refl gc w).setCell k v
  have hne : g ≠ gc := fun e => h.choices.neBlk h.blk (by decide) (by rw [ho, e])
  exact ⟨h.low, hb.row hne h.blk, h.nodes.keepBut hcur (by decide) hb, h.roots.keepBut hcur (by decide) hb, h.works.keepBut hcur (by decide) hb, hr, h.given.keepBut hcur (by decide) hb, h.said.keepBut hcur (by decide) hb, h.apart, Nat.le_trans h.base hb.size⟩
theorem FrCset {w : World} {g : Nat} {m : MS} {gc : Nat} (ho : m.cv.ownBlock = some gc) (k : Nat) (v : Value) : Fr g m m w (w.setCell ⟨gc, k, none⟩ v) :=
  ⟨rfl, rfl, rfl, by simp, fun i _ hn => heap_setCell_other w ⟨gc, k, none⟩ i v (fun e => hn (.inr (.inr (.inr (.inr (.inl (by rw [ho]; exact congrArg some e.symm))))))), fun _ h => .inl h⟩
/-- The choices are another row that lies in the same block. -/
theorem FrC {w : World} {g : Nat} {m : MS} {v : Value} (ho : v.ownBlock = m.cv.ownBlock) : Fr g m { m with cv := v } w (w.setCell ⟨g, 10, none⟩ v) :=
  fr_grow 10 (w' := w) (o := m.cv) ⟨rfl, rfl, rfl, Nat.le_refl _, fun _ _ _ => rfl⟩ (fun i h => .inr (.inr (.inr (.inr (.inl h))))) (.inl ho) fun i h => by
    rcases h with x | x | x | x | x | x | x
    · exact .inl (.inl x)
    · exact .inl (.inr (.inl x))
    · exact .inl (.inr (.inr (.inl x)))
    · exact .inl (.inr (.inr (.inr (.inl x))))
    · exact .inr x
    · exact .inl (.inr (.inr (.inr (.inr (.inr (.inl x))))))
    · exact .inl (.inr (.inr (.inr (.inr (.inr (.inr x))))))
theorem Row.neRow {w : World} {B B' : Nat} {e e' : TypeId} {sz sz' : Nat} {α β : Type} {f : α → List Value} {f' : β → List Value} {v v' : Value} {l : List α} {l' : List β} (h : Row w B e sz f v l) (h' : Row w B' e' sz' f' v' l') (hne : e ≠ e') {a b n n' c c' : Nat} (hv : v = .slice (some ⟨a, 0, none⟩) n c) (hv' : v' = .slice (some ⟨b, 0, none⟩) n' c') : ¬ a = b := fun x => by
  obtain ⟨c1, h1⟩ := h.type (k := a) (by rw [hv]; rfl)
  obtain ⟨c2, h2⟩ := h'.type (k := b) (by rw [hv']; rfl)
  rw [← x, h1] at h2
  injection h2 with h2
  injection h2 with _ h2
  exact hne h2
end Go.Proofs.YtjfahpklemohgaaDoor

namespace Go.Proofs.YtjfahpklemohgaaDoor
open Go.RowKit

/-- A pattern lies among the nodes. rn: which rule has a name. -/
def Lies (rn : ByteArray → Int) (N : List Nd) : PT → Nat → Prop
  | .node k t n nm _ _ _ len _ kids, idx => ∃ x, N[idx]? = some x ∧ x.k = k ∧ x.t = t ∧ x.n = n ∧ ((k = 21 ∨ k = 22 ∨ k = 23) → x.nm = nm) ∧ (k = 24 → x.ru = rn nm) ∧ x.en = x.fi + len ∧ x.en ≤ 1000000 ∧ ∀ j : Fin len, Lies rn N (kids j) (x.fi + j.val)
theorem Lies.node {rn : ByteArray → Int} {N : List Nd} {T : PT} {i : Nat} (h : Lies rn N T i) : ∃ x, N[i]? = some x ∧ x.k = T.k ∧ x.t = T.t ∧ x.n = T.n ∧ ((T.k = 21 ∨ T.k = 22 ∨ T.k = 23) → x.nm = T.nm) ∧ (T.k = 24 → x.ru = rn T.nm) ∧ x.en = x.fi + T.len ∧ x.en ≤ 1000000 ∧ ∀ j, j < T.len → Lies rn N (T.kid j) (x.fi + j) := by
  obtain ⟨k, t, n, nm, xa, b, o, len, cap, kids⟩ := T
  obtain ⟨x, h1, h2, h3, h4, h5, h6, h7, h8, h9⟩ := h
  refine ⟨x, h1, h2, h3, h4, h5, h6, h7, h8, fun j hj => ?_⟩
  rw [PT.kid_at (T := .node k t n nm xa b o len cap kids) hj]
  exact h9 ⟨j, hj⟩
/-- What is kept of the nodes. -/
def Same (N N' : List Nd) : Prop := ∀ (i : Nat) (x : Nd), N[i]? = some x → ∃ y : Nd, N'[i]? = some y ∧ y.k = x.k ∧ y.t = x.t ∧ y.n = x.n ∧ y.nm = x.nm ∧ y.ru = x.ru ∧ y.fi = x.fi ∧ y.en = x.en
theorem Same.refl (N : List Nd) : Same N N := fun _ x h => ⟨x, h, rfl, rfl, rfl, rfl, rfl, rfl, rfl⟩
theorem Lies.mono {rn : ByteArray → Int} {N N' : List Nd} (hs : Same N N') : ∀ {T : PT} {i : Nat}, Lies rn N T i → Lies rn N' T i
  | .node k t n nm xa b o len cap kids, i, h => by
    have ih := fun (j : Fin len) (q : Nat) => Lies.mono (rn := rn) hs (T := kids j) (i := q)
    obtain ⟨x, h1, h2, h3, h4, h5, h6, h7, h8, h9⟩ := h
    obtain ⟨y, k1, k2, k3, k4, k5, k6, k7, k8⟩ := hs i x h1
    exact ⟨y, k1, k2.trans h2, k3.trans h3, k4.trans h4, fun q => k5.trans (h5 q), fun q => k6.trans (h6 q), by rw [k8, k7]; exact h7, by rw [k8]; exact h8, fun j => by rw [k7]; exact ih j _ (h9 j)⟩

/-- Patterns whose kinds look for no byte of a text, tell nothing at once and call nobody. -/
def okN (k : Int) (t : ByteArray) (n : Int) (len : Nat) : Prop :=
  (k = 1 ∨ k = 2 ∨ (8 ≤ k ∧ k ≤ 21)) ∧ (k = 1 → t.size ≤ 65536) ∧ ((k = 2 ∨ (8 ≤ k ∧ k ≤ 11)) → 0 ≤ n ∧ n ≤ 65536) ∧ ((k = 18 ∨ k = 19) → 2 ≤ len) ∧ ((k = 20 ∨ k = 21) → len = 1)
def Fine : PT → Prop
  | .node k t n _ _ _ _ len _ kids => okN k t n len ∧ ∀ j : Fin len, Fine (kids j)
theorem Fine.ok {T : PT} (h : Fine T) : okN T.k T.t T.n T.len := by cases T; exact h.1
theorem Fine.kid {T : PT} (h : Fine T) {j : Nat} (hj : j < T.len) : Fine (T.kid j) := by
  rw [PT.kid_at hj]
  cases T; exact h.2 ⟨j, hj⟩

section
variable (rn : ByteArray → Int) (sz : Nat) (N : List Nd)
/-- What is behind. -/
def Chain : List Wr → Int → List Wk → Prop
  | _, b, [] => b = -1
  | W, b, k :: ks => ∃ bi r, b = ((bi : Nat) : Int) ∧ W[bi]? = some r ∧ Lies rn N k.T r.node ∧ Fine k.T ∧ (k.T.k = 18 ∨ k.T.k = 20 ∨ k.T.k = 21) ∧ r.i = k.i ∧ k.i ≤ sz ∧
      (k.T.k = 18 → ∃ x, N[r.node]? = some x ∧ r.kid = x.fi + k.j ∧ k.j + 1 < k.T.len) ∧ Chain (W.take bi) r.b ks
/-- Where it may go back to. q: how many there may be, with what is given and what is behind. -/
def Chs (q : Nat) : List Wr → List Gft → List Cr → List Ch → Prop
  | _, _, C, [] => C = []
  | W, G, C, k :: ks => ∃ C0 c, C = C0 ++ [c] ∧ Lies rn N k.T c.node ∧ Fine k.T ∧ (k.T.k = 16 ∨ k.T.k = 19 ∨ k.T.k = 20 ∨ k.T.k = 13 ∨ k.T.k = 14) ∧ c.i = k.i ∧ k.i ≤ sz ∧ c.ws ≤ W.length ∧ c.gs ≤ G.length ∧ G.take c.gs = k.g ∧
      (k.T.k = 19 → ∃ x, N[c.node]? = some x ∧ c.x = ((x.fi + k.x : Nat) : Int) ∧ k.x < k.T.len) ∧ (k.T.k = 13 → c.x = (k.x : Int) ∧ k.x ≤ sz + 1 ∧ k.i ≤ k.x) ∧ (k.T.k = 14 → c.x = (k.x : Int) ∧ k.x ≤ sz ∧ k.i ≤ k.x) ∧
      C.length + c.gs + k.ch.length ≤ q ∧ Chain rn sz N (W.take c.ws) c.b k.ch ∧ Chs q (W.take c.ws) (G.take c.gs) C0 ks
end
section
variable {rn : ByteArray → Int} {sz : Nat} {N : List Nd}
theorem Chain.append : ∀ {ks : List Wk} {W : List Wr} {b : Int} (X : List Wr), Chain rn sz N W b ks → Chain rn sz N (W ++ X) b ks
  | [], _, _, _, h => h
  | k :: ks, W, b, X, h => by
    obtain ⟨bi, r, h1, h2, h3, h4, h5, h6, h7, h8, h9⟩ := h
    have hb : bi < W.length := (List.getElem?_eq_some_iff.1 h2).1
    refine ⟨bi, r, h1, by rw [List.getElem?_append_left hb]; exact h2, h3, h4, h5, h6, h7, h8, ?_⟩
    rw [List.take_append_of_le_length (by omega)]
    exact h9
theorem Chs.append : ∀ {ks : List Ch} {W : List Wr} {G : List Gft} {C : List Cr} {q : Nat} (X : List Wr) (Y : List Gft), Chs rn sz N q W G C ks → Chs rn sz N q (W ++ X) (G ++ Y) C ks
  | [], _, _, _, _, _, _, h => h
  | k :: ks, W, G, C, q, X, Y, h => by
    obtain ⟨C0, c, h1, h2, h3, h4, h5, h6, h7, h8, h9, h10, h11, h12, h13, h14, h15⟩ := h
    refine ⟨C0, c, h1, h2, h3, h4, h5, h6, by rw [List.length_append]; omega, by rw [List.length_append]; omega, ?_, h10, h11, h12, h13, ?_, ?_⟩
    · rw [List.take_append_of_le_length h8]; exact h9
    · rw [List.take_append_of_le_length h7]; exact h14
    · rw [List.take_append_of_le_length h7, List.take_append_of_le_length h8]; exact h15
theorem Chs.more : ∀ {ks : List Ch} {W : List Wr} {G : List Gft} {C : List Cr} {q q' : Nat}, q ≤ q' → Chs rn sz N q W G C ks → Chs rn sz N q' W G C ks
  | [], _, _, _, _, _, _, h => h
  | k :: ks, W, G, C, q, q', hq, h => by
    obtain ⟨C0, c, h1, h2, h3, h4, h5, h6, h7, h8, h9, h10, h11, h12, h13, h14, h15⟩ := h
    exact ⟨C0, c, h1, h2, h3, h4, h5, h6, h7, h8, h9, h10, h11, h12, by omega, h14, Chs.more hq h15⟩
theorem Chs.appendW {ks : List Ch} {W : List Wr} {G : List Gft} {C : List Cr} {q : Nat} (X : List Wr) (h : Chs rn sz N q W G C ks) : Chs rn sz N q (W ++ X) G C ks := by
  have := h.append X []
  rwa [List.append_nil] at this
theorem Chs.appendG {ks : List Ch} {W : List Wr} {G : List Gft} {C : List Cr} {q : Nat} (Y : List Gft) (h : Chs rn sz N q W G C ks) : Chs rn sz N q W (G ++ Y) C ks := by
  have := h.append [] Y
  rwa [List.append_nil] at this
theorem take_all {α : Type} (l : List α) : l.take l.length = l := List.take_length
end

/-- How deep what is behind is looked at. f: the fuel that is left, and one; d: 1, if a node was come to since; i: the place, ahead of which all of it began. -/
def Deep (f d i : Nat) (ch : List Wk) : Prop := ∀ k ∈ ch, f + 1 ≤ k.n ∧ (k.T.k = 20 → f + d ≤ k.m) ∧ k.i ≤ i
def DeepC (f : Nat) (cs : List Ch) : Prop := ∀ c ∈ cs, f + 1 ≤ c.n ∧ (c.T.k = 20 → f ≤ c.m) ∧ Deep f 1 c.i c.ch
theorem Deep.less {f f' d d' i i' : Nat} {ch : List Wk} (h : Deep f d i ch) (hf : f' ≤ f) (hd : f' + d' ≤ f + d) (hi : i ≤ i') : Deep f' d' i' ch := fun k hk => ⟨by have := (h k hk).1; omega, fun q => by have := (h k hk).2.1 q; omega, by have := (h k hk).2.2; omega⟩
theorem DeepC.less {f f' : Nat} {cs : List Ch} (h : DeepC f cs) (hf : f' ≤ f) : DeepC f' cs := fun c hc => ⟨by have := (h c hc).1; omega, fun q => by have := (h c hc).2.1 q; omega, (h c hc).2.2.less hf (by omega) (Nat.le_refl _)⟩
end Go.Proofs.YtjfahpklemohgaaDoor
