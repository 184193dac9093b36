/- What comes of trying a pattern, one thing behind the other: a list of events and how it ends; one behind the other, one for each way. -/
namespace Go.Proofs.YtohbkmeomphleaaDoor

/-- What is given a name. -/
abbrev Gft := ByteArray × ByteArray
/-- w: 0 a coming, 1 a turn, 2 something told, 3 a way; a: where it ends; g: what is given on it, or told. -/
structure Ev where
  w : Nat
  a : Nat
  g : List Gft
/-- Events, and the end: 0 no more, 1 nobody may look further, 2 a name without a rule, 3 beyond what is looked at. -/
abbrev Sq := List Ev × Nat

def tk : Ev := ⟨0, 0, []⟩
def hs : Ev := ⟨1, 0, []⟩
def sd (x : Gft) : Ev := ⟨2, 0, [x]⟩
def wy (e : Nat) (g : List Gft) : Ev := ⟨3, e, g⟩
def put (x : Ev) (q : Sq) : Sq := (x :: q.1, q.2)
def one (x : Ev) : Sq := ([x], 0)
def nil : Sq := ([], 0)
/-- One, and if it is at its end, the other one. -/
def thn (p q : Sq) : Sq := if p.2 = 0 then (p.1 ++ q.1, q.2) else p
/-- Behind each way something. -/
def bnd : List Ev → Nat → (Nat → List Gft → Sq) → Sq
  | [], n, _ => ([], n)
  | x :: r, n, f => if x.w = 3 then thn (f x.a x.g) (bnd r n f) else put x (bnd r n f)
def bd (q : Sq) (f : Nat → List Gft → Sq) : Sq := bnd q.1 q.2 f

theorem thn_nil (q : Sq) : thn nil q = q := rfl
theorem nil_thn (q : Sq) : thn q nil = q := by
  obtain ⟨l, n⟩ := q
  unfold thn nil
  by_cases h : n = 0
  · simp [h]
  · simp [h]
theorem thn_put (x : Ev) (p q : Sq) : thn (put x p) q = put x (thn p q) := by
  unfold thn put
  by_cases h : p.2 = 0
  · simp [h]
  · simp [h]
theorem thn_assoc (p q r : Sq) : thn (thn p q) r = thn p (thn q r) := by
  unfold thn
  by_cases h : p.2 = 0
  · by_cases k : q.2 = 0
    · simp [h, k]
    · simp [h, k]
  · simp [h]
theorem thn_stop {p : Sq} (q : Sq) (h : p.2 ≠ 0) : thn p q = p := if_neg h
theorem one_thn (x : Ev) (q : Sq) : thn (one x) q = put x q := rfl

theorem bd_nil (f : Nat → List Gft → Sq) : bd nil f = nil := rfl
theorem bd_end (n : Nat) (f : Nat → List Gft → Sq) : bd ([], n) f = ([], n) := rfl
theorem bd_put {x : Ev} (h : x.w ≠ 3) (q : Sq) (f : Nat → List Gft → Sq) : bd (put x q) f = put x (bd q f) := by
  show bnd (x :: q.1) q.2 f = _
  rw [bnd, if_neg h]; rfl
theorem bd_tk (q : Sq) (f : Nat → List Gft → Sq) : bd (put tk q) f = put tk (bd q f) := bd_put (by decide) q f
theorem bd_hs (q : Sq) (f : Nat → List Gft → Sq) : bd (put hs q) f = put hs (bd q f) := bd_put (by decide) q f
theorem bd_sd (x : Gft) (q : Sq) (f : Nat → List Gft → Sq) : bd (put (sd x) q) f = put (sd x) (bd q f) := bd_put (x := sd x) (by show (2 : Nat) ≠ 3; decide) q f
theorem bd_wy (e : Nat) (g : List Gft) (q : Sq) (f : Nat → List Gft → Sq) : bd (put (wy e g) q) f = thn (f e g) (bd q f) := by
  show bnd (wy e g :: q.1) q.2 f = _
  rw [bnd, if_pos (show (wy e g).w = 3 from rfl)]; rfl
theorem bd_one (e : Nat) (g : List Gft) (f : Nat → List Gft → Sq) : bd (one (wy e g)) f = f e g := by
  rw [show one (wy e g) = put (wy e g) nil from rfl, bd_wy, bd_nil, nil_thn]
theorem bnd_append (f : Nat → List Gft → Sq) (n : Nat) (m : List Ev) : ∀ l, bnd (l ++ m) n f = thn (bnd l 0 f) (bnd m n f)
  | [] => rfl
  | x :: l => by
    rw [List.cons_append, bnd, bnd, bnd_append f n m l]
    split
    · rw [thn_assoc]
    · rw [thn_put]
theorem bd_thn (p q : Sq) (f : Nat → List Gft → Sq) : bd (thn p q) f = thn (bd p f) (bd q f) := by
  obtain ⟨l, n⟩ := p
  by_cases h : n = 0
  · subst h
    exact bnd_append f q.2 q.1 l
  · rw [thn_stop (p := (l, n)) q h]
    have : ∀ l, (bnd l n f).2 ≠ 0 := by
      intro l
      induction l with
      | nil => exact h
      | cons x l ih =>
        rw [bnd]
        split
        · unfold thn
          split
          · exact ih
          · assumption
        · exact ih
    exact (thn_stop (p := bd (l, n) f) _ (this l)).symm
theorem bd_bd (q : Sq) (f k : Nat → List Gft → Sq) : bd (bd q f) k = bd q fun e g => bd (f e g) k := by
  obtain ⟨l, n⟩ := q
  induction l with
  | nil => rfl
  | cons x l ih =>
    show bd (bnd (x :: l) n f) k = bnd (x :: l) n _
    have ih' : bd (bnd l n f) k = bnd l n fun e g => bd (f e g) k := ih
    rw [bnd, bnd]
    split
    · rw [bd_thn, ih']
    · rw [bd_put (by assumption), ih']
theorem bd_unit (q : Sq) : bd q (fun e g => one (wy e g)) = q := by
  obtain ⟨l, n⟩ := q
  induction l with
  | nil => rfl
  | cons x l ih =>
    show bnd (x :: l) n _ = _
    have ih' : bnd l n (fun e g => one (wy e g)) = (l, n) := ih
    obtain ⟨w, a, g⟩ := x
    rw [bnd, ih']
    split
    · rename_i h
      simp only at h
      subst h
      rfl
    · rfl
theorem bd_congr (q : Sq) {f k : Nat → List Gft → Sq} (h : ∀ e g, f e g = k e g) : bd q f = bd q k := by
  rw [show f = k from funext fun e => funext fun g => h e g]

/-- How many comings. -/
def tks (l : List Ev) : Nat := (l.filter fun x => x.w == 0).length
theorem tks_nil : tks [] = 0 := rfl
theorem tks_append (l m : List Ev) : tks (l ++ m) = tks l + tks m := by unfold tks; rw [List.filter_append, List.length_append]
theorem tks_cons (x : Ev) (l : List Ev) : tks (x :: l) = (if x.w = 0 then 1 else 0) + tks l := by
  unfold tks
  rw [List.filter_cons]
  by_cases h : x.w = 0
  · simp [h]; omega
  · simp [h]
theorem tks_tk (l : List Ev) : tks (tk :: l) = 1 + tks l := tks_cons _ _

/-- Who comes beyond what is looked at has come so often. -/
def Dp (n : Nat) (q : Sq) : Prop := q.2 = 3 → n ≤ tks q.1
theorem dp_mono {n m : Nat} {q : Sq} (h : Dp n q) (k : m ≤ n) : Dp m q := fun e => Nat.le_trans k (h e)
theorem dp_thn {n : Nat} {p q : Sq} (hp : Dp n p) (hq : Dp n q) : Dp n (thn p q) := by
  unfold thn
  split
  · intro h
    have := hq h
    rw [show (p.1 ++ q.1, q.2).1 = p.1 ++ q.1 from rfl, tks_append]; omega
  · exact hp
theorem dp_put {n : Nat} {q : Sq} (x : Ev) (h : Dp n q) : Dp n (put x q) := fun e => by
  have := h e
  show n ≤ tks (x :: q.1)
  rw [tks_cons]; omega
theorem dp_tk {n : Nat} {q : Sq} (h : Dp n q) : Dp (n + 1) (put tk q) := fun e => by
  have := h e
  show n + 1 ≤ tks (tk :: q.1)
  rw [tks_tk]; omega
theorem dp_nil (n : Nat) : Dp n nil := fun h => by cases h
theorem dp_one (n : Nat) (x : Ev) : Dp n (one x) := fun h => by cases h
theorem dp_fin {n k : Nat} (l : List Ev) (h : k ≠ 3) : Dp n (l, k) := fun e => absurd e h
theorem dp_bd {n : Nat} {q : Sq} {f : Nat → List Gft → Sq} (hq : Dp n q) (hf : ∀ e g, Dp n (f e g)) : Dp n (bd q f) := by
  obtain ⟨l, m⟩ := q
  have : ∀ l, (m = 3 → tks l ≥ n → True) → ((bnd l m f).2 = 3 → n ≤ tks (bnd l m f).1 ∨ (m = 3 ∧ tks l ≤ tks (bnd l m f).1)) := by
    intro l _
    induction l with
    | nil => intro h; exact .inr ⟨h, Nat.le_refl _⟩
    | cons x l ih =>
      rw [bnd]
      split
      · rename_i hw
        unfold thn
        split
        · intro h
          have h' := ih (fun _ _ => trivial) h
          rw [show (((f x.a x.g).1 ++ (bnd l m f).1, (bnd l m f).2) : Sq).1 = (f x.a x.g).1 ++ (bnd l m f).1 from rfl, tks_append, tks_cons, if_neg (by omega)]
          rcases h' with h' | ⟨h1, h2⟩
          · exact .inl (by omega)
          · exact .inr ⟨h1, by omega⟩
        · intro h
          exact .inl (hf _ _ h)
      · intro h
        have h' := ih (fun _ _ => trivial) h
        show n ≤ tks (x :: (bnd l m f).1) ∨ (m = 3 ∧ tks (x :: l) ≤ tks (x :: (bnd l m f).1))
        rw [tks_cons, tks_cons]
        rcases h' with h' | ⟨h1, h2⟩
        · exact .inl (by omega)
        · exact .inr ⟨h1, by omega⟩
  intro h
  rcases this l (fun _ _ => trivial) h with h' | ⟨h1, h2⟩
  · exact h'
  · exact Nat.le_trans (hq h1) h2
/-- Behind something that has come once. -/
theorem dp_bd1 {n : Nat} {q : Sq} {f : Nat → List Gft → Sq} (hq : Dp (n + 1) (put tk q)) (hf : ∀ e g, Dp n (f e g)) : Dp (n + 1) (bd (put tk q) f) := by
  rw [bd_tk]
  refine dp_tk (dp_bd (fun e => ?_) hf)
  have := hq e
  have h2 : n + 1 ≤ tks (tk :: q.1) := this
  rw [tks_tk] at h2
  omega

end Go.Proofs.YtohbkmeomphleaaDoor
