/- Patterns as trees: how many nodes, how deep, all nodes ahead of their kids, what is wrong first, names. What comes of trying a pattern, one thing behind the other: a list of events and how it ends; one behind the other, one for each way. What the ways of a pattern are, one behind the other, and what a machine with two lists makes of them. Who looks deeper sees the same, and maybe more. One run beside another one: the same things told in the same order, and never later, counted by comings. Small facts; letters, digits and names. What pats.Named and the document's Named answer, for every text of at most a million bytes. -/
import Derived.WalkKit
import Derived.Below
import Derived.WalkSpells
import Derived.Test.YtbmngbpillihaaaDoorRows
import Derived.WalkLawsBesides
import Derived.WalkSmall
import Derived.Deep.WholeRow
import Derived.Deep.QuietTactic
import Derived.BigQuiet
import Derived.Laws.IdiomStrings
namespace Go.Proofs.YtbmngbpillihaaaDoor
open Go.RowKit

structure PT where
  node ::
  k : Int
  t : ByteArray
  n : Int
  nm : ByteArray
  xa : Option Addr
  b : Nat
  o : Nat
  len : Nat
  cap : Nat
  kids : Fin len → PT
def PT.nul : PT := ⟨0, ByteArray.empty, 0, ByteArray.empty, none, 0, 0, 0, 0, fun i => i.elim0⟩
def PT.kid (T : PT) (i : Nat) : PT := if h : i < T.len then T.kids ⟨i, h⟩ else PT.nul
theorem PT.kid_at {T : PT} {i : Nat} (h : i < T.len) : T.kid i = T.kids ⟨i, h⟩ := dif_pos h
theorem PT.ind {P : PT → Prop} (h : ∀ T : PT, (∀ i, i < T.len → P (T.kid i)) → P T) : ∀ T, P T
  | .node k t n nm xa b o len cap kids => h _ fun i hi => by
    rw [PT.kid_at (T := .node k t n nm xa b o len cap kids) hi]
    exact PT.ind h (kids ⟨i, hi⟩)
def PT.kv (T : PT) : Value := .slice T.xa T.len T.cap
def kf {α : Type} (n : Nat) (d : α) (f : Fin n → α) (i : Nat) : α := if h : i < n then f ⟨i, h⟩ else d
theorem kf_at {α : Type} {n : Nat} {d : α} {f : Fin n → α} {i : Nat} (h : i < n) : kf n d f i = f ⟨i, h⟩ := dif_pos h
def PT.In (w : World) : PT → Prop
  | .node k t n nm xa b o len cap kids => (-9223372036854775808 ≤ k ∧ k ≤ 9223372036854775807) ∧ t.size ≤ maxLen ∧ (-9223372036854775808 ≤ n ∧ n ≤ 9223372036854775807) ∧ nm.size ≤ maxLen ∧
      len ≤ maxLen ∧ len ≤ cap ∧ (0 < len → xa = some ⟨b, o, none⟩) ∧
      ∀ i : Fin len, (w.cell? ⟨b, o + i.val * 5, none⟩ = some (.int .i64 (kids i).k) ∧ w.cell? ⟨b, o + i.val * 5 + 1, none⟩ = some (.string (kids i).t) ∧ w.cell? ⟨b, o + i.val * 5 + 2, none⟩ = some (.int .i64 (kids i).n) ∧ w.cell? ⟨b, o + i.val * 5 + 3, none⟩ = some (.string (kids i).nm) ∧ w.cell? ⟨b, o + i.val * 5 + 4, none⟩ = some (kids i).kv) ∧ PT.In w (kids i)
theorem PT.In.kids {w : World} {T : PT} (h : T.In w) {i : Nat} (hi : i < T.len) : (T.kid i).In w := by
  rw [PT.kid_at hi]
  cases T; exact (h.2.2.2.2.2.2.2 ⟨i, hi⟩).2
theorem PT.In.cells {w : World} {T : PT} (h : T.In w) {i : Nat} (hi : i < T.len) :
    w.cell? ⟨T.b, T.o + i * 5, none⟩ = some (.int .i64 (T.kid i).k) ∧ w.cell? ⟨T.b, T.o + i * 5 + 1, none⟩ = some (.string (T.kid i).t) ∧ w.cell? ⟨T.b, T.o + i * 5 + 2, none⟩ = some (.int .i64 (T.kid i).n) ∧ w.cell? ⟨T.b, T.o + i * 5 + 3, none⟩ = some (.string (T.kid i).nm) ∧ w.cell? ⟨T.b, T.o + i * 5 + 4, none⟩ = some (T.kid i).kv := by
  rw [PT.kid_at hi]
  cases T; exact (h.2.2.2.2.2.2.2 ⟨i, hi⟩).1
theorem PT.In.addr {w : World} {T : PT} (h : T.In w) (hi : 0 < T.len) : T.xa = some ⟨T.b, T.o, none⟩ := by
  cases T; exact h.2.2.2.2.2.2.1 hi
theorem PT.In.max {w : World} {T : PT} (h : T.In w) : T.len ≤ maxLen := by cases T; exact h.2.2.2.2.1
theorem PT.In.name {w : World} {T : PT} (h : T.In w) : T.nm.size ≤ maxLen := by cases T; exact h.2.2.2.1
theorem PT.In.later {w w' : World} (hb : Below w.heap.size w w') : ∀ {T : PT}, T.In w → T.In w'
  | .node k t n nm xa b o len cap kids, h => by
    have ih := fun i => PT.In.later hb (T := kids i)
    refine ⟨h.1, h.2.1, h.2.2.1, h.2.2.2.1, h.2.2.2.2.1, h.2.2.2.2.2.1, h.2.2.2.2.2.2.1, fun i => ?_⟩
    obtain ⟨⟨c0, c1, c2, c3, c4⟩, hk⟩ := h.2.2.2.2.2.2.2 i
    exact ⟨⟨cell_later hb c0, cell_later hb c1, cell_later hb c2, cell_later hb c3, cell_later hb c4⟩, ih i hk⟩
def sumTo (f : Nat → Nat) : Nat → Nat
  | 0 => 0
  | n + 1 => sumTo f n + f n
def maxTo (f : Nat → Nat) : Nat → Nat
  | 0 => 0
  | n + 1 => max (maxTo f n) (f n)
def firstTo (f : Nat → Int) : Nat → Int
  | 0 => 0
  | n + 1 => if firstTo f n = 0 then f n else firstTo f n
theorem sumTo_congr {f g : Nat → Nat} : ∀ n, (∀ i, i < n → f i = g i) → sumTo f n = sumTo g n
  | 0, _ => rfl
  | n + 1, h => by rw [sumTo, sumTo, sumTo_congr n fun i hi => h i (by omega), h n (by omega)]
theorem maxTo_congr {f g : Nat → Nat} : ∀ n, (∀ i, i < n → f i = g i) → maxTo f n = maxTo g n
  | 0, _ => rfl
  | n + 1, h => by rw [maxTo, maxTo, maxTo_congr n fun i hi => h i (by omega), h n (by omega)]
theorem firstTo_congr {f g : Nat → Int} : ∀ n, (∀ i, i < n → f i = g i) → firstTo f n = firstTo g n
  | 0, _ => rfl
  | n + 1, h => by rw [firstTo, firstTo, firstTo_congr n fun i hi => h i (by omega), h n (by omega)]
def PT.cnt : PT → Nat
  | .node _ _ _ _ _ _ _ len _ kids => 1 + sumTo (kf len 1 fun i => PT.cnt (kids i)) len
def PT.dep : PT → Nat
  | .node _ _ _ _ _ _ _ len _ kids => 1 + maxTo (kf len 1 fun i => PT.dep (kids i)) len
theorem PT.cnt_eq (T : PT) : T.cnt = 1 + sumTo (fun i => (T.kid i).cnt) T.len := by
  obtain ⟨k, t, n, nm, xa, b, o, len, cap, kids⟩ := T
  exact congrArg (1 + ·) (sumTo_congr len fun i hi => by rw [kf_at hi, PT.kid_at (T := .node k t n nm xa b o len cap kids) hi])
theorem PT.dep_eq (T : PT) : T.dep = 1 + maxTo (fun i => (T.kid i).dep) T.len := by
  obtain ⟨k, t, n, nm, xa, b, o, len, cap, kids⟩ := T
  exact congrArg (1 + ·) (maxTo_congr len fun i hi => by rw [kf_at hi, PT.kid_at (T := .node k t n nm xa b o len cap kids) hi])
theorem PT.cnt_pos (T : PT) : 0 < T.cnt := by rw [T.cnt_eq]; omega
theorem PT.dep_pos (T : PT) : 0 < T.dep := by rw [T.dep_eq]; omega
theorem sumTo_le (f : Nat → Nat) {i n : Nat} (h : i ≤ n) : sumTo f i ≤ sumTo f n := by
  induction n with
  | zero => rw [Nat.le_zero.1 h]; exact Nat.le_refl _
  | succ n ih =>
    rcases Nat.lt_or_ge i (n + 1) with h1 | h1
    · have := ih (by omega)
      simp only [sumTo]; omega
    · rw [show i = n + 1 by omega]; exact Nat.le_refl _
theorem maxTo_le (f : Nat → Nat) {i n : Nat} (h : i ≤ n) : maxTo f i ≤ maxTo f n := by
  induction n with
  | zero => rw [Nat.le_zero.1 h]; exact Nat.le_refl _
  | succ n ih =>
    rcases Nat.lt_or_ge i (n + 1) with h1 | h1
    · have := ih (by omega)
      simp only [maxTo]; omega
    · rw [show i = n + 1 by omega]; exact Nat.le_refl _
theorem le_sumTo (f : Nat → Nat) (hf : ∀ i, 0 < f i) (n : Nat) : n ≤ sumTo f n := by
  induction n with
  | zero => exact Nat.zero_le _
  | succ n ih => have := hf n; simp only [sumTo]; omega
theorem PT.len_lt (T : PT) : T.len < T.cnt := by
  have := le_sumTo (fun i => (T.kid i).cnt) (fun i => (T.kid i).cnt_pos) T.len
  rw [T.cnt_eq]; omega
def letterB (c : UInt8) : Bool := decide (65 ≤ c.toNat) && decide (c.toNat ≤ 90)
def digitB (c : UInt8) : Bool := decide (48 ≤ c.toNat) && decide (c.toNat ≤ 57)
def namedL : List UInt8 → Bool
  | [] => false
  | c :: r => letterB c && r.all fun x => letterB x || digitB x
def named (s : ByteArray) : Bool := decide (s.size ≤ 16) && namedL s.data.toList
def hasK (k : Int) : Int := if k = 1 ∨ (3 ≤ k ∧ k ≤ 7) then 1 else if k = 2 ∨ (8 ≤ k ∧ k ≤ 11) then 2 else if 21 ≤ k ∧ k ≤ 24 then 3 else 0
def leastK (k : Int) : Int := if k = 18 ∨ k = 19 then 2 else if 20 ≤ k ∧ k ≤ 22 then 1 else 0
def mostK (k : Int) : Int := if k = 18 ∨ k = 19 then 4096 else if 20 ≤ k ∧ k ≤ 22 then 1 else 0
def errN (T : PT) : Int :=
  if T.k < 1 ∨ 24 < T.k then 1
  else if hasK T.k = 1 ∧ 65536 < T.t.size then 4
  else if hasK T.k = 1 ∧ T.k ≠ 1 ∧ T.t.size = 0 then 8
  else if hasK T.k = 2 ∧ (T.n < 0 ∨ 65536 < T.n) then 3
  else if hasK T.k = 3 ∧ named T.nm = false then 7
  else if (T.len : Int) < leastK T.k ∨ mostK T.k < T.len then 5
  else 0
def PT.bad : PT → Int
  | .node k t n nm xa b o len cap kids => if errN (.node k t n nm xa b o len cap kids) = 0 then firstTo (kf len 0 fun i => PT.bad (kids i)) len else errN (.node k t n nm xa b o len cap kids)
theorem PT.bad_eq (T : PT) : T.bad = if errN T = 0 then firstTo (fun i => (T.kid i).bad) T.len else errN T := by
  obtain ⟨k, t, n, nm, xa, b, o, len, cap, kids⟩ := T
  have h := firstTo_congr (f := kf len 0 fun i => PT.bad (kids i)) (g := fun i => ((PT.node k t n nm xa b o len cap kids).kid i).bad) len fun i hi => by rw [kf_at hi, PT.kid_at (T := .node k t n nm xa b o len cap kids) hi]
  show (if errN _ = 0 then firstTo (kf len 0 fun i => PT.bad (kids i)) len else errN _) = _
  rw [h]
def PT.fits (T : PT) : Bool := decide (T.cnt ≤ 4096) && decide (T.dep ≤ 200)
def PT.wrong (T : PT) : Int := if T.fits then T.bad else 4
end Go.Proofs.YtbmngbpillihaaaDoor

namespace Go.Proofs.YtbmngbpillihaaaDoor

abbrev Gft := ByteArray × ByteArray
structure Ev where
  w : Nat
  a : Nat
  g : List Gft
abbrev Sq := List Ev × Nat
def tk : Ev := ⟨0, 0, []⟩
def hs : Ev := ⟨1, 0, []⟩
def sd (x : Gft) : Ev := ⟨2, 0, [x]⟩
def wy (e : Nat) (g : List Gft) : Ev := ⟨3, e, g⟩
def put (x : Ev) (q : Sq) : Sq := (x :: q.1, q.2)
def one (x : Ev) : Sq := ([x], 0)
def nil : Sq := ([], 0)
def thn (p q : Sq) : Sq := if p.2 = 0 then (p.1 ++ q.1, q.2) else p
def bnd : List Ev → Nat → (Nat → List Gft → Sq) → Sq
  | [], n, _ => ([], n)
  | x :: r, n, f => if x.w = 3 then thn (f x.a x.g) (bnd r n f) else put x (bnd r n f)
def bd (q : Sq) (f : Nat → List Gft → Sq) : Sq := bnd q.1 q.2 f
theorem thn_nil (q : Sq) : thn nil q = q := rfl
theorem nil_thn (q : Sq) : thn q nil = q := by
  obtain ⟨l, n⟩ := q
  unfold thn nil
  by_cases h : n = 0
  · simp [h]
  · simp [h]
theorem thn_put (x : Ev) (p q : Sq) : thn (put x p) q = put x (thn p q) := by
  unfold thn put
  by_cases h : p.2 = 0
  · simp [h]
  · simp [h]
theorem thn_assoc (p q r : Sq) : thn (thn p q) r = thn p (thn q r) := by
  unfold thn
  by_cases h : p.2 = 0
  · by_cases k : q.2 = 0
    · simp [h, k]
    · simp [h, k]
  · simp [h]
theorem thn_stop {p : Sq} (q : Sq) (h : p.2 ≠ 0) : thn p q = p := if_neg h
theorem bd_nil (f : Nat → List Gft → Sq) : bd nil f = nil := rfl
theorem bd_put {x : Ev} (h : x.w ≠ 3) (q : Sq) (f : Nat → List Gft → Sq) : bd (put x q) f = put x (bd q f) := by
  show bnd (x :: q.1) q.2 f = _
  rw [bnd, if_neg h]; rfl
theorem bd_tk (q : Sq) (f : Nat → List Gft → Sq) : bd (put tk q) f = put tk (bd q f) := bd_put (by decide) q f
theorem bd_hs (q : Sq) (f : Nat → List Gft → Sq) : bd (put hs q) f = put hs (bd q f) := bd_put (by decide) q f
theorem bd_sd (x : Gft) (q : Sq) (f : Nat → List Gft → Sq) : bd (put (sd x) q) f = put (sd x) (bd q f) := bd_put (x := sd x) (by show (2 : Nat) ≠ 3; decide) q f
theorem bd_wy (e : Nat) (g : List Gft) (q : Sq) (f : Nat → List Gft → Sq) : bd (put (wy e g) q) f = thn (f e g) (bd q f) := by
  show bnd (wy e g :: q.1) q.2 f = _
  rw [bnd, if_pos (show (wy e g).w = 3 from rfl)]; rfl
theorem bd_one (e : Nat) (g : List Gft) (f : Nat → List Gft → Sq) : bd (one (wy e g)) f = f e g := by
  rw [show one (wy e g) = put (wy e g) nil from rfl, bd_wy, bd_nil, nil_thn]
theorem bnd_append (f : Nat → List Gft → Sq) (n : Nat) (m : List Ev) : ∀ l, bnd (l ++ m) n f = thn (bnd l 0 f) (bnd m n f)
  | [] => rfl
  | x :: l => by
    rw [List.cons_append, bnd, bnd, bnd_append f n m l]
    split
    · rw [thn_assoc]
    · rw [thn_put]
theorem bd_thn (p q : Sq) (f : Nat → List Gft → Sq) : bd (thn p q) f = thn (bd p f) (bd q f) := by
  obtain ⟨l, n⟩ := p
  by_cases h : n = 0
  · subst h
    exact bnd_append f q.2 q.1 l
  · rw [thn_stop (p := (l, n)) q h]
    have : ∀ l, (bnd l n f).2 ≠ 0 := by
      intro l
      induction l with
      | nil => exact h
      | cons x l ih =>
        rw [bnd]
        split
        · unfold thn
          split
          · exact ih
          · assumption
        · exact ih
    exact (thn_stop (p := bd (l, n) f) _ (this l)).symm
theorem bd_bd (q : Sq) (f k : Nat → List Gft → Sq) : bd (bd q f) k = bd q fun e g => bd (f e g) k := by
  obtain ⟨l, n⟩ := q
  induction l with
  | nil => rfl
  | cons x l ih =>
    show bd (bnd (x :: l) n f) k = bnd (x :: l) n _
    have ih' : bd (bnd l n f) k = bnd l n fun e g => bd (f e g) k := ih
    rw [bnd, bnd]
    split
    · rw [bd_thn, ih']
    · rw [bd_put (by assumption), ih']
theorem bd_unit (q : Sq) : bd q (fun e g => one (wy e g)) = q := by
  obtain ⟨l, n⟩ := q
  induction l with
  | nil => rfl
  | cons x l ih =>
    show bnd (x :: l) n _ = _
    have ih' : bnd l n (fun e g => one (wy e g)) = (l, n) := ih
    obtain ⟨w, a, g⟩ := x
    rw [bnd, ih']
    split
    · rename_i h
      simp only at h
      subst h
      rfl
    · rfl
theorem bd_congr (q : Sq) {f k : Nat → List Gft → Sq} (h : ∀ e g, f e g = k e g) : bd q f = bd q k := by
  rw [show f = k from funext fun e => funext fun g => h e g]
def tks (l : List Ev) : Nat := (l.filter fun x => x.w == 0).length
theorem tks_append (l m : List Ev) : tks (l ++ m) = tks l + tks m := by unfold tks; rw [List.filter_append, List.length_append]
theorem tks_cons (x : Ev) (l : List Ev) : tks (x :: l) = (if x.w = 0 then 1 else 0) + tks l := by
  unfold tks
  rw [List.filter_cons]
  by_cases h : x.w = 0
  · simp [h]; omega
  · simp [h]
theorem tks_tk (l : List Ev) : tks (tk :: l) = 1 + tks l := tks_cons _ _
def Dp (n : Nat) (q : Sq) : Prop := q.2 = 3 → n ≤ tks q.1
theorem dp_mono {n m : Nat} {q : Sq} (h : Dp n q) (k : m ≤ n) : Dp m q := fun e => Nat.le_trans k (h e)
theorem dp_thn {n : Nat} {p q : Sq} (hp : Dp n p) (hq : Dp n q) : Dp n (thn p q) := by
  unfold thn
  split
  · intro h
    have := hq h
    rw [show (p.1 ++ q.1, q.2).1 = p.1 ++ q.1 from rfl, tks_append]; omega
  · exact hp
theorem dp_put {n : Nat} {q : Sq} (x : Ev) (h : Dp n q) : Dp n (put x q) := fun e => by
  have := h e
  show n ≤ tks (x :: q.1)
  rw [tks_cons]; omega
theorem dp_tk {n : Nat} {q : Sq} (h : Dp n q) : Dp (n + 1) (put tk q) := fun e => by
  have := h e
  show n + 1 ≤ tks (tk :: q.1)
  rw [tks_tk]; omega
theorem dp_nil (n : Nat) : Dp n nil := fun h => by cases h
theorem dp_one (n : Nat) (x : Ev) : Dp n (one x) := fun h => by cases h
theorem dp_fin {n k : Nat} (l : List Ev) (h : k ≠ 3) : Dp n (l, k) := fun e => absurd e h
theorem dp_bd {n : Nat} {q : Sq} {f : Nat → List Gft → Sq} (hq : Dp n q) (hf : ∀ e g, Dp n (f e g)) : Dp n (bd q f) := by
  obtain ⟨l, m⟩ := q
  have : ∀ l, (m = 3 → tks l ≥ n → True) → ((bnd l m f).2 = 3 → n ≤ tks (bnd l m f).1 ∨ (m = 3 ∧ tks l ≤ tks (bnd l m f).1)) := by
    intro l _
    induction l with
    | nil => intro h; exact .inr ⟨h, Nat.le_refl _⟩
    | cons x l ih =>
      rw [bnd]
      split
      · rename_i hw
        unfold thn
        split
        · intro h
          have h' := ih (fun _ _ => trivial) h
          rw [show (((f x.a x.g).1 ++ (bnd l m f).1, (bnd l m f).2) : Sq).1 = (f x.a x.g).1 ++ (bnd l m f).1 from rfl, tks_append, tks_cons, if_neg (by omega)]
          rcases h' with h' | ⟨h1, h2⟩
          · exact .inl (by omega)
          · exact .inr ⟨h1, by omega⟩
        · intro h
          exact .inl (hf _ _ h)
      · intro h
        have h' := ih (fun _ _ => trivial) h
        show n ≤ tks (x :: (bnd l m f).1) ∨ (m = 3 ∧ tks (x :: l) ≤ tks (x :: (bnd l m f).1))
        rw [tks_cons, tks_cons]
        rcases h' with h' | ⟨h1, h2⟩
        · exact .inl (by omega)
        · exact .inr ⟨h1, by omega⟩
  intro h
  rcases this l (fun _ _ => trivial) h with h' | ⟨h1, h2⟩
  · exact h'
  · exact Nat.le_trans (hq h1) h2
theorem dp_bd1 {n : Nat} {q : Sq} {f : Nat → List Gft → Sq} (hq : Dp (n + 1) (put tk q)) (hf : ∀ e g, Dp n (f e g)) : Dp (n + 1) (bd (put tk q) f) := by
  rw [bd_tk]
  refine dp_tk (dp_bd (fun e => ?_) hf)
  have := hq e
  have h2 : n + 1 ≤ tks (tk :: q.1) := this
  rw [tks_tk] at h2
  omega
end Go.Proofs.YtbmngbpillihaaaDoor

namespace Go.Proofs.YtbmngbpillihaaaDoor

def inB (t : ByteArray) (b : Nat) : Bool := t.data.toList.any fun c => c.toNat == b
def byt (s : ByteArray) (i : Nat) : Nat := (s.data.toList.getD i 0).toNat
def sub (s : ByteArray) (a b : Nat) : ByteArray := s.extract a b
def untl (s t : ByteArray) (want : Bool) : Nat → Nat → Nat
  | 0, i => i
  | n + 1, i => if inB t (byt s i) = want then i else untl s t want n (i + 1)
def unt (s t : ByteArray) (want : Bool) (i : Nat) : Nat := untl s t want (s.size - i) i
def prd (s : ByteArray) : Nat → Int → Nat → Option Nat
  | 0, _, _ => none
  | n + 1, d, i =>
    let d' := if byt s i = 40 then d + 1 else if byt s i = 41 then d - 1 else d
    if d' = 0 then some (i + 1) else if d' < 0 then none else prd s n d' (i + 1)
def prs (s : ByteArray) (i : Nat) : Option Nat := prd s (s.size - i) 0 i
def onl (s : ByteArray) (T : PT) (i : Nat) : Option Nat :=
  if T.k = 1 then (if (sub s i (i + T.t.size)) = T.t then some (i + T.t.size) else none)
  else if T.k = 2 then (if i + T.n.toNat ≤ s.size then some (i + T.n.toNat) else none)
  else if T.k = 3 then (if i < s.size ∧ inB T.t (byt s i) = true then some (i + 1) else none)
  else if T.k = 4 then (if i < s.size ∧ inB T.t (byt s i) = false then some (i + 1) else none)
  else if T.k = 5 then (if i < unt s T.t false i then some (unt s T.t false i) else none)
  else if T.k = 6 then (if unt s T.t true i < s.size then some (unt s T.t true i) else none)
  else if T.k = 8 then (if i ≤ T.n.toNat ∧ T.n.toNat ≤ s.size then some T.n.toNat else none)
  else if T.k = 9 then (if i + T.n.toNat ≤ s.size then some (s.size - T.n.toNat) else none)
  else if T.k = 10 then (if i = T.n.toNat then some i else none)
  else if T.k = 11 then (if i + T.n.toNat = s.size then some i else none)
  else if T.k = 12 then some s.size
  else none
def arbs (g : List Gft) : Nat → Nat → Sq
  | 0, _ => one hs
  | n + 1, e => put hs (put (wy e g) (arbs g n (e + 1)))
def bxs (s t : ByteArray) (g : List Gft) : Nat → Nat → Sq
  | 0, _ => one hs
  | n + 1, e => if unt s t true e < s.size then put hs (put (wy (unt s t true e) g) (bxs s t g n (unt s t true e + 1))) else one hs
def bls (s : ByteArray) (g : List Gft) : Nat → Nat → Sq
  | 0, _ => one hs
  | n + 1, e => match prs s e with
    | some t => put hs (put (wy t g) (bls s g n t))
    | none => one hs
section
variable (f : PT → Nat → List Gft → Sq) (T : PT)
def cats : Nat → Nat → Nat → List Gft → Sq
  | 0, j, i, g => f (T.kid j) i g
  | m + 1, j, i, g => bd (f (T.kid j) i g) fun e g' => put hs (cats m (j + 1) e g')
def alts (i : Nat) (g : List Gft) : Nat → Nat → Sq
  | 0, _ => nil
  | m + 1, j => put hs (thn (f (T.kid j) i g) (alts i g m (j + 1)))
def agn : Nat → Nat → List Gft → Sq
  | 0, _, _ => ([], 3)
  | m + 1, i, g => put (wy i g) (put hs (bd (f (T.kid 0) i g) fun e g' => put hs (if e = i then nil else agn m e g')))
end

def D (s : ByteArray) (R : ByteArray → Option PT) (dg : Nat → ByteArray) : Nat → PT → Nat → List Gft → Sq
  | 0, _, _, _ => ([], 3)
  | n + 1, T, i, g => put tk (
    if T.k = 17 then ([], 1)
    else if T.k = 16 then ([wy i g, hs], 1)
    else if T.k = 20 then agn (D s R dg n) T n i g
    else if T.k = 19 then alts (D s R dg n) T i g T.len 0
    else if T.k = 13 then arbs g (s.size + 1 - i) i
    else if T.k = 7 then bxs s T.t g (s.size + 1 - i) i
    else if T.k = 14 then bls s g (s.size + 1 - i) i
    else if T.k = 18 then cats (D s R dg n) T (T.len - 1) 0 i g
    else if T.k = 21 then bd (D s R dg n (T.kid 0) i g) fun e g' => put hs (one (wy e (g' ++ [(T.nm, sub s i e)])))
    else if T.k = 22 then bd (D s R dg n (T.kid 0) i g) fun e g' => put (sd (T.nm, sub s i e)) (one (wy e g'))
    else if T.k = 24 then (match R T.nm with | some U => D s R dg n U i g | none => ([], 2))
    else if T.k = 23 then put (sd (T.nm, dg i)) (one (wy i g))
    else match onl s T i with | some e => one (wy e g) | none => nil)
theorem arbs_end (g : List Gft) : ∀ n e, (arbs g n e).2 = 0
  | 0, _ => rfl
  | n + 1, e => arbs_end g n (e + 1)
theorem bxs_end (s t : ByteArray) (g : List Gft) : ∀ n e, (bxs s t g n e).2 = 0
  | 0, _ => rfl
  | n + 1, e => by
    rw [bxs]
    split
    · exact bxs_end s t g n _
    · rfl
theorem bls_end (s : ByteArray) (g : List Gft) : ∀ n e, (bls s g n e).2 = 0
  | 0, _ => rfl
  | n + 1, e => by
    rw [bls]
    split
    · exact bls_end s g n _
    · rfl
section
variable {f : PT → Nat → List Gft → Sq} {T : PT} {n : Nat}
theorem cats_dp (hf : ∀ U i g, Dp n (f U i g)) : ∀ m j i g, Dp n (cats f T m j i g)
  | 0, _, _, _ => hf _ _ _
  | m + 1, j, _, _ => dp_bd (hf _ _ _) fun e g' => dp_put _ (cats_dp hf m (j + 1) e g')
theorem alts_dp (hf : ∀ U i g, Dp n (f U i g)) (i : Nat) (g : List Gft) : ∀ m j, Dp n (alts f T i g m j)
  | 0, _ => dp_nil _
  | m + 1, j => dp_put _ (dp_thn (hf _ _ _) (alts_dp hf i g m (j + 1)))
end
theorem agn_dp {f : PT → Nat → List Gft → Sq} {T : PT} {n : Nat} (hf : ∀ U i g, Dp (n + 1) (f U i g)) (h1 : ∀ U i g, ∃ q, f U i g = put tk q) : ∀ m i g, m ≤ n + 1 → Dp m (agn f T m i g)
  | 0, _, _, _ => fun _ => Nat.zero_le _
  | m + 1, i, g, h => by
    refine dp_put _ (dp_put _ ?_)
    obtain ⟨q, hq⟩ := h1 (T.kid 0) i g
    have := hf (T.kid 0) i g
    rw [hq] at this ⊢
    refine dp_bd1 (dp_mono this h) fun e g' => dp_put _ ?_
    split
    · exact dp_nil _
    · exact agn_dp hf h1 m e g' (by omega)
theorem dp_ite {c : Prop} [Decidable c] {n : Nat} {p q : Sq} (hp : Dp n p) (hq : Dp n q) : Dp n (if c then p else q) := by
  split
  · exact hp
  · exact hq
theorem D_tk (s : ByteArray) (R : ByteArray → Option PT) (dg : Nat → ByteArray) (n : Nat) (T : PT) (i : Nat) (g : List Gft) : ∃ q, D s R dg (n + 1) T i g = put tk q := ⟨_, rfl⟩
theorem D_dp (s : ByteArray) (R : ByteArray → Option PT) (dg : Nat → ByteArray) : ∀ n T i g, Dp n (D s R dg n T i g)
  | 0, _, _, _ => fun _ => Nat.zero_le _
  | n + 1, T, i, g => by
    have ih := D_dp s R dg n
    rw [D]
    refine dp_tk ?_
    refine dp_ite (dp_fin _ (by decide)) (dp_ite (dp_fin _ (by decide)) (dp_ite ?_ (dp_ite (alts_dp ih _ _ _ _) (dp_ite ?_ (dp_ite ?_ (dp_ite ?_ (dp_ite (cats_dp ih _ _ _ _) (dp_ite ?_ (dp_ite ?_ (dp_ite ?_ (dp_ite (dp_put _ (dp_one _ _)) ?_)))))))))))
    · cases n with
      | zero => exact fun _ => Nat.zero_le _
      | succ n => exact agn_dp ih (D_tk s R dg n) _ _ _ (Nat.le_refl _)
    · exact fun h => by rw [arbs_end] at h; cases h
    · exact fun h => by rw [bxs_end] at h; cases h
    · exact fun h => by rw [bls_end] at h; cases h
    · exact dp_bd (ih _ _ _) fun _ _ => dp_put _ (dp_one _ _)
    · exact dp_bd (ih _ _ _) fun _ _ => dp_put _ (dp_one _ _)
    · split
      · exact ih _ _ _
      · exact dp_fin _ (by decide)
    · split
      · exact dp_one _ _
      · exact dp_nil _
structure Wk where
  n : Nat
  m : Nat
  T : PT
  j : Nat
  i : Nat
structure Ch where
  n : Nat
  m : Nat
  T : PT
  x : Nat
  i : Nat
  ch : List Wk
  g : List Gft
section
variable (s : ByteArray) (R : ByteArray → Option PT) (dg : Nat → ByteArray)
def K : List Wk → Nat → List Gft → Sq
  | [], e, g => one (wy e g)
  | w :: ws, e, g =>
    if w.T.k = 18 then put hs (bd (cats (D s R dg w.n) w.T (w.T.len - 1 - (w.j + 1)) (w.j + 1) e g) (K ws))
    else if w.T.k = 20 then put hs (if e = w.i then nil else bd (agn (D s R dg w.n) w.T w.m e g) (K ws))
    else if w.T.k = 21 then put hs (K ws e (g ++ [(w.T.nm, sub s w.i e)]))
    else put (sd (w.T.nm, sub s w.i e)) (K ws e g)
def Res (c : Ch) : Sq :=
  if c.T.k = 16 then ([hs], 1)
  else if c.T.k = 19 then alts (D s R dg c.n) c.T c.i c.g (c.T.len - c.x) c.x
  else if c.T.k = 20 then put hs (bd (D s R dg c.n (c.T.kid 0) c.i c.g) fun e g' => put hs (if e = c.i then nil else agn (D s R dg c.n) c.T c.m e g'))
  else if c.T.k = 13 then arbs c.g (s.size + 1 - c.x) c.x
  else if c.T.k = 7 then bxs s c.T.t c.g (s.size + 1 - c.x) c.x
  else bls s c.g (s.size + 1 - c.x) c.x
def Fa : List Ch → Sq
  | [] => nil
  | c :: cs => thn (bd (Res s R dg c) (K s R dg c.ch)) (Fa cs)
def dCome (n : Nat) (T : PT) (i : Nat) (g : List Gft) (ch : List Wk) (cs : List Ch) : Sq := thn (bd (D s R dg n T i g) (K s R dg ch)) (Fa s R dg cs)
def dBehind (i : Nat) (g : List Gft) (ch : List Wk) (cs : List Ch) : Sq := thn (K s R dg ch i g) (Fa s R dg cs)
def dBack (cs : List Ch) : Sq := Fa s R dg cs
end

section
variable {s : ByteArray} {R : ByteArray → Option PT} {dg : Nat → ByteArray} {n : Nat} {T : PT} {i : Nat} {g : List Gft} {ch : List Wk} {cs : List Ch}
theorem res16 {c : Ch} (h : c.T.k = 16) : Res s R dg c = ([hs], 1) := by unfold Res; rw [if_pos h]
theorem res19 {c : Ch} (h : c.T.k = 19) : Res s R dg c = alts (D s R dg c.n) c.T c.i c.g (c.T.len - c.x) c.x := by unfold Res; rw [if_neg (by omega), if_pos h]
theorem res20 {c : Ch} (h : c.T.k = 20) : Res s R dg c = put hs (bd (D s R dg c.n (c.T.kid 0) c.i c.g) fun e g' => put hs (if e = c.i then nil else agn (D s R dg c.n) c.T c.m e g')) := by unfold Res; rw [if_neg (by omega), if_neg (by omega), if_pos h]
theorem res13 {c : Ch} (h : c.T.k = 13) : Res s R dg c = arbs c.g (s.size + 1 - c.x) c.x := by unfold Res; rw [if_neg (by omega), if_neg (by omega), if_neg (by omega), if_pos h]
theorem res7 {c : Ch} (h : c.T.k = 7) : Res s R dg c = bxs s c.T.t c.g (s.size + 1 - c.x) c.x := by unfold Res; rw [if_neg (by omega), if_neg (by omega), if_neg (by omega), if_neg (by omega), if_pos h]
theorem res14 {c : Ch} (h : c.T.k = 14) : Res s R dg c = bls s c.g (s.size + 1 - c.x) c.x := by unfold Res; rw [if_neg (by omega), if_neg (by omega), if_neg (by omega), if_neg (by omega), if_neg (by omega)]
theorem K20 {w : Wk} (h : w.T.k = 20) (e : Nat) (g : List Gft) : K s R dg (w :: ch) e g = put hs (if e = w.i then nil else bd (agn (D s R dg w.n) w.T w.m e g) (K s R dg ch)) := by rw [K, if_neg (by omega), if_pos h]
theorem K21 {w : Wk} (h : w.T.k = 21) (e : Nat) (g : List Gft) : K s R dg (w :: ch) e g = put hs (K s R dg ch e (g ++ [(w.T.nm, sub s w.i e)])) := by rw [K, if_neg (by omega), if_neg (by omega), if_pos h]
theorem K22 {w : Wk} (h : w.T.k = 22) (e : Nat) (g : List Gft) : K s R dg (w :: ch) e g = put (sd (w.T.nm, sub s w.i e)) (K s R dg ch e g) := by rw [K, if_neg (by omega), if_neg (by omega), if_neg (by omega)]
theorem come_abort (h : T.k = 17) : dCome s R dg (n + 1) T i g ch cs = ([tk], 1) := by
  unfold dCome; rw [D, if_pos h, bd_tk, thn_put]; rfl
theorem come_fence (h : T.k = 16) (m : Nat) : dCome s R dg (n + 1) T i g ch cs = put tk (dBehind s R dg i g ch (⟨n, m, T, 0, i, ch, g⟩ :: cs)) := by
  unfold dCome; rw [D, if_neg (by omega), if_pos h, bd_tk, thn_put]
  unfold dBehind
  rw [Fa, res16 h, show (([wy i g, hs], 1) : Sq) = put (wy i g) ([hs], 1) from rfl, bd_wy, thn_assoc]
theorem come_arbno (h : T.k = 20) : dCome s R dg (n + 2) T i g ch cs = put tk (dBehind s R dg i g ch (⟨n + 1, n, T, 0, i, ch, g⟩ :: cs)) := by
  unfold dCome; rw [D, if_neg (by omega), if_neg (by omega), if_pos h, bd_tk, thn_put]
  unfold dBehind
  rw [Fa, res20 h, agn, bd_wy, thn_assoc]
theorem come_alt (h : T.k = 19) : dCome s R dg (n + 1) T i g ch cs = put tk (dBack s R dg (⟨n, 0, T, 0, i, ch, g⟩ :: cs)) := by
  unfold dCome; rw [D, if_neg (by omega), if_neg (by omega), if_neg (by omega), if_pos h, bd_tk, thn_put]
  unfold dBack
  rw [Fa, res19 h]; rfl
theorem come_arb (h : T.k = 13) : dCome s R dg (n + 1) T i g ch cs = put tk (dBack s R dg (⟨n, 0, T, i, i, ch, g⟩ :: cs)) := by
  unfold dCome; rw [D, if_neg (by omega), if_neg (by omega), if_neg (by omega), if_neg (by omega), if_pos h, bd_tk, thn_put]
  unfold dBack
  rw [Fa, res13 h]
theorem come_breakx (h : T.k = 7) : dCome s R dg (n + 1) T i g ch cs = put tk (dBack s R dg (⟨n, 0, T, i, i, ch, g⟩ :: cs)) := by
  unfold dCome; rw [D, if_neg (by omega), if_neg (by omega), if_neg (by omega), if_neg (by omega), if_neg (by omega), if_pos h, bd_tk, thn_put]
  unfold dBack
  rw [Fa, res7 h]
theorem come_bal (h : T.k = 14) : dCome s R dg (n + 1) T i g ch cs = put tk (dBack s R dg (⟨n, 0, T, i, i, ch, g⟩ :: cs)) := by
  unfold dCome; rw [D, if_neg (by omega), if_neg (by omega), if_neg (by omega), if_neg (by omega), if_neg (by omega), if_neg (by omega), if_pos h, bd_tk, thn_put]
  unfold dBack
  rw [Fa, res14 h]
theorem K_cat {w : Wk} (h : w.T.k = 18) (e : Nat) (g : List Gft) : K s R dg (w :: ch) e g = put hs (bd (cats (D s R dg w.n) w.T (w.T.len - 1 - (w.j + 1)) (w.j + 1) e g) (K s R dg ch)) := by rw [K, if_pos h]
theorem cats_enter {m j : Nat} (h : T.k = 18) (hm : T.len - 1 - j = m + 1) : bd (cats (D s R dg n) T (m + 1) j i g) (K s R dg ch) = bd (D s R dg n (T.kid j) i g) (K s R dg (⟨n, 0, T, j, i⟩ :: ch)) := by
  rw [cats, bd_bd]
  refine bd_congr _ fun e g' => ?_
  rw [bd_hs, K_cat h]
  show put hs (bd (cats (D s R dg n) T m (j + 1) e g') _) = put hs (bd (cats (D s R dg n) T (T.len - 1 - (j + 1)) (j + 1) e g') _)
  rw [show T.len - 1 - (j + 1) = m by omega]
theorem come_cat (h : T.k = 18) (hl : 2 ≤ T.len) : dCome s R dg (n + 1) T i g ch cs = put tk (dCome s R dg n (T.kid 0) i g (⟨n, 0, T, 0, i⟩ :: ch) cs) := by
  obtain ⟨m, hm⟩ : ∃ m, T.len - 1 = m + 1 := ⟨T.len - 2, by omega⟩
  unfold dCome
  rw [D, if_neg (by omega), if_neg (by omega), if_neg (by omega), if_neg (by omega), if_neg (by omega), if_neg (by omega), if_neg (by omega), if_pos h, bd_tk, thn_put, hm, cats_enter h (by omega)]
theorem come_cond (h : T.k = 21) : dCome s R dg (n + 1) T i g ch cs = put tk (dCome s R dg n (T.kid 0) i g (⟨n, 0, T, 0, i⟩ :: ch) cs) := by
  unfold dCome
  rw [D, if_neg (by omega), if_neg (by omega), if_neg (by omega), if_neg (by omega), if_neg (by omega), if_neg (by omega), if_neg (by omega), if_neg (by omega), if_pos h, bd_tk, thn_put, bd_bd]
  congr 2
  refine bd_congr _ fun e g' => ?_
  rw [bd_hs, bd_one, K21 h]
theorem come_imm (h : T.k = 22) : dCome s R dg (n + 1) T i g ch cs = put tk (dCome s R dg n (T.kid 0) i g (⟨n, 0, T, 0, i⟩ :: ch) cs) := by
  unfold dCome
  rw [D, if_neg (by omega), if_neg (by omega), if_neg (by omega), if_neg (by omega), if_neg (by omega), if_neg (by omega), if_neg (by omega), if_neg (by omega), if_neg (by omega), if_pos h, bd_tk, thn_put, bd_bd]
  congr 2
  refine bd_congr _ fun e g' => ?_
  rw [bd_sd, bd_one, K22 h]
theorem come_call {U : PT} (h : T.k = 24) (hU : R T.nm = some U) : dCome s R dg (n + 1) T i g ch cs = put tk (dCome s R dg n U i g ch cs) := by
  unfold dCome
  rw [D, if_neg (by omega), if_neg (by omega), if_neg (by omega), if_neg (by omega), if_neg (by omega), if_neg (by omega), if_neg (by omega), if_neg (by omega), if_neg (by omega), if_neg (by omega), if_pos h, hU, bd_tk, thn_put]
theorem come_none (h : T.k = 24) (hU : R T.nm = none) : dCome s R dg (n + 1) T i g ch cs = ([tk], 2) := by
  unfold dCome
  rw [D, if_neg (by omega), if_neg (by omega), if_neg (by omega), if_neg (by omega), if_neg (by omega), if_neg (by omega), if_neg (by omega), if_neg (by omega), if_neg (by omega), if_neg (by omega), if_pos h, hU, bd_tk, thn_put]; rfl
theorem come_cursor (h : T.k = 23) : dCome s R dg (n + 1) T i g ch cs = put tk (put (sd (T.nm, dg i)) (dBehind s R dg i g ch cs)) := by
  unfold dCome
  rw [D, if_neg (by omega), if_neg (by omega), if_neg (by omega), if_neg (by omega), if_neg (by omega), if_neg (by omega), if_neg (by omega), if_neg (by omega), if_neg (by omega), if_neg (by omega), if_neg (by omega), if_pos h, bd_tk, thn_put, bd_sd, bd_one, thn_put]; rfl
def leafK (k : Int) : Prop := k ≠ 17 ∧ k ≠ 16 ∧ k ≠ 20 ∧ k ≠ 19 ∧ k ≠ 13 ∧ k ≠ 7 ∧ k ≠ 14 ∧ k ≠ 18 ∧ k ≠ 21 ∧ k ≠ 22 ∧ k ≠ 24 ∧ k ≠ 23
theorem D_leaf (h : leafK T.k) : D s R dg (n + 1) T i g = put tk (match onl s T i with | some e => one (wy e g) | none => nil) := by
  obtain ⟨h1, h2, h3, h4, h5, h6, h7, h8, h9, h10, h11, h12⟩ := h
  rw [D, if_neg h1, if_neg h2, if_neg h3, if_neg h4, if_neg h5, if_neg h6, if_neg h7, if_neg h8, if_neg h9, if_neg h10, if_neg h11, if_neg h12]
theorem come_leaf {e : Nat} (h : leafK T.k) (ho : onl s T i = some e) : dCome s R dg (n + 1) T i g ch cs = put tk (dBehind s R dg e g ch cs) := by
  unfold dCome
  rw [D_leaf h, ho, bd_tk, thn_put]
  show put tk (thn (bd (one (wy e g)) _) _) = _
  rw [bd_one]; rfl
theorem come_leaf_no (h : leafK T.k) (ho : onl s T i = none) : dCome s R dg (n + 1) T i g ch cs = put tk (dBack s R dg cs) := by
  unfold dCome
  rw [D_leaf h, ho, bd_tk, thn_put]; rfl
theorem behind_cat {w : Wk} (h : w.T.k = 18) (hj : w.j + 2 < w.T.len) : dBehind s R dg i g (w :: ch) cs = put hs (dCome s R dg w.n (w.T.kid (w.j + 1)) i g (⟨w.n, 0, w.T, w.j + 1, i⟩ :: ch) cs) := by
  obtain ⟨m, hm⟩ : ∃ m, w.T.len - 1 - (w.j + 1) = m + 1 := ⟨w.T.len - 1 - (w.j + 2), by omega⟩
  unfold dBehind dCome
  rw [K_cat h, hm, cats_enter h hm, thn_put]
theorem behind_cat_last {w : Wk} (h : w.T.k = 18) (hj : w.j + 2 = w.T.len) : dBehind s R dg i g (w :: ch) cs = put hs (dCome s R dg w.n (w.T.kid (w.j + 1)) i g ch cs) := by
  unfold dBehind dCome
  rw [K_cat h, show w.T.len - 1 - (w.j + 1) = 0 by omega, cats, thn_put]
theorem behind_arbno_same {w : Wk} (h : w.T.k = 20) (hi : i = w.i) : dBehind s R dg i g (w :: ch) cs = put hs (dBack s R dg cs) := by
  unfold dBehind
  rw [K20 h, if_pos hi, thn_put]; rfl
theorem behind_arbno {w : Wk} {m : Nat} (h : w.T.k = 20) (hi : i ≠ w.i) (hm : w.m = m + 1) : dBehind s R dg i g (w :: ch) cs = put hs (dBehind s R dg i g ch (⟨w.n, m, w.T, 0, i, ch, g⟩ :: cs)) := by
  unfold dBehind
  rw [K20 h, if_neg hi, thn_put, hm, agn, bd_wy, thn_assoc, Fa, res20 (c := ⟨w.n, m, w.T, 0, i, ch, g⟩) h]
theorem behind_cond {w : Wk} (h : w.T.k = 21) : dBehind s R dg i g (w :: ch) cs = put hs (dBehind s R dg i (g ++ [(w.T.nm, sub s w.i i)]) ch cs) := by
  unfold dBehind
  rw [K21 h, thn_put]
theorem behind_imm {w : Wk} (h : w.T.k = 22) : dBehind s R dg i g (w :: ch) cs = put (sd (w.T.nm, sub s w.i i)) (dBehind s R dg i g ch cs) := by
  unfold dBehind
  rw [K22 h, thn_put]
theorem behind_nothing : dBehind s R dg i g [] cs = put (wy i g) (dBack s R dg cs) := rfl
theorem back_nothing : dBack s R dg [] = nil := rfl
theorem back_fence {c : Ch} (h : c.T.k = 16) : dBack s R dg (c :: cs) = ([hs], 1) := by
  unfold dBack
  rw [Fa, res16 h]; rfl
theorem back_alt {c : Ch} (h : c.T.k = 19) (hx : c.x + 1 < c.T.len) : dBack s R dg (c :: cs) = put hs (dCome s R dg c.n (c.T.kid c.x) c.i c.g c.ch ({ c with x := c.x + 1 } :: cs)) := by
  unfold dBack dCome
  rw [Fa, Fa, res19 h, res19 (c := { c with x := c.x + 1 }) h, show c.T.len - c.x = (c.T.len - (c.x + 1)) + 1 by omega, alts, bd_hs, thn_put, bd_thn, thn_assoc]
theorem back_alt_last {c : Ch} (h : c.T.k = 19) (hx : c.x + 1 = c.T.len) : dBack s R dg (c :: cs) = put hs (dCome s R dg c.n (c.T.kid c.x) c.i c.g c.ch cs) := by
  unfold dBack dCome
  rw [Fa, res19 h, show c.T.len - c.x = 0 + 1 by omega, alts, alts, bd_hs, thn_put, nil_thn]
theorem back_arbno {c : Ch} (h : c.T.k = 20) : dBack s R dg (c :: cs) = put hs (dCome s R dg c.n (c.T.kid 0) c.i c.g (⟨c.n, c.m, c.T, 0, c.i⟩ :: c.ch) cs) := by
  unfold dBack dCome
  rw [Fa, res20 h, bd_hs, thn_put, bd_bd]
  congr 2
  refine bd_congr _ fun e g' => ?_
  rw [bd_hs, K20 h]
  congr 1
  split <;> rfl
theorem back_arb {c : Ch} (h : c.T.k = 13) (hx : c.x ≤ s.size) : dBack s R dg (c :: cs) = put hs (dBehind s R dg c.x c.g c.ch ({ c with x := c.x + 1 } :: cs)) := by
  unfold dBack dBehind
  rw [Fa, Fa, res13 h, res13 (c := { c with x := c.x + 1 }) h, show s.size + 1 - c.x = (s.size + 1 - (c.x + 1)) + 1 by omega, arbs, bd_hs, thn_put, bd_wy, thn_assoc]
theorem back_arb_no {c : Ch} (h : c.T.k = 13) (hx : s.size < c.x) : dBack s R dg (c :: cs) = put hs (dBack s R dg cs) := by
  unfold dBack
  rw [Fa, res13 h, show s.size + 1 - c.x = 0 by omega, arbs]; rfl
theorem back_breakx {c : Ch} (h : c.T.k = 7) (hc : c.x ≤ unt s c.T.t true c.x) (hx : unt s c.T.t true c.x < s.size) : dBack s R dg (c :: cs) = put hs (dBehind s R dg (unt s c.T.t true c.x) c.g c.ch ({ c with x := unt s c.T.t true c.x + 1 } :: cs)) := by
  have key : ∀ m m' e, s.size - e ≤ m → s.size - e ≤ m' → bxs s c.T.t c.g m e = bxs s c.T.t c.g m' e := by
    intro m
    induction m with
    | zero =>
      intro m' e h1 _
      cases m' with
      | zero => rfl
      | succ m' =>
        have hu : unt s c.T.t true e = e := by unfold unt; rw [show s.size - e = 0 by omega]; rfl
        rw [bxs, bxs, if_neg (by omega)]
    | succ m ih =>
      intro m' e h1 h2
      have hge : ∀ n i, i ≤ untl s c.T.t true n i := by
        intro n
        induction n with
        | zero => exact fun i => Nat.le_refl _
        | succ n ih =>
          intro i
          rw [untl]
          split
          · exact Nat.le_refl _
          · exact Nat.le_trans (Nat.le_succ i) (ih (i + 1))
      have hu : e ≤ unt s c.T.t true e := hge _ _
      cases m' with
      | zero =>
        rw [bxs, bxs, if_neg (by omega)]
      | succ m' =>
        rw [bxs, bxs]
        split
        · rw [ih m' _ (by omega) (by omega)]
        · rfl
  unfold dBack dBehind
  rw [Fa, Fa, res7 h, res7 (c := { c with x := unt s c.T.t true c.x + 1 }) h, show s.size + 1 - c.x = (s.size - c.x) + 1 by omega, bxs, if_pos hx, bd_hs, thn_put, bd_wy, thn_assoc]
  rw [key (s.size - c.x) (s.size + 1 - (unt s c.T.t true c.x + 1)) _ (by omega) (by omega)]
theorem back_breakx_no {c : Ch} (h : c.T.k = 7) (hx : s.size ≤ unt s c.T.t true c.x) : dBack s R dg (c :: cs) = put hs (dBack s R dg cs) := by
  unfold dBack
  rw [Fa, res7 h]
  cases hm : s.size + 1 - c.x with
  | zero => rw [bxs]; rfl
  | succ m => rw [bxs, if_neg (by omega)]; rfl
theorem prd_gt (s : ByteArray) {t : Nat} : ∀ n d i, prd s n d i = some t → i < t ∧ t ≤ i + n
  | 0, _, _, h => by cases h
  | n + 1, d, i, h => by
    rw [prd] at h
    generalize (if byt s i = 40 then d + 1 else if byt s i = 41 then d - 1 else d) = d' at h
    split at h
    · injection h with h; omega
    · split at h
      · cases h
      · have := prd_gt s n _ _ h; omega
theorem prs_gt {t : Nat} (h : prs s i = some t) : i < t ∧ t ≤ s.size := by
  have := prd_gt s _ _ _ h
  rcases Nat.lt_or_ge i s.size with h1 | h1
  · omega
  · unfold prs at h
    rw [show s.size - i = 0 by omega] at h
    cases h
theorem bls_any (g : List Gft) : ∀ m m' e, s.size - e ≤ m → s.size - e ≤ m' → bls s g m e = bls s g m' e := by
  intro m
  induction m with
  | zero =>
    intro m' e h1 _
    cases m' with
    | zero => rfl
    | succ m' =>
      have hu : prs s e = none := by unfold prs; rw [show s.size - e = 0 by omega]; rfl
      rw [bls, bls, hu]
  | succ m ih =>
    intro m' e h1 h2
    cases m' with
    | zero =>
      have hu : prs s e = none := by unfold prs; rw [show s.size - e = 0 by omega]; rfl
      rw [bls, bls, hu]
    | succ m' =>
      rw [bls, bls]
      cases hp : prs s e with
      | none => rfl
      | some t =>
        have := prs_gt hp
        show put hs (put _ _) = put hs (put _ _)
        rw [ih m' t (by omega) (by omega)]
theorem back_bal {c : Ch} {t : Nat} (h : c.T.k = 14) (hx : prs s c.x = some t) : dBack s R dg (c :: cs) = put hs (dBehind s R dg t c.g c.ch ({ c with x := t } :: cs)) := by
  have := prs_gt hx
  unfold dBack dBehind
  rw [Fa, Fa, res14 h, res14 (c := { c with x := t }) h, show s.size + 1 - c.x = (s.size - c.x) + 1 by omega, bls, hx]
  show thn (bd (put hs (put _ _)) _) _ = _
  rw [bd_hs, thn_put, bd_wy, thn_assoc, bls_any c.g (s.size - c.x) (s.size + 1 - t) t (by omega) (by omega)]
theorem back_bal_no {c : Ch} (h : c.T.k = 14) (hx : prs s c.x = none) : dBack s R dg (c :: cs) = put hs (dBack s R dg cs) := by
  unfold dBack
  rw [Fa, res14 h]
  cases hm : s.size + 1 - c.x with
  | zero => rw [bls]; rfl
  | succ m => rw [bls, hx]; rfl
end
end Go.Proofs.YtbmngbpillihaaaDoor

namespace Go.Proofs.YtbmngbpillihaaaDoor

def Le (p q : Sq) : Prop := p = q ∨ (p.2 = 3 ∧ p.1 <+: q.1)
theorem le_refl (p : Sq) : Le p p := .inl rfl
theorem le_bot (q : Sq) : Le ([], 3) q := .inr ⟨rfl, List.nil_prefix⟩
theorem le_put (x : Ev) {p q : Sq} (h : Le p q) : Le (put x p) (put x q) := by
  rcases h with rfl | ⟨h1, h2⟩
  · exact le_refl _
  · exact .inr ⟨h1, List.prefix_cons_inj x |>.2 h2⟩
theorem le_thn {p p' q q' : Sq} (h : Le p p') (k : Le q q') : Le (thn p q) (thn p' q') := by
  rcases h with rfl | ⟨h1, h2⟩
  · unfold thn
    split
    · rcases k with rfl | ⟨k1, k2⟩
      · exact le_refl _
      · exact .inr ⟨k1, (List.prefix_append_right_inj p.1).2 k2⟩
    · exact le_refl _
  · rw [thn_stop q (by omega)]
    unfold thn
    split
    · exact .inr ⟨h1, h2.trans (List.prefix_append _ _)⟩
    · exact .inr ⟨h1, h2⟩
theorem le_bnd {f f' : Nat → List Gft → Sq} (hf : ∀ e g, Le (f e g) (f' e g)) (r : List Ev) (n n' : Nat) (hr : (r = [] ∧ n = n') ∨ n = 3) : ∀ l, Le (bnd l n f) (bnd (l ++ r) n' f')
  | [] => by
    rcases hr with ⟨rfl, rfl⟩ | rfl
    · exact le_refl _
    · exact le_bot _
  | x :: l => by
    rw [List.cons_append, bnd, bnd]
    have ih := le_bnd hf r n n' hr l
    split
    · exact le_thn (hf _ _) ih
    · exact le_put x ih
theorem le_bd {p p' : Sq} {f f' : Nat → List Gft → Sq} (h : Le p p') (hf : ∀ e g, Le (f e g) (f' e g)) : Le (bd p f) (bd p' f') := by
  rcases h with rfl | ⟨h1, r, h2⟩
  · have := le_bnd hf [] p.2 p.2 (.inl ⟨rfl, rfl⟩) p.1
    rwa [List.append_nil] at this
  · have := le_bnd hf r p.2 p'.2 (.inr h1) p.1
    rw [h2] at this
    exact this
theorem le_ite {c : Prop} [Decidable c] {p q p' q' : Sq} (h : Le p p') (k : Le q q') : Le (if c then p else q) (if c then p' else q') := by
  split
  · exact h
  · exact k
section
variable {f f' : PT → Nat → List Gft → Sq}
theorem cats_le (hf : ∀ U i g, Le (f U i g) (f' U i g)) (T : PT) : ∀ m j i g, Le (cats f T m j i g) (cats f' T m j i g)
  | 0, _, _, _ => hf _ _ _
  | m + 1, j, _, _ => le_bd (hf _ _ _) fun e g' => le_put _ (cats_le hf T m (j + 1) e g')
theorem alts_le (hf : ∀ U i g, Le (f U i g) (f' U i g)) (T : PT) (i : Nat) (g : List Gft) : ∀ m j, Le (alts f T i g m j) (alts f' T i g m j)
  | 0, _ => le_refl _
  | m + 1, j => le_put _ (le_thn (hf _ _ _) (alts_le hf T i g m (j + 1)))
theorem agn_le (hf : ∀ U i g, Le (f U i g) (f' U i g)) (T : PT) : ∀ m i g, Le (agn f T m i g) (agn f' T (m + 1) i g)
  | 0, _, _ => le_bot _
  | m + 1, _, _ => le_put _ (le_put _ (le_bd (hf _ _ _) fun e g' => le_put _ (le_ite (le_refl _) (agn_le hf T m e g'))))
end
theorem D_le (s : ByteArray) (R : ByteArray → Option PT) (dg : Nat → ByteArray) : ∀ n T i g, Le (D s R dg n T i g) (D s R dg (n + 1) T i g)
  | 0, _, _, _ => le_bot _
  | n + 1, T, i, g => by
    have ih := D_le s R dg n
    rw [D, D]
    refine le_put _ (le_ite (le_refl _) (le_ite (le_refl _) (le_ite (agn_le ih _ _ _ _) (le_ite (alts_le ih _ _ _ _ _) (le_ite (le_refl _) (le_ite (le_refl _) (le_ite (le_refl _) (le_ite (cats_le ih _ _ _ _ _) (le_ite (le_bd (ih _ _ _) fun _ _ => le_refl _) (le_ite (le_bd (ih _ _ _) fun _ _ => le_refl _) (le_ite ?_ (le_ite (le_refl _) (le_refl _)))))))))))))
    cases R T.nm with
    | none => exact le_refl _
    | some U => exact ih _ _ _
def wys (l : List Ev) : List Ev := l.filter fun x => x.w == 3
def onlyW (q : Sq) : Sq := (wys q.1, q.2)
end Go.Proofs.YtbmngbpillihaaaDoor

namespace Go.Proofs.YtbmngbpillihaaaDoor

def vis (x : Ev) : Bool := x.w == 2 || x.w == 3
def vs (l : List Ev) : List Ev := l.filter vis
def ah : List Ev → Nat → Nat
  | [], _ => 0
  | x :: l, k => if x.w = 0 then 1 + ah l k else if vis x = true then (if k = 0 then 0 else ah l (k - 1)) else ah l k
def Fas (c : Nat) (p q : List Ev) : Prop := vs p = vs q ∧ ∀ k, ah q k ≤ c + ah p k
theorem vis_not {x : Ev} (h : x.w = 0) : vis x = false := by unfold vis; rw [h]; rfl
theorem vis_ne {x : Ev} (h : vis x = true) : x.w ≠ 0 := fun e => by rw [vis_not e] at h; cases h
theorem ah_tk {x : Ev} (h : x.w = 0) (l : List Ev) (k : Nat) : ah (x :: l) k = 1 + ah l k := if_pos h
theorem ah_hs {x : Ev} (h : x.w ≠ 0) (hv : vis x = false) (l : List Ev) (k : Nat) : ah (x :: l) k = ah l k := by rw [ah, if_neg h, if_neg (by rw [hv]; decide)]
theorem ah_v0 {x : Ev} (hv : vis x = true) (l : List Ev) : ah (x :: l) 0 = 0 := by rw [ah, if_neg (vis_ne hv), if_pos hv, if_pos rfl]
theorem ah_vs {x : Ev} (hv : vis x = true) (l : List Ev) (k : Nat) : ah (x :: l) (k + 1) = ah l k := by rw [ah, if_neg (vis_ne hv), if_pos hv, if_neg (by omega)]; rfl
theorem vs_no {x : Ev} (hv : vis x = false) (l : List Ev) : vs (x :: l) = vs l := by unfold vs; rw [List.filter_cons, if_neg (by rw [hv]; decide)]
theorem vs_yes {x : Ev} (hv : vis x = true) (l : List Ev) : vs (x :: l) = x :: vs l := by unfold vs; rw [List.filter_cons, if_pos hv]
section
variable {c : Nat} {x : Ev} {p q : List Ev}
theorem fas_nil (c : Nat) : Fas c [] [] := ⟨rfl, fun _ => Nat.zero_le _⟩
theorem fas_refl (p : List Ev) : Fas 0 p p := ⟨rfl, fun k => by omega⟩
theorem fas_mono {d : Nat} (h : Fas c p q) (hd : c ≤ d) : Fas d p q := ⟨h.1, fun k => by have := h.2 k; omega⟩
theorem fas_trans {d : Nat} {r : List Ev} (h : Fas c p q) (h' : Fas d q r) : Fas (c + d) p r := ⟨h.1.trans h'.1, fun k => by
  have := h.2 k
  have := h'.2 k
  omega⟩
theorem fas_tl (hx : x.w = 0) (h : Fas (c + 1) p q) : Fas c (x :: p) q := ⟨by rw [vs_no (vis_not hx)]; exact h.1, fun k => by
  have := h.2 k
  rw [ah_tk hx]
  omega⟩
theorem fas_tr (hx : x.w = 0) (h : Fas c p q) : Fas (c + 1) p (x :: q) := ⟨by rw [vs_no (vis_not hx)]; exact h.1, fun k => by
  have := h.2 k
  rw [ah_tk hx]
  omega⟩
theorem fas_sl (h0 : x.w ≠ 0) (hv : vis x = false) (h : Fas c p q) : Fas c (x :: p) q := ⟨by rw [vs_no hv]; exact h.1, fun k => by rw [ah_hs h0 hv]; exact h.2 k⟩
theorem fas_sr (h0 : x.w ≠ 0) (hv : vis x = false) (h : Fas c p q) : Fas c p (x :: q) := ⟨by rw [vs_no hv]; exact h.1, fun k => by rw [ah_hs h0 hv]; exact h.2 k⟩
theorem fas_v (hv : vis x = true) (h : Fas c p q) : Fas c (x :: p) (x :: q) := ⟨by rw [vs_yes hv, vs_yes hv, h.1], fun k => by
  cases k with
  | zero => rw [ah_v0 hv, ah_v0 hv]; omega
  | succ k => rw [ah_vs hv, ah_vs hv]; exact h.2 k⟩
theorem fas_cons (h : Fas c p q) : Fas c (x :: p) (x :: q) := by
  by_cases h0 : x.w = 0
  · exact fas_tl h0 (fas_tr h0 h)
  cases hv : vis x with
  | true => exact fas_v hv h
  | false => exact fas_sl h0 hv (fas_sr h0 hv h)
end

theorem fas_ind {P : Nat → List Ev → List Ev → Prop} (h0 : ∀ c, P c [] []) (tl : ∀ c x p q, x.w = 0 → P (c + 1) p q → P c (x :: p) q) (tr : ∀ c x p q, x.w = 0 → P c p q → P (c + 1) p (x :: q))
    (sl : ∀ c x p q, x.w ≠ 0 → vis x = false → P c p q → P c (x :: p) q) (sr : ∀ c x p q, x.w ≠ 0 → vis x = false → P c p q → P c p (x :: q)) (hv : ∀ c x p q, vis x = true → P c p q → P c (x :: p) (x :: q)) :
    ∀ (n : Nat) (p q : List Ev) (c : Nat), p.length + q.length ≤ n → Fas c p q → P c p q := by
  intro n
  induction n with
  | zero =>
    intro p q c hn _
    obtain rfl : p = [] := List.length_eq_zero_iff.1 (by omega)
    obtain rfl : q = [] := List.length_eq_zero_iff.1 (by omega)
    exact h0 c
  | succ n ih =>
    intro p q c hn h
    have left : ∀ (x : Ev) (p' : List Ev), p = x :: p' → vis x = false → P c p q := by
      rintro x p' rfl hx
      have hn' : p'.length + q.length ≤ n := by simp at hn; omega
      by_cases hz : x.w = 0
      · refine tl c x p' q hz (ih p' q (c + 1) hn' ⟨by rw [← h.1, vs_no hx], fun k => ?_⟩)
        have := h.2 k
        rw [ah_tk hz] at this
        omega
      · refine sl c x p' q hz hx (ih p' q c hn' ⟨by rw [← h.1, vs_no hx], fun k => ?_⟩)
        have := h.2 k
        rwa [ah_hs hz hx] at this
    have right : ∀ (y : Ev) (q' : List Ev), q = y :: q' → vis y = false → ah p 0 = 0 → P c p q := by
      rintro y q' rfl hy hp
      have hn' : p.length + q'.length ≤ n := by simp at hn; omega
      by_cases hz : y.w = 0
      · have h00 := h.2 0
        rw [ah_tk hz, hp] at h00
        obtain ⟨d, rfl⟩ : ∃ d, c = d + 1 := ⟨c - 1, by omega⟩
        refine tr d y p q' hz (ih p q' d hn' ⟨by rw [h.1, vs_no hy], fun k => ?_⟩)
        have := h.2 k
        rw [ah_tk hz] at this
        omega
      · refine sr c y p q' hz hy (ih p q' c hn' ⟨by rw [h.1, vs_no hy], fun k => ?_⟩)
        have := h.2 k
        rwa [ah_hs hz hy] at this
    cases p with
    | nil =>
      cases q with
      | nil => exact h0 c
      | cons y q' =>
        cases hy : vis y with
        | false => exact right y q' rfl hy rfl
        | true =>
          have := h.1
          rw [vs_yes hy] at this
          cases this
    | cons x p' =>
      cases hx : vis x with
      | false => exact left x p' rfl hx
      | true =>
        cases q with
        | nil =>
          have := h.1
          rw [vs_yes hx] at this
          cases this
        | cons y q' =>
          cases hy : vis y with
          | false => exact right y q' rfl hy (ah_v0 hx p')
          | true =>
            have h1 := h.1
            rw [vs_yes hx, vs_yes hy] at h1
            injection h1 with e1 e2
            subst e1
            refine hv c x p' q' hx (ih p' q' c (by simp at hn; omega) ⟨e2, fun k => ?_⟩)
            have := h.2 (k + 1)
            rwa [ah_vs hx, ah_vs hx] at this
theorem fas_append {a b : Nat} {p q p' q' : List Ev} (h : Fas a p q) (h' : Fas b p' q') : Fas (a + b) (p ++ p') (q ++ q') := by
  refine fas_ind (P := fun c p q => Fas (c + b) (p ++ p') (q ++ q')) (fun c => fas_mono h' (by omega)) (fun c x p q hx hp => fas_tl hx (fas_mono hp (by omega))) (fun c x p q hx hp => fas_mono (fas_tr hx hp) (by omega))
    (fun c x p q h0 hx hp => fas_sl h0 hx hp) (fun c x p q h0 hx hp => fas_sr h0 hx hp) (fun c x p q hx hp => fas_v hx hp) _ p q a (Nat.le_refl _) h
theorem fas_part {c : Nat} {p r : List Ev} (h : Fas c p r) : ∀ u v, p = u ++ v → ∃ w1 w2, r = w1 ++ w2 ∧ Fas c u w1 := by
  refine fas_ind (P := fun c p r => ∀ u v, p = u ++ v → ∃ w1 w2, r = w1 ++ w2 ∧ Fas c u w1) ?_ ?_ ?_ ?_ ?_ ?_ _ p r c (Nat.le_refl _) h
  · intro c u v e
    obtain ⟨rfl, rfl⟩ := List.append_eq_nil_iff.1 e.symm
    exact ⟨[], [], rfl, fas_nil c⟩
  · intro c x p q hx ih u v e
    cases u with
    | nil => exact ⟨[], q, rfl, fas_nil c⟩
    | cons y u =>
      injection e with e1 e2
      subst e1
      obtain ⟨w1, w2, q1, q2⟩ := ih u v e2
      exact ⟨w1, w2, q1, fas_tl hx q2⟩
  · intro c x p q hx ih u v e
    obtain ⟨w1, w2, q1, q2⟩ := ih u v e
    exact ⟨x :: w1, w2, by rw [q1]; rfl, fas_tr hx q2⟩
  · intro c x p q h0 hx ih u v e
    cases u with
    | nil => exact ⟨[], q, rfl, fas_nil c⟩
    | cons y u =>
      injection e with e1 e2
      subst e1
      obtain ⟨w1, w2, q1, q2⟩ := ih u v e2
      exact ⟨w1, w2, q1, fas_sl h0 hx q2⟩
  · intro c x p q h0 hx ih u v e
    obtain ⟨w1, w2, q1, q2⟩ := ih u v e
    exact ⟨x :: w1, w2, by rw [q1]; rfl, fas_sr h0 hx q2⟩
  · intro c x p q hx ih u v e
    cases u with
    | nil => exact ⟨[], x :: q, rfl, fas_nil c⟩
    | cons y u =>
      injection e with e1 e2
      subst e1
      obtain ⟨w1, w2, q1, q2⟩ := ih u v e2
      exact ⟨x :: w1, w2, by rw [q1]; rfl, fas_v hx q2⟩
def Qk (c : Nat) (p q : Sq) : Prop := ∃ r rest, q.1 = r ++ rest ∧ Fas c p.1 r ∧ (p.2 ≠ 3 → rest = [] ∧ q.2 = p.2)
section
variable {a b c : Nat} {p q r p' q' : Sq}
theorem qk_refl (p : Sq) : Qk 0 p p := ⟨p.1, [], (List.append_nil _).symm, fas_refl _, fun _ => ⟨rfl, rfl⟩⟩
theorem qk_mono (h : Qk a p q) (hb : a ≤ b) : Qk b p q := by
  obtain ⟨r, x, h1, h2, h3⟩ := h
  exact ⟨r, x, h1, fas_mono h2 hb, h3⟩
theorem qk_bot (c : Nat) (q : Sq) : Qk c ([], 3) q := ⟨[], q.1, rfl, fas_nil c, fun h => absurd rfl h⟩
theorem qk_trans (h : Qk a p q) (h' : Qk b q r) : Qk (a + b) p r := by
  obtain ⟨r1, x1, e1, f1, g1⟩ := h
  obtain ⟨r2, x2, e2, f2, g2⟩ := h'
  by_cases h3 : p.2 = 3
  · obtain ⟨w1, w2, q1, q2⟩ := fas_part f2 r1 x1 e1
    exact ⟨w1, w2 ++ x2, by rw [e2, q1, List.append_assoc], fas_trans f1 q2, fun h => absurd h3 h⟩
  · obtain ⟨rfl, k1⟩ := g1 h3
    obtain ⟨rfl, k2⟩ := g2 (by rw [k1]; exact h3)
    rw [List.append_nil] at e1
    exact ⟨r2, [], e2, fas_trans f1 (e1 ▸ f2), fun _ => ⟨rfl, k2.trans k1⟩⟩
theorem qk_tr0 (h : Qk 0 p q) (h' : Qk 0 q r) : Qk 0 p r := qk_trans h h'
theorem qk_le (h : Qk c p q) (hl : Le q r) : Qk c p r := by
  rcases hl with rfl | ⟨h3, t, ht⟩
  · exact h
  obtain ⟨r1, x1, e1, f1, g1⟩ := h
  by_cases hp : p.2 = 3
  · exact ⟨r1, x1 ++ t, by rw [← ht, e1, List.append_assoc], f1, fun h => absurd hp h⟩
  · exact absurd ((g1 hp).2.symm.trans h3) hp
theorem qk_put (x : Ev) (h : Qk c p q) : Qk c (put x p) (put x q) := by
  obtain ⟨r1, x1, e1, f1, g1⟩ := h
  exact ⟨x :: r1, x1, by show x :: q.1 = _; rw [e1]; rfl, fas_cons f1, g1⟩
theorem qk_tk (h : Qk c p q) : Qk c (put tk p) q := by
  obtain ⟨r1, x1, e1, f1, g1⟩ := h
  exact ⟨r1, x1, e1, fas_tl rfl (fas_mono f1 (by omega)), g1⟩
theorem qk_hl (h : Qk c p q) : Qk c (put hs p) q := by
  obtain ⟨r1, x1, e1, f1, g1⟩ := h
  exact ⟨r1, x1, e1, fas_sl (by decide) rfl f1, g1⟩
theorem qk_hr (h : Qk c p q) : Qk c p (put hs q) := by
  obtain ⟨r1, x1, e1, f1, g1⟩ := h
  exact ⟨hs :: r1, x1, by show hs :: q.1 = _; rw [e1]; rfl, fas_sr (by decide) rfl f1, g1⟩
theorem qk_thn (h : Qk a p q) (h' : Qk b p' q') : Qk (a + b) (thn p p') (thn q q') := by
  obtain ⟨r1, x1, e1, f1, g1⟩ := h
  by_cases h3 : p.2 = 3
  · rw [thn_stop p' (by omega)]
    unfold thn
    split
    · exact ⟨r1, x1 ++ q'.1, by show q.1 ++ q'.1 = _; rw [e1, List.append_assoc], fas_mono f1 (by omega), fun h => absurd h3 h⟩
    · exact ⟨r1, x1, e1, fas_mono f1 (by omega), fun h => absurd h3 h⟩
  · obtain ⟨rfl, k1⟩ := g1 h3
    rw [List.append_nil] at e1
    by_cases h0 : p.2 = 0
    · obtain ⟨r2, x2, e2, f2, g2⟩ := h'
      unfold thn
      rw [if_pos h0, if_pos (k1.trans h0)]
      exact ⟨r1 ++ r2, x2, by show q.1 ++ q'.1 = _; rw [e1, e2, List.append_assoc], fas_append f1 f2, g2⟩
    · rw [thn_stop p' h0, thn_stop q' (by rw [k1]; exact h0)]
      exact ⟨r1, [], by rw [e1, List.append_nil], fas_mono f1 (by omega), fun _ => ⟨rfl, k1⟩⟩
theorem qk_bd {f f' : Nat → List Gft → Sq} {ok : Nat → Prop} (h : Qk c p q) (ho : ∀ x ∈ p.1, x.w = 3 → ok x.a) (hf : ∀ e g, ok e → Qk 0 (f e g) (f' e g)) : Qk c (bd p f) (bd q f') := by
  obtain ⟨r1, x1, e1, f1, g1⟩ := h
  have key : ∀ rest n n', (n ≠ 3 → rest = [] ∧ n' = n) → Qk c (bnd p.1 n f) (bnd (r1 ++ rest) n' f') := by
    refine fas_ind (P := fun c p r => (∀ x ∈ p, x.w = 3 → ok x.a) → ∀ rest n n', (n ≠ 3 → rest = [] ∧ n' = n) → Qk c (bnd p n f) (bnd (r ++ rest) n' f')) ?_ ?_ ?_ ?_ ?_ ?_ _ p.1 r1 c (Nat.le_refl _) f1 ho
    · intro c _ rest n n' hn
      by_cases h3 : n = 3
      · subst h3
        exact qk_bot c _
      · obtain ⟨rfl, rfl⟩ := hn h3
        exact qk_mono (qk_refl _) (Nat.zero_le _)
    · intro c x p r hx ih hok rest n n' hn
      have := ih (fun y hy => hok y (List.mem_cons_of_mem _ hy)) rest n n' hn
      rw [bnd, if_neg (by omega)]
      obtain ⟨r1, x1, e1, f1, g1⟩ := this
      exact ⟨r1, x1, e1, fas_tl hx f1, g1⟩
    · intro c x p r hx ih hok rest n n' hn
      have := ih hok rest n n' hn
      rw [List.cons_append, bnd, if_neg (by omega)]
      obtain ⟨r1, x1, e1, f1, g1⟩ := this
      exact ⟨x :: r1, x1, by show x :: (bnd (r ++ rest) n' f').1 = _; rw [e1]; rfl, fas_tr hx f1, g1⟩
    · intro c x p r h0 hx ih hok rest n n' hn
      have := ih (fun y hy => hok y (List.mem_cons_of_mem _ hy)) rest n n' hn
      rw [bnd, if_neg (by intro h; unfold vis at hx; rw [h] at hx; cases hx)]
      obtain ⟨r1, x1, e1, f1, g1⟩ := this
      exact ⟨r1, x1, e1, fas_sl h0 hx f1, g1⟩
    · intro c x p r h0 hx ih hok rest n n' hn
      have := ih hok rest n n' hn
      rw [List.cons_append, bnd, if_neg (by intro h; unfold vis at hx; rw [h] at hx; cases hx)]
      obtain ⟨r1, x1, e1, f1, g1⟩ := this
      exact ⟨x :: r1, x1, by show x :: (bnd (r ++ rest) n' f').1 = _; rw [e1]; rfl, fas_sr h0 hx f1, g1⟩
    · intro c x p r hx ih hok rest n n' hn
      have := ih (fun y hy => hok y (List.mem_cons_of_mem _ hy)) rest n n' hn
      rw [List.cons_append, bnd, bnd]
      by_cases h3 : x.w = 3
      · rw [if_pos h3, if_pos h3]
        have hq := qk_thn (hf x.a x.g (hok x (List.mem_cons_self ..) h3)) this
        rwa [Nat.zero_add] at hq
      · rw [if_neg h3, if_neg h3]
        exact qk_put x this
  show Qk c (bnd p.1 p.2 f) (bnd q.1 q.2 f')
  rw [e1]
  exact key x1 p.2 q.2 g1
end
end Go.Proofs.YtbmngbpillihaaaDoor

namespace Go.Proofs.YtbmngbpillihaaaDoor
open Go.RowKit

theorem hide {p : Prop} (h : p) : Hid p := h
theorem unhide {p : Prop} (h : Hid p) : p := h
theorem bnext {w a b : World} (h : Below w.heap.size w a) (k : Below a.heap.size a b) : Below w.heap.size w b := h.trans (k.mono h.size)
theorem at_new {w : World} {o : Obj} {n : Nat} (h : n = w.heap.size) : (w.alloc o).heap[n]? = some o := by subst h; exact heap_alloc_new w o
theorem at_old {w : World} {o x : Obj} {n : Nat} (h : n < w.heap.size) (k : w.heap[n]? = some x) : (w.alloc o).heap[n]? = some x := (Below.heap_alloc _ _ _ h).trans k
theorem ret_bool {a b : Bool} (h : a = b) : Ending.returned (.bool a) = .returned (.bool b) := by rw [h]
theorem below_setRow {B : Nat} {a w : World} (h : Below B a w) (g : Nat) (hg : B ≤ g) (cs : Array Value) : Below B a (w.setRow g cs) :=
  ⟨h.os, h.tape, h.output, by simpa using h.size, fun k hk => (setRow_other w g k cs (by omega)).trans (h.block k hk)⟩
theorem own_below {W W' : World} {B e size n : Nat} {v : Value} {xs : List Value} (h : W.ownsRow B e size v n xs) (hb : Below W.heap.size W W') : W'.ownsRow B e size v n xs :=
  h.kept (row := none) ⟨hb.os, hb.tape, hb.output, hb.size, fun k hk _ => hb.block k hk⟩ (Classical.em _)
theorem row_below {W W' : World} {n : Nat} {x : Obj} (h : W.heap[n]? = some x) (hb : Below W.heap.size W W') : W'.heap[n]? = some x :=
  (hb.block n (Array.getElem?_eq_some_iff.1 h).1).trans h
def letterN (b : Nat) : Bool := decide (65 ≤ b ∧ b ≤ 90)
def digitN (b : Nat) : Bool := decide (48 ≤ b ∧ b ≤ 57)
theorem letterB_eq (c : UInt8) : letterB c = letterN c.toNat := by unfold letterB letterN; simp
theorem digitB_eq (c : UInt8) : digitB c = digitN c.toNat := by unfold digitB digitN; simp
set_option maxHeartbeats 400000 in
theorem isLetter_any (b : Nat) (hb : b < 256) (w : World) :
    Calls Tryd.prog 108 #[.int .u8 (b : Int)] w fun e w' => e = .returned (.bool (letterN b)) ∧ w' = w := by
  have hc : (65 ≤ b ∧ b ≤ 90) ∨ b < 65 ∨ (65 ≤ b ∧ 90 < b) := by omega
  rcases hc with ⟨h1, h2⟩ | h | ⟨h1, h2⟩
  · rw [show letterN b = true from decide_eq_true (by omega)]
    go_enter Tryd.func108, Tryd.ntmps108
    go_wp2
    go_ret
    exact ⟨ret_bool (by simp; omega), rfl⟩
  · rw [show letterN b = false from decide_eq_false (by omega)]
    go_enter Tryd.func108, Tryd.ntmps108
    go_wp2
    go_ret
    exact ⟨rfl, rfl⟩
  · rw [show letterN b = false from decide_eq_false (by omega)]
    go_enter Tryd.func108, Tryd.ntmps108
    go_wp2
    go_ret
    exact ⟨ret_bool (by simp; omega), rfl⟩
set_option maxHeartbeats 400000 in
theorem isDigit_any (b : Nat) (hb : b < 256) (w : World) :
    Calls Tryd.prog 109 #[.int .u8 (b : Int)] w fun e w' => e = .returned (.bool (digitN b)) ∧ w' = w := by
  have hc : (48 ≤ b ∧ b ≤ 57) ∨ b < 48 ∨ (48 ≤ b ∧ 57 < b) := by omega
  rcases hc with ⟨h1, h2⟩ | h | ⟨h1, h2⟩
  · rw [show digitN b = true from decide_eq_true (by omega)]
    go_enter Tryd.func109, Tryd.ntmps109
    go_wp2
    go_ret
    exact ⟨ret_bool (by simp; omega), rfl⟩
  · rw [show digitN b = false from decide_eq_false (by omega)]
    go_enter Tryd.func109, Tryd.ntmps109
    go_wp2
    go_ret
    exact ⟨rfl, rfl⟩
  · rw [show digitN b = false from decide_eq_false (by omega)]
    go_enter Tryd.func109, Tryd.ntmps109
    go_wp2
    go_ret
    exact ⟨ret_bool (by simp; omega), rfl⟩
def bat (s : ByteArray) (i : Nat) : Nat := (s.data.toList.getD i 0).toNat
theorem bat_at (s : ByteArray) (i : Nat) (h : i < s.size) : (s[i]'h).toNat = bat s i := by
  unfold bat
  have : i < s.data.toList.length := by simpa using h
  rw [List.getD, List.getElem?_eq_getElem this]; rfl
theorem bat_lt (s : ByteArray) (i : Nat) : bat s i < 256 := UInt8.toNat_lt _
def wordUp (s : ByteArray) : Nat → Bool
  | 0 => true
  | i + 1 => wordUp s i && (letterN (bat s i) || digitN (bat s i))
theorem wordUp_all (l : List UInt8) : ∀ i, i ≤ l.length → wordUp ⟨l.toArray⟩ i = (l.take i).all fun x => letterB x || digitB x
  | 0, _ => rfl
  | i + 1, h => by
    have hi : i < l.length := by omega
    rw [wordUp, wordUp_all l i (by omega), List.take_succ_eq_append_getElem hi, List.all_append]
    simp [letterB_eq, digitB_eq, bat, List.getD, hi]
theorem named_eq (s : ByteArray) : named s = (decide (1 ≤ s.size) && decide (s.size ≤ 16) && letterN (bat s 0) && wordUp s s.size) := by
  obtain ⟨⟨l⟩⟩ := s
  have hs : (⟨⟨l⟩⟩ : ByteArray).size = l.length := rfl
  have := wordUp_all l l.length (Nat.le_refl _)
  rw [hs]
  unfold named
  rw [hs, this, List.take_length]
  cases l with
  | nil => simp [namedL]
  | cons c r =>
    simp [namedL, letterB_eq, digitB_eq, Bool.and_assoc, bat]
    cases letterN c.toNat <;> simp
end Go.Proofs.YtbmngbpillihaaaDoor

namespace Go.Proofs.YtbmngbpillihaaaDoor
open Go.RowKit

theorem isEmpty_true (t : ByteArray) (h : t.size = 0) : t.toList.isEmpty = true := by
  rw [ByteArray.toList_eq, List.isEmpty_iff]; apply List.eq_nil_of_length_eq_zero; simpa using h
theorem isEmpty_false (t : ByteArray) (h : t.size ≠ 0) : t.toList.isEmpty = false := by
  rw [ByteArray.toList_eq]
  apply Bool.eq_false_iff.2
  intro e
  rw [List.isEmpty_iff] at e
  apply h
  have := congrArg List.length e
  simpa using this
theorem wordUp_step (s : ByteArray) (i : Nat) : wordUp s (i + 1) = (wordUp s i && (letterN (bat s i) || digitN (bat s i))) := rfl
theorem wordUp_stays (s : ByteArray) {i n : Nat} (h : i ≤ n) (hf : wordUp s i = false) : wordUp s n = false := by
  induction n with
  | zero => rw [← hf]; congr 1; omega
  | succ n ih =>
    rcases Nat.lt_or_ge i (n + 1) with h1 | h1
    · rw [wordUp_step, ih (by omega)]; rfl
    · rw [← hf]; congr 1; omega
set_option maxHeartbeats 400000 in
theorem named_any (s : ByteArray) (w : World) (hs : s.size ≤ maxLen) :
    Calls Tryd.prog 90 #[.string s] w fun e w' => e = .returned (.bool (named s)) ∧ w' = w := by
  unfold maxLen at hs
  have HN := hide (named_eq s)
  by_cases h0 : s.size = 0
  · have he := isEmpty_true s h0
    have HF := hide (show named s = false by rw [unhide HN]; simp [h0])
    rw [unhide HF]
    go_enter Tryd.func90, Tryd.ntmps90
    go_wp2_with fail
    go_ret
    exact ⟨rfl, rfl⟩
  · have he := isEmpty_false s h0
    have hp : 0 < s.size := by omega
    by_cases h1 : 16 < s.size
    · have HF := hide (show named s = false by rw [unhide HN]; simp; omega)
      rw [unhide HF]
      go_enter Tryd.func90, Tryd.ntmps90
      go_wp2_with fail
      go_ret
      exact ⟨rfl, rfl⟩
    · have h2 : s.size ≤ 16 := by omega
      have b0 := bat_at s 0 hp
      cases hl : letterN (bat s 0)
      · have HF := hide (show named s = false by rw [unhide HN, hl]; simp)
        rw [unhide HF]
        have H0 := hide b0
        have HL := hide hl
        clear b0 hl
        go_enter Tryd.func90, Tryd.ntmps90
        go_wp2_with (go_at_call 108; rw [unhide H0]; refine (isLetter_any _ (bat_lt _ _) _).mono ?_; rintro e w ⟨rfl, rfl⟩; rw [unhide HL])
        go_ret
        exact ⟨rfl, rfl⟩
      · have HF := hide (show named s = wordUp s s.size by rw [unhide HN, hl, decide_eq_true (show 1 ≤ s.size by omega), decide_eq_true h2]; rfl)
        rw [unhide HF]
        have H0 := hide b0
        have HL := hide hl
        clear b0 hl
        go_enter Tryd.func90, Tryd.ntmps90
        go_wp2_with (go_at_call 108; rw [unhide H0]; refine (isLetter_any _ (bat_lt _ _) _).mono ?_; rintro e w ⟨rfl, rfl⟩; rw [unhide HL])
        go_loop [19] (fun i => ∃ k : Nat, k ≤ s.size ∧ i = .int .i64 (k : Int) ∧ wordUp s k = true) (fun i => s.size - (intOf i).toNat)
        case atStart => exact ⟨0, by omega, rfl, rfl⟩
        case round =>
          obtain ⟨k, hk, rfl, hu⟩ := hrel
          have HU := hide hu
          clear hu
          rcases Nat.lt_or_ge k s.size with hkt | hkt
          · have bk := bat_at s k hkt
            have Hk := hide bk
            clear bk
            have HS := hide (wordUp_step s k)
            cases hl : letterN (bat s k)
            · cases hd : digitN (bat s k)
              · have HW := hide (show wordUp s s.size = false from wordUp_stays s (show k + 1 ≤ s.size by omega) (by rw [unhide HS, hl, hd]; simp))
                have HL := hide hl
                have HD := hide hd
                clear hl hd
                go_wp2_with (first | (go_at_call 108; rw [unhide Hk]; refine (isLetter_any _ (bat_lt _ _) _).mono ?_; rintro e w ⟨rfl, rfl⟩; rw [unhide HL]) | (go_at_call 109; rw [unhide Hk]; refine (isDigit_any _ (bat_lt _ _) _).mono ?_; rintro e w ⟨rfl, rfl⟩; rw [unhide HD]))
                go_ret
                exact ⟨by rw [unhide HW]; rfl, rfl⟩
              · have HW := hide (show wordUp s (k + 1) = true by rw [unhide HS, unhide HU, hl, hd]; rfl)
                have HL := hide hl
                have HD := hide hd
                clear hl hd
                go_wp2_with (first | (go_at_call 108; rw [unhide Hk]; refine (isLetter_any _ (bat_lt _ _) _).mono ?_; rintro e w ⟨rfl, rfl⟩; rw [unhide HL]) | (go_at_call 109; rw [unhide Hk]; refine (isDigit_any _ (bat_lt _ _) _).mono ?_; rintro e w ⟨rfl, rfl⟩; rw [unhide HD]))
                exact ⟨⟨k + 1, by omega, rfl, unhide HW⟩, by simp [intOf]; omega⟩
            · have HW := hide (show wordUp s (k + 1) = true by rw [unhide HS, unhide HU, hl]; rfl)
              have HL := hide hl
              clear hl
              go_wp2_with (first | (go_at_call 108; rw [unhide Hk]; refine (isLetter_any _ (bat_lt _ _) _).mono ?_; rintro e w ⟨rfl, rfl⟩; rw [unhide HL]))
              exact ⟨⟨k + 1, by omega, rfl, unhide HW⟩, by simp [intOf]; omega⟩
          · have hk' : k = s.size := by omega
            subst hk'
            go_wp2_with fail
            go_ret
            exact ⟨by rw [unhide HU]; rfl, rfl⟩
end Go.Proofs.YtbmngbpillihaaaDoor
