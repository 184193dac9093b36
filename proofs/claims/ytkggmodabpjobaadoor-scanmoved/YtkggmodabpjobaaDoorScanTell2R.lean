/- Each coming to a node does what is to be done: for patterns of any kind, with rules. Each turn behind a kid, and each turn back, does what is to be done. What next does with a pattern of any kind, with rules: it goes to the next way, or to the end. What is told of the ways of a pattern: so many at most, as far as the fuel goes. How the ways are gathered, one behind the other. What is found first: at the first place at which there is a way, the first one there. -/
import Derived.Test.YtkggmodabpjobaaDoorScanSimR
import Derived.Test.YtkggmodabpjobaaDoorScanCallR
import Derived.Test.YtkggmodabpjobaaDoorScanTell
import Derived.Test.YtkggmodabpjobaaDoorScanComeS
import Derived.Test.YtkggmodabpjobaaDoorScanFurther
import Derived.Test.YtkggmodabpjobaaDoorScanComeM
import Derived.Test.YtkggmodabpjobaaDoorScanComeE
import Derived.Test.YtkggmodabpjobaaDoorScanNext
import Derived.Test.YtkggmodabpjobaaDoorScanFollowM
import Derived.Test.YtkggmodabpjobaaDoorScanRetryF
import Derived.Test.YtkggmodabpjobaaDoorScanRetryA
import Derived.Test.YtkggmodabpjobaaDoorScanRetryN
import Derived.Test.YtkggmodabpjobaaDoorScanRetryB
import Derived.Test.YtkggmodabpjobaaDoorScanRetryL
import Derived.Test.YtkggmodabpjobaaDoorScanRetryX
import Derived.Test.YtkggmodabpjobaaDoorScanPlain2
namespace Go.Proofs.YtkggmodabpjobaaDoor
open Go.RowKit

def pre (l : List Ev) (q : Sq) : Sq := (l ++ q.1, q.2)
theorem pre_put (l : List Ev) (x : Ev) (q : Sq) : pre l (put x q) = pre (l ++ [x]) q := by simp [pre, put]
def NoWay (l : List Ev) : Prop := ∀ x ∈ l, x.w ≠ 3
theorem noWay_nil : NoWay [] := fun _ h => by cases h
theorem noWay_one {x : Ev} (h : x.w ≠ 3) : NoWay [x] := fun y hy => by rw [List.mem_singleton] at hy; rw [hy]; exact h
theorem NoWay.append {a b : List Ev} (h : NoWay a) (k : NoWay b) : NoWay (a ++ b) := fun x hx => by
  rcases List.mem_append.1 hx with y | y
  · exact h x y
  · exact k x y

/-- What stands as it is while next goes on. L0: all that was told ahead; RL: the rules; Wd: where they lie. -/
structure Ctx where
  B : Nat
  g : Nat
  s : ByteArray
  rn : ByteArray → Int
  R : ByteArray → Option PT
  dg : Nat → ByteArray
  fuel : Nat
  t0 : Nat
  D0 : Sq
  m0 : MS
  w0 : World
  N0 : List Nd
  L0 : List Gft
  RL : List (ByteArray × PT)
  Wd : World
  y : Nat

/-- The pattern of the first rule of a name. -/
def ruleOf (nm : ByteArray) : List (ByteArray × PT) → Option PT
  | [] => none
  | r :: l => if r.1 = nm then some r.2 else ruleOf nm l
theorem ruleOf_at (nm : ByteArray) : ∀ (l : List (ByteArray × PT)) (i : Nat), (ruleAt nm l i < 0 ∧ ruleOf nm l = none) ∨ ∃ j R, ruleAt nm l i = ((i + j : Nat) : Int) ∧ l[j]? = some R ∧ ruleOf nm l = some R.2
  | [], i => .inl ⟨by rw [ruleAt]; omega, rfl⟩
  | r :: l, i => by
    rw [ruleAt, ruleOf]
    by_cases h : r.1 = nm
    · rw [if_pos h, if_pos h]
      exact .inr ⟨0, r, rfl, rfl, rfl⟩
    · rw [if_neg h, if_neg h]
      rcases ruleOf_at nm l (i + 1) with q | ⟨j, R, q1, q2, q3⟩
      · exact .inl q
      · exact .inr ⟨j + 1, R, by rw [q1]; omega, by simpa using q2, q3⟩

/-- What is so of the rules, and of numbers as texts. -/
structure RC (X : Ctx) : Prop where
  low : X.Wd.heap.size ≤ X.B
  lie : X.RL ≠ [] → ∃ b o cr, RulesAt X.Wd b o X.RL ∧ X.m0.rv = .slice (some ⟨b, o, none⟩) X.RL.length cr
  len : X.RL.length ≤ 64
  fine : ∀ (i : Nat) (R : ByteArray × PT), X.RL[i]? = some R → FineS R.2 ∧ NZ R.2 ∧ R.2.cnt ≤ 4096
  rn : X.rn = fun nm => ruleAt nm X.RL 0
  R : X.R = fun nm => ruleOf nm X.RL
  ita : ∀ n : Nat, n ≤ 65536 → ∀ W, Below X.Wd.heap.size X.Wd W → Calls Tryd.prog 33 #[.int .i64 (n : Int)] W fun e w' => e = .returned (.string (X.dg n)) ∧ Below W.heap.size W w'
  room : X.m0.room ≤ 100000000000
  yb : X.y ≤ 5000

/-- What was told. -/
def sdg : List Ev → List Gft
  | [] => []
  | x :: l => if x.w = 2 then x.g ++ sdg l else sdg l
theorem sdg_append : ∀ (l m : List Ev), sdg (l ++ m) = sdg l ++ sdg m
  | [], _ => rfl
  | x :: l, m => by
    rw [List.cons_append, sdg, sdg, sdg_append l m]
    split
    · rw [List.append_assoc]
    · rfl
/-- What of the machine stays, and what it has told. -/
structure Kept (X : Ctx) (m : MS) (N : List Nd) (S : List Gft) (em : List Ev) : Prop where
  both : (m.root, m.s, m.rv) = (X.m0.root, X.m0.s, X.m0.rv)
  room : m.room = X.m0.room
  told : m.told = (X.L0 ++ sdg em).length
  said : S = (X.L0 ++ sdg em).take X.m0.room
  same : Same X.N0 N
theorem Kept.step {X : Ctx} {m m' : MS} {N : List Nd} {S : List Gft} {em : List Ev} (h : Kept X m N S em) (ev : List Ev) (hk : (m'.root, m'.s, m'.rv) = (m.root, m.s, m.rv) ∧ m'.room = m.room ∧ m'.told = m.told ∧ sdg ev = []) : Kept X m' N S (em ++ ev) :=
  ⟨hk.1.trans h.both, hk.2.1.trans h.room, by rw [hk.2.2.1, h.told, sdg_append, hk.2.2.2, List.append_nil], by rw [sdg_append, hk.2.2.2, List.append_nil]; exact h.said, h.same⟩
theorem Kept.root {X : Ctx} {m : MS} {N : List Nd} {S : List Gft} {em : List Ev} (h : Kept X m N S em) : m.root = X.m0.root := congrArg Prod.fst h.both
theorem Kept.s {X : Ctx} {m : MS} {N : List Nd} {S : List Gft} {em : List Ev} (h : Kept X m N S em) : m.s = X.m0.s := congrArg (fun x => x.2.1) h.both
theorem Kept.rv {X : Ctx} {m : MS} {N : List Nd} {S : List Gft} {em : List Ev} (h : Kept X m N S em) : m.rv = X.m0.rv := congrArg (fun x => x.2.2) h.both
theorem Kept.to {X : Ctx} {m m' : MS} {N : List Nd} {S : List Gft} {em : List Ev} (h : Kept X m N S em) (hk : (m'.root, m'.s, m'.rv) = (m.root, m.s, m.rv) ∧ m'.room = m.room ∧ m'.told = m.told) : Kept X m' N S em :=
  ⟨hk.1.trans h.both, hk.2.1.trans h.room, hk.2.2.trans h.told, h.said, h.same⟩
/-- Something is told: it is kept where there is room. -/
theorem Kept.tell {X : Ctx} {m m' : MS} {N : List Nd} {S S' : List Gft} {em ev : List Ev} (h : Kept X m N S em) (x : Gft) (hev : sdg ev = [x]) (hk : (m'.root, m'.s, m'.rv) = (m.root, m.s, m.rv) ∧ m'.room = m.room ∧ m'.told = m.told + 1) (hS : S' = if m.told < m.room then S ++ [x] else S) : Kept X m' N S' (em ++ ev) :=
  ⟨hk.1.trans h.both, hk.2.1.trans h.room, by rw [hk.2.2, h.told, sdg_append, hev]; simp; omega, by
    rw [sdg_append, hev, ← List.append_assoc, hS, h.told, h.room]
    split
    · rename_i q
      rw [h.said, List.take_of_length_le (by omega), List.take_of_length_le (by rw [List.length_append, List.length_singleton]; omega)]
    · rename_i q
      exact h.said.trans (List.take_append_of_le_length (by omega)).symm, h.same⟩

/-- Where the rules' patterns lie that were called. -/
def Rooted (X : Ctx) (N : List Nd) (O : List Int) : Prop := O.length = X.RL.length ∧ ∀ (r : Nat) (z : Int), O[r]? = some z → z = -1 ∨ ∃ q R, z = ((q : Nat) : Int) ∧ X.RL[r]? = some R ∧ Lies X.rn N R.2 q
theorem Rooted.mono {X : Ctx} {N N' : List Nd} {O : List Int} (sm : Same N N') (h : Rooted X N O) : Rooted X N' O := ⟨h.1, fun r z hz => by
  rcases h.2 r z hz with q | ⟨q, R, h1, h2, h3⟩
  · exact .inl q
  · exact .inr ⟨q, R, h1, h2, Lies.mono sm h3⟩⟩
/-- How many are not laid yet. -/
def unl (O : List Int) : Nat := (O.filter fun z => decide (z < 0)).length
theorem unl_set : ∀ (O : List Int) (r : Nat) (z y : Int), O[r]? = some z → z < 0 → 0 ≤ y → unl (O.set r y) + 1 = unl O
  | [], _, _, _, h, _, _ => by simp at h
  | x :: O, 0, z, y, h, hz, hy => by
    have : x = z := by simpa using h
    subst this
    unfold unl
    rw [List.set_cons_zero, List.filter_cons, List.filter_cons, if_neg (by simpa using hy), if_pos (by simpa using hz), List.length_cons]
  | x :: O, r + 1, z, y, h, hz, hy => by
    have ih := unl_set O r z y (by simpa using h) hz hy
    unfold unl at ih ⊢
    rw [List.set_cons_succ, List.filter_cons, List.filter_cons]
    split
    · rw [List.length_cons, List.length_cons]; omega
    · exact ih
theorem same_length {w w' : World} {B B' g g' : Nat} {m m' : MS} {N N' : List Nd} {O O' : List Int} {W W' : List Wr} {C C' : List Cr} {G G' S S' : List Gft} (h : Rep w B g m N O W C G S) (h' : Rep w' B' g' m' N' O' W' C' G' S') (e : m'.nv = m.nv) : N'.length = N.length := by
  obtain ⟨a, c, h1, -, -⟩ := h.nodes.len
  obtain ⟨a', c', h2, -, -⟩ := h'.nodes.len
  rw [h1, h2] at e
  injection e

structure Cor (X : Ctx) (w : World) (m : MS) (N : List Nd) (O : List Int) (W : List Wr) (C : List Cr) (G S : List Gft) (cs : List Ch) (em : List Ev) : Prop where
  rep : Rep w X.B X.g m N O W C G S
  s : m.s = X.s
  fu : m.fuel = X.fuel
  big : X.fuel ≤ 100000
  ti : m.ticks ≤ X.fuel
  i : m.i ≤ X.s.size
  sz : X.s.size ≤ 65536
  sh : m.shut = false
  er : m.err = 0
  be : m.begun = true
  fr : Fr X.g X.m0 m X.w0 w
  chs : ChsS X.rn X.s.size N (3 * m.ticks) W G C cs
  dc : DeepC (X.fuel - m.ticks) cs
  nw : NoWay em
  tk : m.ticks = X.t0 + tks em
  wl : W.length ≤ 2 * m.ticks + 1
  gl : C.length + G.length ≤ 3 * m.ticks + 1
  kp : Kept X m N S em
  ns : NS w X.s N
  rc : RC X
  bel : Below X.Wd.heap.size X.Wd w
  ro : Rooted X N O
  nl : N.length + 4096 * unl O ≤ 300000
  pay : m.told + 300010 * frC cs ≤ 300010 * (2 * m.ticks + X.y + 1)
theorem Cor.stepA {X : Ctx} {w w' : World} {m m' : MS} {N N' : List Nd} {O O' : List Int} {W W' : List Wr} {C C' : List Cr} {G G' S S' : List Gft} {cs cs' : List Ch} {em : List Ev} (h : Cor X w m N O W C G S cs em) (ns : NS w' X.s N') (ev : List Ev) (r : Rep w' X.B X.g m' N' O' W' C' G' S') (f : Fr X.g m m' w w') (hs : m'.s = m.s) (hfu : m'.fuel = m.fuel) (hsh : m'.shut = m.shut) (her : m'.err = m.err) (hbe : m'.begun = m.begun) (hi : m'.i ≤ X.s.size) (hti : m'.ticks ≤ X.fuel) (htk : m'.ticks = m.ticks + tks ev) (hnw : NoWay ev)
    (hch : ChsS X.rn X.s.size N' (3 * m'.ticks) W' G' C' cs') (hdc : DeepC (X.fuel - m'.ticks) cs') (hwl : W'.length ≤ 2 * m'.ticks + 1) (hgl : C'.length + G'.length ≤ 3 * m'.ticks + 1) (hto : m'.told + 300010 * frC cs' ≤ 300010 * (2 * m'.ticks + X.y + 1)) (hkp : Kept X m' N' S' (em ++ ev)) (hro : Rooted X N' O') (hnl : N'.length + 4096 * unl O' ≤ 300000) : Cor X w' m' N' O' W' C' G' S' cs' (em ++ ev) :=
  ⟨r, hs.trans h.s, hfu.trans h.fu, h.big, hti, hi, h.sz, hsh.trans h.sh, her.trans h.er, hbe.trans h.be, h.fr.trans f, hch, hdc, h.nw.append hnw, by rw [htk, h.tk, tks_append]; omega, hwl, hgl, hkp, ns, h.rc, h.bel.trans ((Fr.below h.rep f).mono h.rc.low), hro, hnl, hto⟩
theorem Cor.step {X : Ctx} {w w' : World} {m m' : MS} {N : List Nd} {O : List Int} {W W' : List Wr} {C C' : List Cr} {G G' S : List Gft} {cs cs' : List Ch} {em : List Ev} (h : Cor X w m N O W C G S cs em) (ev : List Ev) (r : Rep w' X.B X.g m' N O W' C' G' S) (f : Fr X.g m m' w w') (hs : m'.s = m.s) (hfu : m'.fuel = m.fuel) (hsh : m'.shut = m.shut) (her : m'.err = m.err) (hbe : m'.begun = m.begun) (hi : m'.i ≤ X.s.size) (hti : m'.ticks ≤ X.fuel) (htk : m'.ticks = m.ticks + tks ev) (hnw : NoWay ev)
    (hch : ChsS X.rn X.s.size N (3 * m'.ticks) W' G' C' cs') (hdc : DeepC (X.fuel - m'.ticks) cs') (hwl : W'.length ≤ 2 * m'.ticks + 1) (hgl : C'.length + G'.length ≤ 3 * m'.ticks + 1) (hto : m'.told + 300010 * frC cs' ≤ 300010 * (2 * m'.ticks + X.y + 1)) (hkp : (m'.root, m'.s, m'.rv) = (m.root, m.s, m.rv) ∧ m'.room = m.room ∧ m'.told = m.told ∧ sdg ev = [] := by exact ⟨rfl, rfl, rfl, rfl⟩) : Cor X w' m' N O W' C' G' S cs' (em ++ ev) :=
  h.stepA (h.ns.fr h.rep f) ev r f hs hfu hsh her hbe hi hti htk hnw hch hdc hwl hgl hto (h.kp.step ev hkp) h.ro h.nl
theorem Cor.stepN {X : Ctx} {w w' : World} {m m' : MS} {N N' : List Nd} {O : List Int} {W W' : List Wr} {C C' : List Cr} {G G' S : List Gft} {cs cs' : List Ch} {em : List Ev} (h : Cor X w m N O W C G S cs em) (sm : Same N N') (ns : NS w' X.s N') (ev : List Ev) (r : Rep w' X.B X.g m' N' O W' C' G' S) (f : Fr X.g m m' w w') (hs : m'.s = m.s) (hfu : m'.fuel = m.fuel) (hsh : m'.shut = m.shut) (her : m'.err = m.err) (hbe : m'.begun = m.begun) (hi : m'.i ≤ X.s.size) (hti : m'.ticks ≤ X.fuel) (htk : m'.ticks = m.ticks + tks ev) (hnw : NoWay ev)
    (hch : ChsS X.rn X.s.size N' (3 * m'.ticks) W' G' C' cs') (hdc : DeepC (X.fuel - m'.ticks) cs') (hwl : W'.length ≤ 2 * m'.ticks + 1) (hgl : C'.length + G'.length ≤ 3 * m'.ticks + 1) (hto : m'.told + 300010 * frC cs' ≤ 300010 * (2 * m'.ticks + X.y + 1)) (hkp : (m'.root, m'.s, m'.rv) = (m.root, m.s, m.rv) ∧ m'.room = m.room ∧ m'.told = m.told ∧ sdg ev = [] := by exact ⟨rfl, rfl, rfl, rfl⟩) (hnv : m'.nv = m.nv := by exact rfl) : Cor X w' m' N' O W' C' G' S cs' (em ++ ev) :=
  h.stepA ns ev r f hs hfu hsh her hbe hi hti htk hnw hch hdc hwl hgl hto ⟨(h.kp.step ev hkp).both, (h.kp.step ev hkp).room, (h.kp.step ev hkp).told, (h.kp.step ev hkp).said, h.kp.same.trans sm⟩ (h.ro.mono sm) (by rw [same_length h.rep r hnv]; exact h.nl)

def M0 (X : Ctx) (k : Nat) (w : World) : Prop := ∃ m N O W C G S cs em ch n T, Cor X w m N O W C G S cs em ∧ ChainS X.rn X.s.size N W m.b ch ∧ Lies X.rn N T m.node ∧ FineS T ∧ X.fuel - m.ticks + 1 ≤ n ∧ Deep (X.fuel - m.ticks) 0 m.i ch ∧ C.length + G.length + ch.length ≤ 3 * m.ticks + 1 ∧ X.D0 = pre em (dCome X.s X.R X.dg n T m.i G ch cs) ∧ (dCome X.s X.R X.dg n T m.i G ch cs).1.length = k
def M1 (X : Ctx) (k : Nat) (w : World) : Prop := ∃ m N O W C G S cs em ch, Cor X w m N O W C G S cs em ∧ ChainS X.rn X.s.size N W m.b ch ∧ Deep (X.fuel - m.ticks) 1 m.i ch ∧ W.length ≤ 2 * m.ticks ∧ C.length + G.length + ch.length ≤ 3 * m.ticks ∧ Paid m.told ch.length (frC cs) m.ticks X.y ch m.i ∧ X.D0 = pre em (dBehind X.s X.R X.dg m.i G ch cs) ∧ (dBehind X.s X.R X.dg m.i G ch cs).1.length = k
def M2 (X : Ctx) (k : Nat) (w : World) : Prop := ∃ m N O W C G S cs em, Cor X w m N O W C G S cs em ∧ W.length ≤ 2 * m.ticks ∧ C.length + G.length ≤ 3 * m.ticks ∧ m.told + 300010 * frC cs ≤ 300010 * (2 * m.ticks + X.y) ∧ X.D0 = pre em (dBack X.s X.R X.dg cs) ∧ (dBack X.s X.R X.dg cs).1.length = k
def MM (X : Ctx) (t k : Nat) (w : World) : Prop := if t = 0 then M0 X k w else if t = 1 then M1 X k w else M2 X k w
/-- How next ends. -/
def EE (X : Ctx) (ok : Bool) (w : World) : Prop :=
  if ok = true then ∃ m N O W C G S cs em, Cor X w m N O W C G S cs em ∧ W.length ≤ 2 * m.ticks ∧ C.length + G.length ≤ 3 * m.ticks ∧ X.D0 = pre em (put (wy m.i G) (dBack X.s X.R X.dg cs))
  else ∃ m N O W C G S em, Rep w X.B X.g m N O W C G S ∧ Fr X.g X.m0 m X.w0 w ∧ NoWay em ∧ m.ticks = X.t0 + tks em ∧ m.fuel = X.fuel ∧ m.ticks ≤ X.fuel ∧ Kept X m N S em ∧ NS w X.s N ∧ (Rooted X N O ∧ N.length + 4096 * unl O ≤ 300000 ∧ m.told ≤ 300010 * (2 * m.ticks + X.y + 1)) ∧
    ((m.err = 10 ∧ m.shut = false ∧ m.ticks = X.fuel ∧ ∃ q, X.D0 = pre em (put tk q)) ∨ (m.err = 7 ∧ m.shut = false ∧ X.D0 = (em, 2)) ∨ (m.err = 0 ∧ ∃ en, X.D0 = (em, en) ∧ ((en = 0 ∧ m.shut = false) ∨ (en = 1 ∧ m.shut = true))))

/-- What tell does, with room or without. -/
def Told (B g : Nat) (m : MS) (N : List Nd) (O : List Int) (W : List Wr) (C : List Cr) (G S : List Gft) (x : Gft) (w0 w : World) : Prop := ∃ v, Rep w B g { m with told := m.told + 1, sv := v } N O W C G (if m.told < m.room then S ++ [x] else S) ∧ Fr g m { m with told := m.told + 1, sv := v } w0 w
theorem tell_both {w : World} {B g : Nat} {m : MS} {N : List Nd} {O : List Int} {W : List Wr} {C : List Cr} {G S : List Gft} (h : Rep w B g m N O W C G S) (x : Gft) (hb : m.told < 1000000000000000000) (hS : S.length ≤ 100000000000) :
    Calls Tryd.prog 32 #[.pointer (some ⟨g, 0, none⟩), .string x.1, .string x.2] w fun e w' => e = .returned (.tuple #[]) ∧ Told B g m N O W C G S x w w' := by
  by_cases q : m.told < m.room
  · refine (tell_any h x.1 x.2 (by omega) hb hS).mono ?_
    rintro e w' ⟨rfl, v, r, f⟩
    exact ⟨rfl, v, by rw [if_pos q]; exact r, f⟩
  · refine (tell_over h x.1 x.2 (by omega) hb).mono ?_
    rintro e w' ⟨rfl, r, f⟩
    exact ⟨rfl, m.sv, by rw [if_neg q]; exact r, f⟩

theorem onl_le {s : ByteArray} {T : PT} {i e : Nat} (hi : i ≤ s.size) (ho : okS T.k T.t T.n T.len) (h : onl s T i = some e) : e ≤ s.size := by
  have hk := ho.1
  rcases (show T.k = 3 ∨ T.k = 4 ∨ T.k = 5 ∨ T.k = 6 ∨ T.k = 7 ∨ T.k = 1 ∨ T.k = 2 ∨ T.k = 8 ∨ T.k = 9 ∨ T.k = 10 ∨ T.k = 11 ∨ T.k = 12 ∨ 13 ≤ T.k by omega) with q | q | q | q | q | q | q | q | q | q | q | q | q
  · rw [show onl s T i = if i < s.size ∧ inB T.t (byt s i) = true then some (i + 1) else none by unfold onl; simp [q]] at h
    split at h
    · injection h with h; omega
    · cases h
  · rw [show onl s T i = if i < s.size ∧ inB T.t (byt s i) = false then some (i + 1) else none by unfold onl; simp [q]] at h
    split at h
    · injection h with h; omega
    · cases h
  · rw [show onl s T i = if i < unt s T.t false i then some (unt s T.t false i) else none by unfold onl; simp [q]] at h
    have := unt_le s T.t false _ i (Nat.le_refl _) hi
    split at h
    · injection h with h; omega
    · cases h
  · rw [show onl s T i = if unt s T.t true i < s.size then some (unt s T.t true i) else none by unfold onl; simp [q]] at h
    have := unt_le s T.t true _ i (Nat.le_refl _) hi
    split at h
    · injection h with h; omega
    · cases h
  · rw [show onl s T i = none by unfold onl; simp [q]] at h
    cases h
  · rw [show onl s T i = if sub s i (i + T.t.size) = T.t then some (i + T.t.size) else none by unfold onl; simp [q]] at h
    split at h
    · rename_i h1
      have := congrArg ByteArray.size h1
      rw [sub_size] at this
      injection h with h
      omega
    · cases h
  · rw [show onl s T i = if i + T.n.toNat ≤ s.size then some (i + T.n.toNat) else none by unfold onl; simp [q]] at h
    split at h
    · injection h with h; omega
    · cases h
  · rw [show onl s T i = if i ≤ T.n.toNat ∧ T.n.toNat ≤ s.size then some T.n.toNat else none by unfold onl; simp [q]] at h
    split at h
    · injection h with h; omega
    · cases h
  · rw [show onl s T i = if i + T.n.toNat ≤ s.size then some (s.size - T.n.toNat) else none by unfold onl; simp [q]] at h
    split at h
    · injection h with h; omega
    · cases h
  · rw [show onl s T i = if i = T.n.toNat then some i else none by unfold onl; simp [q]] at h
    split at h
    · injection h with h; omega
    · cases h
  · rw [show onl s T i = if i + T.n.toNat = s.size then some i else none by unfold onl; simp [q]] at h
    split at h
    · injection h with h; omega
    · cases h
  · rw [show onl s T i = some s.size by unfold onl; simp [q]] at h
    injection h with h; omega
  · unfold onl at h
    rw [if_neg (by omega), if_neg (by omega), if_neg (by omega), if_neg (by omega), if_neg (by omega), if_neg (by omega), if_neg (by omega), if_neg (by omega), if_neg (by omega), if_neg (by omega), if_neg (by omega)] at h
    cases h

theorem onl_ge {s : ByteArray} {T : PT} {i e : Nat} (hi : i ≤ s.size) (ho : okS T.k T.t T.n T.len) (h : onl s T i = some e) : i ≤ e := by
  have hk := ho.1
  rcases (show T.k = 3 ∨ T.k = 4 ∨ T.k = 5 ∨ T.k = 6 ∨ T.k = 7 ∨ T.k = 1 ∨ T.k = 2 ∨ T.k = 8 ∨ T.k = 9 ∨ T.k = 10 ∨ T.k = 11 ∨ T.k = 12 ∨ 13 ≤ T.k by omega) with q | q | q | q | q | q | q | q | q | q | q | q | q
  · rw [show onl s T i = if i < s.size ∧ inB T.t (byt s i) = true then some (i + 1) else none by unfold onl; simp [q]] at h
    split at h
    · injection h with h; omega
    · cases h
  · rw [show onl s T i = if i < s.size ∧ inB T.t (byt s i) = false then some (i + 1) else none by unfold onl; simp [q]] at h
    split at h
    · injection h with h; omega
    · cases h
  · rw [show onl s T i = if i < unt s T.t false i then some (unt s T.t false i) else none by unfold onl; simp [q]] at h
    have := unt_ge s T.t false _ i (Nat.le_refl _)
    split at h
    · injection h with h; omega
    · cases h
  · rw [show onl s T i = if unt s T.t true i < s.size then some (unt s T.t true i) else none by unfold onl; simp [q]] at h
    have := unt_ge s T.t true _ i (Nat.le_refl _)
    split at h
    · injection h with h; omega
    · cases h
  · rw [show onl s T i = none by unfold onl; simp [q]] at h
    cases h
  · rw [show onl s T i = if sub s i (i + T.t.size) = T.t then some (i + T.t.size) else none by unfold onl; simp [q]] at h
    split at h
    · rename_i h1
      have := congrArg ByteArray.size h1
      rw [sub_size] at this
      injection h with h
      omega
    · cases h
  · rw [show onl s T i = if i + T.n.toNat ≤ s.size then some (i + T.n.toNat) else none by unfold onl; simp [q]] at h
    split at h
    · injection h with h; omega
    · cases h
  · rw [show onl s T i = if i ≤ T.n.toNat ∧ T.n.toNat ≤ s.size then some T.n.toNat else none by unfold onl; simp [q]] at h
    split at h
    · injection h with h; omega
    · cases h
  · rw [show onl s T i = if i + T.n.toNat ≤ s.size then some (s.size - T.n.toNat) else none by unfold onl; simp [q]] at h
    split at h
    · injection h with h; omega
    · cases h
  · rw [show onl s T i = if i = T.n.toNat then some i else none by unfold onl; simp [q]] at h
    split at h
    · injection h with h; omega
    · cases h
  · rw [show onl s T i = if i + T.n.toNat = s.size then some i else none by unfold onl; simp [q]] at h
    split at h
    · injection h with h; omega
    · cases h
  · rw [show onl s T i = some s.size by unfold onl; simp [q]] at h
    injection h with h; omega
  · unfold onl at h
    rw [if_neg (by omega), if_neg (by omega), if_neg (by omega), if_neg (by omega), if_neg (by omega), if_neg (by omega), if_neg (by omega), if_neg (by omega), if_neg (by omega), if_neg (by omega), if_neg (by omega)] at h
    cases h

theorem deepC_cons {f : Nat} {c : Ch} {cs : List Ch} (h1 : f + 1 ≤ c.n) (h2 : c.T.k = 20 → f ≤ c.m) (h3 : Deep f 1 c.i c.ch) (h : DeepC f cs) : DeepC f (c :: cs) := fun d hd => by
  rcases List.mem_cons.1 hd with rfl | hd
  · exact ⟨h1, h2, h3⟩
  · exact h d hd
theorem deep_cons {f d i : Nat} {k : Wk} {ch : List Wk} (h1 : f + 1 ≤ k.n) (h2 : k.T.k = 20 → f + d ≤ k.m) (h3 : k.i ≤ i) (h : Deep f d i ch) : Deep f d i (k :: ch) := fun j hj => by
  rcases List.mem_cons.1 hj with rfl | hj
  · exact ⟨h1, h2, h3⟩
  · exact h j hj

theorem only_fine {g gn o : Nat} {s : ByteArray} {T : PT} {x : Nd} {i : Nat} (h1 : x.k = T.k) (h2 : x.t = T.t) (h3 : x.n = T.n) (ho : okS T.k T.t T.n T.len) (hl : leafK T.k) (hno : ¬ (3 ≤ T.k ∧ T.k ≤ 6)) (hs : s.size ≤ 65536) (hi : i ≤ s.size) (w1 : World) (c0 : w1.cell? ⟨g, 0, none⟩ = some (.string s)) (hc : ∀ k u, (ndV x)[k]? = some u → w1.cell? ⟨gn, o + k, none⟩ = some u) :
    Calls Tryd.prog 34 #[.pointer (some ⟨g, 0, none⟩), .pointer (some ⟨gn, o, none⟩), .int .i64 (i : Int)] w1 fun e w' => OnlPost s T i w1 e w' := by
  have k0 : w1.cell? ⟨gn, o, none⟩ = some (.int .i64 T.k) := by rw [← h1]; exact hc 0 _ rfl
  have k1 : w1.cell? ⟨gn, o + 1, none⟩ = some (.string T.t) := by rw [← h2]; exact hc 1 _ rfl
  have k2 : w1.cell? ⟨gn, o + 2, none⟩ = some (.int .i64 T.n) := by rw [← h3]; exact hc 2 _ rfl
  obtain ⟨l17, l16, l20, l19, l13, l7, l14, l18, l21, l22, l24, l23⟩ := hl
  obtain ⟨a, b, c, _⟩ := ho
  rcases (show T.k = 1 ∨ T.k = 2 ∨ T.k = 8 ∨ T.k = 9 ∨ T.k = 10 ∨ T.k = 11 ∨ T.k = 12 ∨ T.k = 15 by omega) with h | h | h | h | h | h | h | h
  · exact only_lit c0 k0 k1 hs hi h (b (.inl h))
  · exact only_len c0 k0 k2 hs hi h (c (by omega))
  · exact only_tab c0 k0 k2 hs hi h (c (by omega))
  · exact only_rtab c0 k0 k2 hs hi h (c (by omega))
  · exact only_pos c0 k0 k2 hs hi h (c (by omega))
  · exact only_rpos c0 k0 k2 hs hi h (c (by omega))
  · exact only_rem c0 k0 hs hi h
  · exact only_fail c0 k0 hs hi h

theorem sim_come (X : Ctx) (k : Nat) (w : World) (h : M0 X k w) : Calls Tryd.prog 20 #[.pointer (some ⟨X.g, 0, none⟩)] w fun e w' => Turns (MM X) (EE X) k e w' := by
  obtain ⟨m, N, O, W, C, G, S, cs, em, ch, n, T, hc, hch, hl, hF, hn, hd, hlen, hD, rfl⟩ := h
  obtain ⟨x, hx, e1, e2, e3, e4, e5, e6, e7, hk⟩ := hl.node
  have ho := hF.ok
  have hti := hc.ti
  have hfu := hc.fu
  have hbig := hc.big
  have hwl := hc.wl
  have hgl := hc.gl
  by_cases hf : m.ticks = X.fuel
  · obtain ⟨n', rfl⟩ : ∃ n', n = n' + 1 := ⟨n - 1, by omega⟩
    refine (come_fuel hc.rep (hf.trans hfu.symm)).mono ?_
    rintro e w' ⟨rfl, r, f⟩
    obtain ⟨q, hq⟩ : ∃ q, dCome X.s X.R X.dg (n' + 1) T m.i G ch cs = put tk q := by
      obtain ⟨q, hq⟩ := D_tk X.s X.R X.dg n' T m.i G
      exact ⟨_, by unfold dCome; rw [hq, bd_tk, thn_put]⟩
    refine .inr ⟨rfl, ?_⟩
    unfold EE
    rw [if_neg (by decide)]
    exact ⟨_, N, O, W, C, G, S, em, r, hc.fr.trans f, hc.nw, hc.tk, hfu, hc.ti, hc.kp.to ⟨rfl, rfl, rfl⟩, hc.ns.fr hc.rep f, ⟨hc.ro, hc.nl, by have := hc.pay; show m.told ≤ 300010 * (2 * m.ticks + X.y + 1); omega⟩, .inl ⟨rfl, hc.sh, hf, q, by rw [hD, hq]⟩⟩
  · obtain ⟨n', rfl⟩ : ∃ n', n = n' + 2 := ⟨n - 2, by omega⟩
    have htf : m.ticks < m.fuel := by omega
    have hfu2 : m.fuel ≤ 100000 := by omega
    have hC : C.length ≤ 1000000 := by omega
    have hchs1 : ChsS X.rn X.s.size N (3 * (m.ticks + 1)) W G C cs := hc.chs.more (by omega)
    have hdc1 : DeepC (X.fuel - (m.ticks + 1)) cs := hc.dc.less (by omega)
    have hd1 : Deep (X.fuel - (m.ticks + 1)) 1 m.i ch := hd.less (by omega) (by omega) (Nat.le_refl _)
    have htk1 : tks [tk] = 1 := rfl
    have hnt : NoWay [tk] := noWay_one (by decide)
    have hpay := hc.pay
    have hcl : ch.length ≤ 300010 := by omega
    rcases (show (leafK T.k ∧ (3 ≤ T.k ∧ T.k ≤ 6)) ∨ (leafK T.k ∧ ¬ (3 ≤ T.k ∧ T.k ≤ 6)) ∨ (T.k = 20 ∨ T.k = 16) ∨ T.k = 19 ∨ (T.k = 13 ∨ T.k = 14 ∨ T.k = 7) ∨ (T.k = 18 ∨ T.k = 21 ∨ T.k = 22) ∨ T.k = 17 ∨ T.k = 23 ∨ T.k = 24 by unfold leafK; have := ho.1; omega) with ⟨q, q36⟩ | ⟨q, qno⟩ | q | q | q | q | q | q | q
    · have hns : NS w m.s N := by rw [hc.s]; exact hc.ns
      have hms : m.s.size ≤ 65536 := by rw [hc.s]; exact hc.sz
      have hmi : m.i ≤ m.s.size := by rw [hc.s]; exact hc.i
      have htl := ho.2.1 (by omega)
      refine (come_set (T := T) hc.rep hx htf hfu2 (by rw [e1]; exact q) hns (fun gn cap w1 r1 hnv1 ns1 => by
        rcases (show T.k = 3 ∨ T.k = 4 ∨ T.k = 5 ∨ T.k = 6 by omega) with z | z | z | z
        · exact only_any r1 hnv1 hx e1 e2 z ns1 htl hms hmi
        · exact only_notany r1 hnv1 hx e1 e2 z ns1 htl hms hmi
        · exact only_span r1 hnv1 hx e1 e2 z ns1 htl hms hmi
        · exact only_break r1 hnv1 hx e1 e2 z ns1 htl hms hmi)).mono ?_
      rintro e w' ⟨N', sm, ns', (⟨a, rfl, ha, r, f⟩ | ⟨rfl, ha, r, f⟩)⟩
      · rw [hc.s] at ha ns'
        have hst := come_leaf (R := X.R) (dg := X.dg) (n := n' + 1) (g := G) (ch := ch) (cs := cs) q ha
        refine .inl ⟨1, _, rfl, by omega, ?_, ⟨_, N', O, W, C, G, S, cs, em ++ [tk], ch, hc.stepN (hto := by exact pay_same hpay) sm ns' [tk] r f rfl rfl rfl rfl rfl (onl_le hc.i ho ha) (by show m.ticks + 1 ≤ _; omega) (by show m.ticks + 1 = _; rw [htk1]) hnt (hchs1.mono sm) hdc1 (by show _ ≤ 2 * (m.ticks + 1) + 1; omega) (by show _ ≤ 3 * (m.ticks + 1) + 1; omega), hch.mono sm, hd1.less (Nat.le_refl _) (Nat.le_refl _) (onl_ge hc.i ho ha), by show _ ≤ 2 * (m.ticks + 1); omega, by show _ ≤ 3 * (m.ticks + 1); omega, by exact pay1_same hcl hpay, ?_, rfl⟩⟩
        · rw [hst]; exact Nat.lt_succ_self _
        · rw [hD, hst, pre_put]
      · rw [hc.s] at ha ns'
        have hst := come_leaf_no (R := X.R) (dg := X.dg) (n := n' + 1) (g := G) (ch := ch) (cs := cs) q ha
        refine .inl ⟨2, _, rfl, by omega, ?_, ⟨_, N', O, W, C, G, S, cs, em ++ [tk], hc.stepN (hto := by exact pay_same hpay) sm ns' [tk] r f rfl rfl rfl rfl rfl hc.i (by show m.ticks + 1 ≤ _; omega) (by show m.ticks + 1 = _; rw [htk1]) hnt (hchs1.mono sm) hdc1 (by show _ ≤ 2 * (m.ticks + 1) + 1; omega) (by show _ ≤ 3 * (m.ticks + 1) + 1; omega), by show _ ≤ 2 * (m.ticks + 1); omega, by show _ ≤ 3 * (m.ticks + 1); omega, by exact pay_same2 hpay, ?_, rfl⟩⟩
        · rw [hst]; exact Nat.lt_succ_self _
        · rw [hD, hst, pre_put]
    · refine (come_one (T := T) hc.rep hx htf hfu2 (by rw [e1]; exact q) (fun gn w1 c0 hcl => by rw [hc.s] at c0 ⊢; exact only_fine e1 e2 e3 ho q qno hc.sz hc.i w1 c0 hcl)).mono ?_
      rintro e w' (⟨a, rfl, ha, r, f⟩ | ⟨rfl, ha, r, f⟩)
      · rw [hc.s] at ha
        have hst := come_leaf (R := X.R) (dg := X.dg) (n := n' + 1) (g := G) (ch := ch) (cs := cs) q ha
        refine .inl ⟨1, _, rfl, by omega, ?_, ⟨_, N, O, W, C, G, S, cs, em ++ [tk], ch, hc.step (hto := by exact pay_same hpay) [tk] r f rfl rfl rfl rfl rfl (onl_le hc.i ho ha) (by show m.ticks + 1 ≤ _; omega) (by show m.ticks + 1 = _; rw [htk1]) hnt hchs1 hdc1 (by show _ ≤ 2 * (m.ticks + 1) + 1; omega) (by show _ ≤ 3 * (m.ticks + 1) + 1; omega), hch, hd1.less (Nat.le_refl _) (Nat.le_refl _) (onl_ge hc.i ho ha), by show _ ≤ 2 * (m.ticks + 1); omega, by show _ ≤ 3 * (m.ticks + 1); omega, by exact pay1_same hcl hpay, ?_, rfl⟩⟩
        · rw [hst]; exact Nat.lt_succ_self _
        · rw [hD, hst, pre_put]
      · rw [hc.s] at ha
        have hst := come_leaf_no (R := X.R) (dg := X.dg) (n := n' + 1) (g := G) (ch := ch) (cs := cs) q ha
        refine .inl ⟨2, _, rfl, by omega, ?_, ⟨_, N, O, W, C, G, S, cs, em ++ [tk], hc.step (hto := by exact pay_same hpay) [tk] r f rfl rfl rfl rfl rfl hc.i (by show m.ticks + 1 ≤ _; omega) (by show m.ticks + 1 = _; rw [htk1]) hnt hchs1 hdc1 (by show _ ≤ 2 * (m.ticks + 1) + 1; omega) (by show _ ≤ 3 * (m.ticks + 1) + 1; omega), by show _ ≤ 2 * (m.ticks + 1); omega, by show _ ≤ 3 * (m.ticks + 1); omega, by exact pay_same2 hpay, ?_, rfl⟩⟩
        · rw [hst]; exact Nat.lt_succ_self _
        · rw [hD, hst, pre_put]
    · refine (come_stay hc.rep hx htf hfu2 (by rw [e1]; exact q) hC).mono ?_
      rintro e w' ⟨rfl, v, r, f⟩
      have hst : dCome X.s X.R X.dg (n' + 2) T m.i G ch cs = put tk (dBehind X.s X.R X.dg m.i G ch (⟨n' + 1, n', T, 0, m.i, ch, G⟩ :: cs)) := by
        rcases q with q | q
        · exact come_arbno q
        · exact come_fence q n'
      have hnew : ChsS X.rn X.s.size N (3 * (m.ticks + 1)) W G (C ++ [⟨m.node, -1, m.i, m.b, W.length, G.length⟩]) (⟨n' + 1, n', T, 0, m.i, ch, G⟩ :: cs) :=
        ⟨C, _, rfl, hl, hF, by show T.k = 16 ∨ T.k = 19 ∨ T.k = 20 ∨ T.k = 13 ∨ T.k = 14 ∨ T.k = 7; omega, rfl, hc.i, Nat.le_refl _, Nat.le_refl _, take_all G, fun z => by have : T.k = 19 := z; omega, fun z => by have : T.k = 13 := z; omega, fun z => by have : T.k = 14 ∨ T.k = 7 := z; omega, by show (C ++ [_]).length + G.length + ch.length ≤ _; rw [List.length_append, List.length_singleton]; omega, by show ChainS _ _ _ (W.take W.length) _ _; rw [take_all]; exact hch, by show ChsS _ _ _ _ (W.take W.length) (G.take G.length) _ _; rw [take_all, take_all]; exact hchs1⟩
      have hdn : DeepC (X.fuel - (m.ticks + 1)) (⟨n' + 1, n', T, 0, m.i, ch, G⟩ :: cs) := deepC_cons (by show _ ≤ n' + 1; omega) (fun _ => by show _ ≤ n'; omega) hd1 hdc1
      refine .inl ⟨1, _, rfl, by omega, ?_, ⟨_, N, O, W, _, G, S, _, em ++ [tk], ch, hc.step (hto := by exact pay_new _ hpay) [tk] r f rfl rfl rfl rfl rfl hc.i (by show m.ticks + 1 ≤ _; omega) (by show m.ticks + 1 = _; rw [htk1]) hnt hnew hdn (by show _ ≤ 2 * (m.ticks + 1) + 1; omega) (by show _ ≤ 3 * (m.ticks + 1) + 1; rw [List.length_append, List.length_singleton]; omega), hch, hd1, by show _ ≤ 2 * (m.ticks + 1); omega, by show _ ≤ 3 * (m.ticks + 1); rw [List.length_append, List.length_singleton]; omega, by exact pay1_skip _ (by show ¬ (T.k = 13 ∨ T.k = 14 ∨ T.k = 7); omega) hcl hpay, ?_, rfl⟩⟩
      · rw [hst]; exact Nat.lt_succ_self _
      · rw [hD, hst, pre_put]
    · refine (come_altW hc.rep hx htf hfu2 (by rw [e1]; exact q) hC).mono ?_
      rintro e w' ⟨rfl, v, r, f⟩
      have hst := come_alt (s := X.s) (R := X.R) (dg := X.dg) (n := n' + 1) (i := m.i) (g := G) (ch := ch) (cs := cs) q
      have h2 := ho.2.2.2.1 (by omega)
      have hnew : ChsS X.rn X.s.size N (3 * (m.ticks + 1)) W G (C ++ [⟨m.node, (x.fi : Int), m.i, m.b, W.length, G.length⟩]) (⟨n' + 1, 0, T, 0, m.i, ch, G⟩ :: cs) :=
        ⟨C, _, rfl, hl, hF, by show T.k = 16 ∨ T.k = 19 ∨ T.k = 20 ∨ T.k = 13 ∨ T.k = 14 ∨ T.k = 7; omega, rfl, hc.i, Nat.le_refl _, Nat.le_refl _, take_all G, fun _ => ⟨x, hx, rfl, by show 0 < T.len; omega⟩, fun z => by have : T.k = 13 := z; omega, fun z => by have : T.k = 14 ∨ T.k = 7 := z; omega, by show (C ++ [_]).length + G.length + ch.length ≤ _; rw [List.length_append, List.length_singleton]; omega, by show ChainS _ _ _ (W.take W.length) _ _; rw [take_all]; exact hch, by show ChsS _ _ _ _ (W.take W.length) (G.take G.length) _ _; rw [take_all, take_all]; exact hchs1⟩
      have hdn : DeepC (X.fuel - (m.ticks + 1)) (⟨n' + 1, 0, T, 0, m.i, ch, G⟩ :: cs) := deepC_cons (by show _ ≤ n' + 1; omega) (fun z => by have : T.k = 20 := z; omega) hd1 hdc1
      refine .inl ⟨2, _, rfl, by omega, ?_, ⟨_, N, O, W, _, G, S, _, em ++ [tk], hc.step (hto := by exact pay_new _ hpay) [tk] r f rfl rfl rfl rfl rfl hc.i (by show m.ticks + 1 ≤ _; omega) (by show m.ticks + 1 = _; rw [htk1]) hnt hnew hdn (by show _ ≤ 2 * (m.ticks + 1) + 1; omega) (by show _ ≤ 3 * (m.ticks + 1) + 1; rw [List.length_append, List.length_singleton]; omega), by show _ ≤ 2 * (m.ticks + 1); omega, by show _ ≤ 3 * (m.ticks + 1); rw [List.length_append, List.length_singleton]; omega, by exact pay_new2 _ hpay, ?_, rfl⟩⟩
      · rw [hst]; exact Nat.lt_succ_self _
      · rw [hD, hst, pre_put]
    · refine (come_many hc.rep hx htf hfu2 (by rw [e1]; omega) hC).mono ?_
      rintro e w' ⟨rfl, v, r, f⟩
      have hst : dCome X.s X.R X.dg (n' + 2) T m.i G ch cs = put tk (dBack X.s X.R X.dg (⟨n' + 1, 0, T, m.i, m.i, ch, G⟩ :: cs)) := by
        rcases q with q | q | q
        · exact come_arb q
        · exact come_bal q
        · exact come_breakx q
      have hnew : ChsS X.rn X.s.size N (3 * (m.ticks + 1)) W G (C ++ [⟨m.node, (m.i : Int), m.i, m.b, W.length, G.length⟩]) (⟨n' + 1, 0, T, m.i, m.i, ch, G⟩ :: cs) :=
        ⟨C, _, rfl, hl, hF, by show T.k = 16 ∨ T.k = 19 ∨ T.k = 20 ∨ T.k = 13 ∨ T.k = 14 ∨ T.k = 7; omega, rfl, hc.i, Nat.le_refl _, Nat.le_refl _, take_all G, fun z => by have : T.k = 19 := z; omega, fun _ => ⟨rfl, by have := hc.i; show m.i ≤ _; omega, Nat.le_refl _⟩, fun _ => ⟨rfl, hc.i, Nat.le_refl _⟩, by show (C ++ [_]).length + G.length + ch.length ≤ _; rw [List.length_append, List.length_singleton]; omega, by show ChainS _ _ _ (W.take W.length) _ _; rw [take_all]; exact hch, by show ChsS _ _ _ _ (W.take W.length) (G.take G.length) _ _; rw [take_all, take_all]; exact hchs1⟩
      have hdn : DeepC (X.fuel - (m.ticks + 1)) (⟨n' + 1, 0, T, m.i, m.i, ch, G⟩ :: cs) := deepC_cons (by show _ ≤ n' + 1; omega) (fun z => by have : T.k = 20 := z; omega) hd1 hdc1
      refine .inl ⟨2, _, rfl, by omega, ?_, ⟨_, N, O, W, _, G, S, _, em ++ [tk], hc.step (hto := by exact pay_new _ hpay) [tk] r f rfl rfl rfl rfl rfl hc.i (by show m.ticks + 1 ≤ _; omega) (by show m.ticks + 1 = _; rw [htk1]) hnt hnew hdn (by show _ ≤ 2 * (m.ticks + 1) + 1; omega) (by show _ ≤ 3 * (m.ticks + 1) + 1; rw [List.length_append, List.length_singleton]; omega), by show _ ≤ 2 * (m.ticks + 1); omega, by show _ ≤ 3 * (m.ticks + 1); rw [List.length_append, List.length_singleton]; omega, by exact pay_new2 _ hpay, ?_, rfl⟩⟩
      · rw [hst]; exact Nat.lt_succ_self _
      · rw [hD, hst, pre_put]
    · have hl1 : 1 ≤ T.len := by
        rcases q with q | q
        · have := ho.2.2.2.1 (by omega); omega
        · have := ho.2.2.2.2 (by omega); omega
      refine (come_kid hc.rep hx htf hfu2 (by rw [e1]; omega) (by
        rcases q with q | q
        · have := ho.2.2.2.1 (by omega)
          right; omega
        · left; omega) (by omega) (by omega)).mono ?_
      rintro e w' ⟨rfl, v, r, f⟩
      have hst : dCome X.s X.R X.dg (n' + 2) T m.i G ch cs = put tk (dCome X.s X.R X.dg (n' + 1) (T.kid 0) m.i G (⟨n' + 1, 0, T, 0, m.i⟩ :: ch) cs) := by
        rcases q with q | q | q
        · exact come_cat q (ho.2.2.2.1 (by omega))
        · exact come_cond q
        · exact come_imm q
      have hnew : ChainS X.rn X.s.size N (W ++ [⟨m.node, x.fi, m.i, m.b⟩]) (W.length : Int) (⟨n' + 1, 0, T, 0, m.i⟩ :: ch) :=
        ⟨W.length, ⟨m.node, x.fi, m.i, m.b⟩, rfl, by simp, hl, hF, by show T.k = 18 ∨ T.k = 20 ∨ T.k = 21 ∨ T.k = 22; omega, rfl, hc.i, fun z => ⟨x, hx, rfl, by have z : T.k = 18 := z; have := ho.2.2.2.1 (by omega); show 0 + 1 < T.len; omega⟩, by rw [List.take_left]; exact hch⟩
      have hdn : Deep (X.fuel - (m.ticks + 1)) 0 m.i (⟨n' + 1, 0, T, 0, m.i⟩ :: ch) := deep_cons (by show _ ≤ n' + 1; omega) (fun z => by have : T.k = 20 := z; omega) (Nat.le_refl _) (hd1.less (Nat.le_refl _) (by omega) (Nat.le_refl _))
      refine .inl ⟨0, _, rfl, by omega, ?_, ⟨_, N, O, _, C, G, S, cs, em ++ [tk], _, n' + 1, T.kid 0, hc.step (hto := by exact pay_same hpay) [tk] r f rfl rfl rfl rfl rfl hc.i (by show m.ticks + 1 ≤ _; omega) (by show m.ticks + 1 = _; rw [htk1]) hnt (hchs1.appendW _) hdc1 (by show _ ≤ 2 * (m.ticks + 1) + 1; rw [List.length_append, List.length_singleton]; omega) (by show _ ≤ 3 * (m.ticks + 1) + 1; omega), hnew, hk 0 (by omega), hF.kid (by omega), by show X.fuel - (m.ticks + 1) + 1 ≤ _; omega, hdn, by show _ ≤ 3 * (m.ticks + 1) + 1; rw [List.length_cons]; omega, ?_, rfl⟩⟩
      · rw [hst]; exact Nat.lt_succ_self _
      · rw [hD, hst, pre_put]
    · refine (come_abortW hc.rep hx htf hfu2 (by rw [e1]; exact q)).mono ?_
      rintro e w' ⟨rfl, r, f⟩
      have hst := come_abort (s := X.s) (R := X.R) (dg := X.dg) (n := n' + 1) (i := m.i) (g := G) (ch := ch) (cs := cs) q
      refine .inr ⟨rfl, ?_⟩
      unfold EE
      rw [if_neg (by decide)]
      exact ⟨_, N, O, W, C, G, S, em ++ [tk], r, hc.fr.trans f, hc.nw.append hnt, by show m.ticks + 1 = _; rw [tks_append, htk1, hc.tk]; omega, hfu, (by show m.ticks + 1 ≤ _; omega), hc.kp.step [tk] ⟨rfl, rfl, rfl, rfl⟩, hc.ns.fr hc.rep f, ⟨hc.ro, hc.nl, by show m.told ≤ 300010 * (2 * (m.ticks + 1) + X.y + 1); omega⟩, .inr (.inr ⟨hc.er, 1, by rw [hD, hst]; rfl, .inr ⟨rfl, rfl⟩⟩)⟩
    · have hSl : S.length ≤ 100000000000 := by
        have h1 := congrArg List.length hc.kp.said
        rw [List.length_take] at h1
        have h2 := hc.rc.room
        omega
      have hcc := hc.i
      have hcz := hc.sz
      have hst := come_cursor (s := X.s) (R := X.R) (dg := X.dg) (n := n' + 1) (i := m.i) (g := G) (ch := ch) (cs := cs) q
      refine (come_cursorQ hc.rep hx htf hfu2 (by rw [e1]; exact q) (X.dg m.i) (fun w' => ∃ v, Rep w' X.B X.g { m with ticks := m.ticks + 1, told := m.told + 1, sv := v } N O W C G (if m.told < m.room then S ++ [(x.nm, X.dg m.i)] else S) ∧ Fr X.g m { m with ticks := m.ticks + 1, told := m.told + 1, sv := v } w w') (fun W0 f0 => hc.rc.ita m.i (by omega) W0 (hc.bel.trans ((Fr.below hc.rep f0).mono hc.rc.low))) (fun w1 r1 f1 => (tell_both r1 (x.nm, X.dg m.i) (by show m.told < _; have := hc.rc.yb; omega) hSl).mono ?_)).mono ?_
      · rintro e w' ⟨rfl, v, r, f⟩
        exact ⟨rfl, v, r, f1.trans f⟩
      · rintro e w' ⟨rfl, v, r, f⟩
        have hkp := hc.kp.tell (m' := { m with ticks := m.ticks + 1, told := m.told + 1, sv := v }) (ev := [tk, sd (x.nm, X.dg m.i)]) (x.nm, X.dg m.i) rfl ⟨rfl, rfl, rfl⟩ rfl
        have htk2 : tks [tk, sd (x.nm, X.dg m.i)] = 1 := rfl
        have hnt2 : NoWay [tk, sd (x.nm, X.dg m.i)] := NoWay.append (a := [tk]) hnt (noWay_one (x := sd (x.nm, X.dg m.i)) (by show (2 : Nat) ≠ 3; decide))
        rw [← e4 (.inr (.inr q))] at hst
        refine .inl ⟨1, _, rfl, by omega, ?_, ⟨_, N, O, W, C, G, _, cs, em ++ [tk, sd (x.nm, X.dg m.i)], ch, hc.stepA (hto := by show m.told + 1 + 300010 * frC cs ≤ 300010 * (2 * (m.ticks + 1) + X.y + 1); omega) (hc.ns.fr hc.rep f) _ r f rfl rfl rfl rfl rfl hc.i (by show m.ticks + 1 ≤ _; omega) (by show m.ticks + 1 = _; rw [htk2]) hnt2 hchs1 hdc1 (by show _ ≤ 2 * (m.ticks + 1) + 1; omega) (by show _ ≤ 3 * (m.ticks + 1) + 1; omega) hkp hc.ro hc.nl, hch, hd1, by show _ ≤ 2 * (m.ticks + 1); omega, by show _ ≤ 3 * (m.ticks + 1); omega, .inl (by show m.told + 1 + ch.length + 300010 * frC cs ≤ 300010 * (2 * (m.ticks + 1) + X.y); have := hlen; omega), ?_, rfl⟩⟩
        · rw [hst]; exact Nat.lt_succ_of_lt (Nat.lt_succ_self _)
        · rw [hD, hst, pre_put, pre_put, List.append_assoc]; rfl
    · have hrn := e5 q
      rw [hc.rc.rn] at hrn
      rcases ruleOf_at T.nm X.RL 0 with ⟨h1, h2⟩ | ⟨j, R, h1, h2, h3⟩
      · refine (come_noRule hc.rep hx htf hfu2 (by rw [e1]; exact q) (by rw [hrn]; exact h1)).mono ?_
        rintro e w' ⟨rfl, r, f⟩
        have hst := come_none (s := X.s) (R := X.R) (dg := X.dg) (n := n' + 1) (i := m.i) (g := G) (ch := ch) (cs := cs) q (by rw [hc.rc.R]; exact h2)
        refine .inr ⟨rfl, ?_⟩
        unfold EE
        rw [if_neg (by decide)]
        exact ⟨_, N, O, W, C, G, S, em ++ [tk], r, hc.fr.trans f, hc.nw.append hnt, by show m.ticks + 1 = _; rw [tks_append, htk1, hc.tk]; omega, hfu, (by show m.ticks + 1 ≤ _; omega), hc.kp.step [tk] ⟨rfl, rfl, rfl, rfl⟩, hc.ns.fr hc.rep f, ⟨hc.ro, hc.nl, by show m.told ≤ 300010 * (2 * (m.ticks + 1) + X.y + 1); omega⟩, .inr (.inl ⟨rfl, hc.sh, by rw [hD, hst]; rfl⟩)⟩
      · rw [Nat.zero_add] at h1
        rw [show (fun nm => ruleAt nm X.RL 0) T.nm = ruleAt T.nm X.RL 0 from rfl, h1] at hrn
        have hst := come_call (s := X.s) (R := X.R) (dg := X.dg) (n := n' + 1) (i := m.i) (g := G) (ch := ch) (cs := cs) q (by rw [hc.rc.R]; exact h3)
        obtain ⟨hFR, hNZ, hcnt⟩ := hc.rc.fine j R h2
        have hjl : j < X.RL.length := (List.getElem?_eq_some_iff.1 h2).1
        obtain ⟨z, hz⟩ : ∃ z, O[j]? = some z := ⟨_, List.getElem?_eq_getElem (by rw [hc.ro.1]; exact hjl)⟩
        have hdn : Deep (X.fuel - (m.ticks + 1)) 0 m.i ch := hd1.less (Nat.le_refl _) (by omega) (Nat.le_refl _)
        rcases hc.ro.2 j z hz with hm1 | ⟨y, R', hy, hR', hly⟩
        · obtain ⟨b, o, cr, hat, hrv⟩ := hc.rc.lie (fun e => by rw [e] at hjl; exact absurd hjl (Nat.not_lt_zero _))
          have hnl := hc.nl
          have hun := unl_set O j z (N.length : Int) hz (by omega) (by omega)
          refine (come_rule hc.rep hx htf hfu2 (by rw [e1]; exact q) 0 (fun w' => ∃ v N', Rep w' X.B X.g { m with ticks := m.ticks + 1, nv := v, node := N.length } N' (O.set j (N.length : Int)) W C G S ∧ Fr X.g m { m with ticks := m.ticks + 1, nv := v, node := N.length } w w' ∧ Lies (fun nm => ruleAt nm X.RL 0) N' R.2 N.length ∧ (∀ i, i < N.length → N'[i]? = N[i]?) ∧ N'.length = N.length + R.2.cnt ∧ NS w' X.s N') (fun w1 r1 f1 => by
            rw [hrn]
            refine (call_new r1 hz (by omega) hat (by have := hc.rc.len; omega) (by show m.rv = _; rw [hc.kp.rv]; exact hrv) h2 (hc.bel.trans ((Fr.below hc.rep f1).mono hc.rc.low)) hc.rc.low (by omega) hNZ).mono ?_
            rintro e w' ⟨rfl, v, N', r, f, l, o', n1, n2⟩
            have ns1 := hc.ns.fr hc.rep (f1.trans f)
            refine ⟨rfl, v, N', r, f1.trans f, l, o', n1, fun i y hy => ?_⟩
            rcases Nat.lt_or_ge i N.length with hi | hi
            · rw [o' i hi] at hy
              exact ns1 i y hy
            · have hfr : Fresh N.length N' := n2 (fun i y hA hy => by rw [List.getElem?_eq_none hA] at hy; cases hy)
              obtain ⟨g1, g2⟩ := hfr i y hi hy
              exact ⟨(fun b hb => by rw [g1] at hb; cases hb), (fun q => .inl (g2 (by omega))), (fun q => .inl (g2 (by omega)))⟩)).mono ?_
          rintro e w' ⟨rfl, v, N', r, f, hl', ho', hn', ns'⟩
          rw [← hc.rc.rn] at hl'
          have sm : Same N N' := fun i y hy => ⟨y, by rw [ho' i (List.getElem?_eq_some_iff.1 hy).1]; exact hy, rfl, rfl, rfl, rfl, rfl, rfl, rfl⟩
          have hro' : Rooted X N' (O.set j (N.length : Int)) := ⟨by rw [List.length_set]; exact hc.ro.1, fun r' z' hz' => by
            rw [List.getElem?_set] at hz'
            split at hz'
            · split at hz'
              · injection hz' with hz'
                rename_i hjr _
                subst hjr
                exact .inr ⟨N.length, R, hz'.symm, h2, hl'⟩
              · cases hz'
            · exact (hc.ro.mono sm).2 r' z' hz'⟩
          refine .inl ⟨0, _, rfl, by omega, ?_, ⟨_, N', _, W, C, G, S, cs, em ++ [tk], ch, n' + 1, R.2, hc.stepA (hto := by exact pay_same hpay) ns' [tk] r f rfl rfl rfl rfl rfl hc.i (by show m.ticks + 1 ≤ _; omega) (by show m.ticks + 1 = _; rw [htk1]) hnt (hchs1.mono sm) hdc1 (by show _ ≤ 2 * (m.ticks + 1) + 1; omega) (by show _ ≤ 3 * (m.ticks + 1) + 1; omega) ⟨(hc.kp.step [tk] ⟨rfl, rfl, rfl, rfl⟩).both, hc.kp.room, (hc.kp.step (m' := m) [tk] ⟨rfl, rfl, rfl, rfl⟩).told, (hc.kp.step (m' := m) [tk] ⟨rfl, rfl, rfl, rfl⟩).said, hc.kp.same.trans sm⟩ hro' (by omega), hch.mono sm, hl', hFR, by show X.fuel - (m.ticks + 1) + 1 ≤ _; omega, hdn, by show _ ≤ 3 * (m.ticks + 1) + 1; omega, ?_, rfl⟩⟩
          · rw [hst]; exact Nat.lt_succ_self _
          · rw [hD, hst, pre_put]
        · have : R' = R := Option.some.inj (hR'.symm.trans h2)
          subst this
          rw [hy] at hz
          refine (come_rule hc.rep hx htf hfu2 (by rw [e1]; exact q) 0 (fun w' => Rep w' X.B X.g { m with ticks := m.ticks + 1, node := y } N O W C G S ∧ Fr X.g m { m with ticks := m.ticks + 1, node := y } w w') (fun w1 r1 f1 => by
            rw [hrn]
            refine (call_old r1 hz).mono ?_
            rintro e w' ⟨rfl, r, f⟩
            exact ⟨rfl, r, f1.trans f⟩)).mono ?_
          rintro e w' ⟨rfl, r, f⟩
          refine .inl ⟨0, _, rfl, by omega, ?_, ⟨_, N, O, W, C, G, S, cs, em ++ [tk], ch, n' + 1, R'.2, hc.step (hto := by exact pay_same hpay) [tk] r f rfl rfl rfl rfl rfl hc.i (by show m.ticks + 1 ≤ _; omega) (by show m.ticks + 1 = _; rw [htk1]) hnt hchs1 hdc1 (by show _ ≤ 2 * (m.ticks + 1) + 1; omega) (by show _ ≤ 3 * (m.ticks + 1) + 1; omega), hch, hly, hFR, by show X.fuel - (m.ticks + 1) + 1 ≤ _; omega, hdn, by show _ ≤ 3 * (m.ticks + 1) + 1; omega, ?_, rfl⟩⟩
          · rw [hst]; exact Nat.lt_succ_self _
          · rw [hD, hst, pre_put]
end Go.Proofs.YtkggmodabpjobaaDoor

namespace Go.Proofs.YtkggmodabpjobaaDoor
open Go.RowKit

theorem sim_follow (X : Ctx) (k : Nat) (w : World) (h : M1 X k w) : (w.cell? ⟨X.g, 8, none⟩ = some (.int .i64 (-1)) ∧ EE X true w) ∨ ((∃ b : Nat, w.cell? ⟨X.g, 8, none⟩ = some (.int .i64 (b : Int))) ∧ Calls Tryd.prog 21 #[.pointer (some ⟨X.g, 0, none⟩)] w fun e w' => ∃ t k', e = .returned (.int .i64 ((t : Nat) : Int)) ∧ t ≤ 2 ∧ k' < k ∧ MM X t k' w') := by
  obtain ⟨m, N, O, W, C, G, S, cs, em, ch, hc, hch, hd, hwl, hlen, hp1, hD, rfl⟩ := h
  have hti := hc.ti
  have hbig := hc.big
  have hts : tks [hs] = 0 := rfl
  have hnt : NoWay [hs] := noWay_one (by decide)
  cases ch with
  | nil =>
    left
    have hb : m.b = -1 := hch
    refine ⟨by rw [hc.rep.c8, hb], ?_⟩
    unfold EE
    rw [if_pos rfl]
    exact ⟨m, N, O, W, C, G, S, cs, em, hc, hwl, by simp at hlen; omega, by rw [hD, behind_nothing]⟩
  | cons kk ks =>
    right
    obtain ⟨bi, r0, hb, hr, hl, hF, hkk, hri, hile, hcat, hchn⟩ := hch
    have hch2 : ChainS X.rn X.s.size N W r0.b ks := by
      have := hchn.append (W.drop bi)
      rwa [List.take_append_drop] at this
    obtain ⟨x, hx, e1, e2, e3, e4, e5, e6, e7, hk⟩ := hl.node
    have ho := hF.ok
    obtain ⟨dn, dm, di⟩ := hd kk List.mem_cons_self
    have hdk : Deep (X.fuel - m.ticks) 1 m.i ks := fun j hj => hd j (List.mem_cons_of_mem _ hj)
    have hdk0 : Deep (X.fuel - m.ticks) 0 m.i ks := hdk.less (Nat.le_refl _) (by omega) (Nat.le_refl _)
    rw [List.length_cons] at hlen hp1
    have hpay := hc.pay
    refine ⟨⟨bi, by rw [hc.rep.c8, hb]⟩, ?_⟩
    rcases hkk with q | q | q | q
    · obtain ⟨x', hx', hkid, hj⟩ := hcat q
      have : x' = x := Option.some.inj (hx'.symm.trans hx)
      subst this
      by_cases he : kk.j + 2 = kk.T.len
      · refine (follow_last hc.rep hb hr hx (by rw [e1]; exact q) (by omega) (by omega)).mono ?_
        rintro e w' ⟨rfl, r, f⟩
        have hst := behind_cat_last (s := X.s) (R := X.R) (dg := X.dg) (i := m.i) (g := G) (ch := ks) (cs := cs) q he
        refine ⟨0, _, rfl, by omega, ?_, ⟨_, N, O, W, C, G, S, cs, em ++ [hs], ks, kk.n, kk.T.kid (kk.j + 1), hc.step (hto := by exact hpay) [hs] r f rfl rfl rfl rfl rfl hc.i (by show m.ticks ≤ _; exact hti) (by show m.ticks = _; rw [hts]; rfl) hnt hc.chs hc.dc (by show _ ≤ 2 * m.ticks + 1; omega) (by show _ ≤ 3 * m.ticks + 1; omega), hch2, ?_, hF.kid (by omega), dn, hdk0, by show _ ≤ 3 * m.ticks + 1; omega, ?_, rfl⟩⟩
        · rw [hst]; exact Nat.lt_succ_self _
        · show Lies _ _ _ (r0.kid + 1)
          rw [hkid, Nat.add_assoc]
          exact hk (kk.j + 1) (by omega)
        · rw [hD, hst, pre_put]
      · refine (follow_cat hc.rep hb hr hx (by rw [e1]; exact q) (by omega) (by omega) (by omega)).mono ?_
        rintro e w' ⟨rfl, v, r, f⟩
        have hst := behind_cat (s := X.s) (R := X.R) (dg := X.dg) (i := m.i) (g := G) (ch := ks) (cs := cs) q (by omega)
        have hnew : ChainS X.rn X.s.size N (W ++ [⟨r0.node, r0.kid + 1, m.i, r0.b⟩]) (W.length : Int) (⟨kk.n, 0, kk.T, kk.j + 1, m.i⟩ :: ks) :=
          ⟨W.length, ⟨r0.node, r0.kid + 1, m.i, r0.b⟩, rfl, by simp, hl, hF, by show kk.T.k = 18 ∨ kk.T.k = 20 ∨ kk.T.k = 21 ∨ kk.T.k = 22; omega, rfl, hc.i, fun _ => ⟨x', hx, by show r0.kid + 1 = _; rw [hkid]; rfl, by show kk.j + 1 + 1 < kk.T.len; omega⟩, by rw [List.take_left]; exact hch2⟩
        refine ⟨0, _, rfl, by omega, ?_, ⟨_, N, O, _, C, G, S, cs, em ++ [hs], _, kk.n, kk.T.kid (kk.j + 1), hc.step (hto := by exact hpay) [hs] r f rfl rfl rfl rfl rfl hc.i (by show m.ticks ≤ _; exact hti) (by show m.ticks = _; rw [hts]; rfl) hnt (hc.chs.appendW _) hc.dc (by show _ ≤ 2 * m.ticks + 1; rw [List.length_append, List.length_singleton]; omega) (by show _ ≤ 3 * m.ticks + 1; omega), hnew, ?_, hF.kid (by omega), dn, deep_cons dn (fun z => by have : kk.T.k = 20 := z; omega) (Nat.le_refl _) hdk0, by show _ ≤ 3 * m.ticks + 1; rw [List.length_cons]; omega, ?_, rfl⟩⟩
        · rw [hst]; exact Nat.lt_succ_self _
        · show Lies _ _ _ (r0.kid + 1)
          rw [hkid, Nat.add_assoc]
          exact hk (kk.j + 1) (by omega)
        · rw [hD, hst, pre_put]
    · by_cases he : m.i = kk.i
      · refine (follow_same hc.rep hb hr hx (by rw [e1]; exact q) (by omega)).mono ?_
        rintro e w' ⟨rfl, r, f⟩
        have hst := behind_arbno_same (s := X.s) (R := X.R) (dg := X.dg) (g := G) (ch := ks) (cs := cs) q he
        refine ⟨2, _, rfl, by omega, ?_, ⟨_, N, O, W, C, G, S, cs, em ++ [hs], hc.step (hto := by exact hpay) [hs] r f rfl rfl rfl rfl rfl hc.i (by show m.ticks ≤ _; exact hti) (by show m.ticks = _; rw [hts]; rfl) hnt hc.chs hc.dc (by show _ ≤ 2 * m.ticks + 1; omega) (by show _ ≤ 3 * m.ticks + 1; omega), hwl, by show _ ≤ 3 * m.ticks; omega, by exact hp1.here he, ?_, rfl⟩⟩
        · rw [hst]; exact Nat.lt_succ_self _
        · rw [hD, hst, pre_put]
      · obtain ⟨m', hm'⟩ : ∃ m', kk.m = m' + 1 := ⟨kk.m - 1, by have := dm q; omega⟩
        refine (follow_arbno hc.rep hb hr hx (by rw [e1]; exact q) (by omega) (by omega)).mono ?_
        rintro e w' ⟨rfl, v, r, f⟩
        have hst := behind_arbno (s := X.s) (R := X.R) (dg := X.dg) (g := G) (ch := ks) (cs := cs) q he hm'
        have hnew : ChsS X.rn X.s.size N (3 * m.ticks) W G (C ++ [⟨r0.node, -1, m.i, r0.b, W.length, G.length⟩]) (⟨kk.n, m', kk.T, 0, m.i, ks, G⟩ :: cs) :=
          ⟨C, _, rfl, hl, hF, by show kk.T.k = 16 ∨ kk.T.k = 19 ∨ kk.T.k = 20 ∨ kk.T.k = 13 ∨ kk.T.k = 14 ∨ kk.T.k = 7; omega, rfl, hc.i, Nat.le_refl _, Nat.le_refl _, take_all G, fun z => by have : kk.T.k = 19 := z; omega, fun z => by have : kk.T.k = 13 := z; omega, fun z => by have : kk.T.k = 14 ∨ kk.T.k = 7 := z; omega, by show (C ++ [_]).length + G.length + ks.length ≤ _; rw [List.length_append, List.length_singleton]; omega, by show ChainS _ _ _ (W.take W.length) _ _; rw [take_all]; exact hch2, by show ChsS _ _ _ _ (W.take W.length) (G.take G.length) _ _; rw [take_all, take_all]; exact hc.chs⟩
        have hdn : DeepC (X.fuel - m.ticks) (⟨kk.n, m', kk.T, 0, m.i, ks, G⟩ :: cs) := deepC_cons dn (fun _ => by have := dm q; show _ ≤ m'; omega) hdk hc.dc
        refine ⟨1, _, rfl, by omega, ?_, ⟨_, N, O, W, _, G, S, _, em ++ [hs], ks, hc.step (hto := by show m.told + 300010 * frC (_ :: cs) ≤ 300010 * (2 * m.ticks + X.y + 1); rw [frC_cons, fr1_kind (by show ¬ (kk.T.k = 13 ∨ kk.T.k = 14 ∨ kk.T.k = 7); omega), Nat.zero_add]; exact hpay) [hs] r f rfl rfl rfl rfl rfl hc.i (by show m.ticks ≤ _; exact hti) (by show m.ticks = _; rw [hts]; rfl) hnt hnew hdn (by show _ ≤ 2 * m.ticks + 1; omega) (by show _ ≤ 3 * m.ticks + 1; rw [List.length_append, List.length_singleton]; omega), hch2, hdk, hwl, by show _ ≤ 3 * m.ticks; rw [List.length_append, List.length_singleton]; omega, by exact hp1.tailNew _ (by show ¬ (kk.T.k = 13 ∨ kk.T.k = 14 ∨ kk.T.k = 7); omega), ?_, rfl⟩⟩
        · rw [hst]; exact Nat.lt_succ_self _
        · rw [hD, hst, pre_put]
    · refine (follow_cond hc.rep hb hr hx (by rw [e1]; exact q) (by omega) (by rw [hc.s]; exact hc.i) (by rw [hc.s]; exact hc.sz) (by omega)).mono ?_
      rintro e w' ⟨rfl, v, r, f⟩
      have hgf : (x.nm, sub m.s r0.i m.i) = (kk.T.nm, sub X.s kk.i m.i) := by rw [e4 (.inl q), hri, hc.s]
      rw [hgf] at r
      have hst := behind_cond (s := X.s) (R := X.R) (dg := X.dg) (i := m.i) (g := G) (ch := ks) (cs := cs) q
      refine ⟨1, _, rfl, by omega, ?_, ⟨_, N, O, W, C, _, S, cs, em ++ [hs], ks, hc.step (hto := by exact hpay) [hs] r f rfl rfl rfl rfl rfl hc.i (by show m.ticks ≤ _; exact hti) (by show m.ticks = _; rw [hts]; rfl) hnt (hc.chs.appendG _) hc.dc (by show _ ≤ 2 * m.ticks + 1; omega) (by show _ ≤ 3 * m.ticks + 1; rw [List.length_append, List.length_singleton]; omega), hch2, hdk, hwl, by show _ ≤ 3 * m.ticks; rw [List.length_append, List.length_singleton]; omega, by exact hp1.tail, ?_, rfl⟩⟩
      · rw [hst]; exact Nat.lt_succ_self _
      · rw [hD, hst, pre_put]
    · have hSl : S.length ≤ 100000000000 := by
        have h1 := congrArg List.length hc.kp.said
        rw [List.length_take] at h1
        have h2 := hc.rc.room
        omega
      refine (follow_immQ hc.rep hb hr hx (by rw [e1]; exact q) (by omega) (by rw [hc.s]; exact hc.i) (by rw [hc.s]; exact hc.sz) (fun w' => ∃ v, Rep w' X.B X.g { m with b := r0.b, told := m.told + 1, sv := v } N O W C G (if m.told < m.room then S ++ [(x.nm, m.s.extract r0.i m.i)] else S) ∧ Fr X.g m { m with b := r0.b, told := m.told + 1, sv := v } w w') (fun w1 r1 f1 => (tell_both r1 (x.nm, m.s.extract r0.i m.i) (by show m.told < _; have := hc.rc.yb; omega) hSl).mono ?_)).mono ?_
      · rintro e w' ⟨rfl, v, r, f⟩
        exact ⟨rfl, v, r, f1.trans f⟩
      · rintro e w' ⟨rfl, v, r, f⟩
        have hgf : (x.nm, m.s.extract r0.i m.i) = (kk.T.nm, sub X.s kk.i m.i) := by rw [e4 (.inr (.inl q)), hri, hc.s]; rfl
        rw [hgf] at r
        have hst := behind_imm (s := X.s) (R := X.R) (dg := X.dg) (i := m.i) (g := G) (ch := ks) (cs := cs) q
        have hkp := hc.kp.tell (m' := { m with b := r0.b, told := m.told + 1, sv := v }) (ev := [sd (kk.T.nm, sub X.s kk.i m.i)]) (kk.T.nm, sub X.s kk.i m.i) rfl ⟨rfl, rfl, rfl⟩ rfl
        refine ⟨1, _, rfl, by omega, ?_, ⟨_, N, O, W, C, G, _, cs, em ++ [sd (kk.T.nm, sub X.s kk.i m.i)], ks, hc.stepA (hto := by show m.told + 1 + 300010 * frC cs ≤ 300010 * (2 * m.ticks + X.y + 1); have := hp1.weak; omega) (hc.ns.fr hc.rep f) _ r f rfl rfl rfl rfl rfl hc.i (by show m.ticks ≤ _; exact hti) (by show m.ticks = m.ticks + 0; rfl) (noWay_one (x := sd (kk.T.nm, sub X.s kk.i m.i)) (by show (2 : Nat) ≠ 3; decide)) hc.chs hc.dc (by show _ ≤ 2 * m.ticks + 1; omega) (by show _ ≤ 3 * m.ticks + 1; omega) hkp hc.ro hc.nl, hch2, hdk, hwl, by show _ ≤ 3 * m.ticks; omega, by exact hp1.told, ?_, rfl⟩⟩
        · rw [hst]; exact Nat.lt_succ_self _
        · rw [hD, hst, pre_put]

theorem sim_retry (X : Ctx) (k : Nat) (w : World) (h : M2 X k w) : Calls Tryd.prog 22 #[.pointer (some ⟨X.g, 0, none⟩)] w fun e w' => Turns (MM X) (EE X) k e w' := by
  obtain ⟨m, N, O, W, C, G, S, cs, em, hc, hwl, hgl, hpay, hD, rfl⟩ := h
  have hti := hc.ti
  have hbig := hc.big
  have hts : tks [hs] = 0 := rfl
  have hnt : NoWay [hs] := noWay_one (by decide)
  cases cs with
  | nil =>
    have hC : C = [] := hc.chs
    subst hC
    refine (retry_none hc.rep).mono ?_
    rintro e w' ⟨rfl, rfl⟩
    refine .inr ⟨rfl, ?_⟩
    unfold EE
    rw [if_neg (by decide)]
    exact ⟨m, N, O, W, [], G, S, em, hc.rep, hc.fr, hc.nw, hc.tk, hc.fu, hc.ti, hc.kp, hc.ns, ⟨hc.ro, hc.nl, by have := hc.pay; omega⟩, .inr (.inr ⟨hc.er, 0, by rw [hD, back_nothing]; simp [pre, nil], .inl ⟨rfl, hc.sh⟩⟩)⟩
  | cons kk ks =>
    obtain ⟨C0, c, hCe, hl, hF, hkk, hci, hile, hws, hgs, hG, h19, h13, h14, hq, hchn, hchs⟩ := hc.chs
    subst hCe
    obtain ⟨x, hx, e1, e2, e3, e4, e5, e6, e7, hk⟩ := hl.node
    have ho := hF.ok
    obtain ⟨dn, dm, dd⟩ := hc.dc kk List.mem_cons_self
    have hdk : DeepC (X.fuel - m.ticks) ks := fun j hj => hc.dc j (List.mem_cons_of_mem _ hj)
    have dd0 : Deep (X.fuel - m.ticks) 0 kk.i kk.ch := dd.less (Nat.le_refl _) (by omega) (Nat.le_refl _)
    rw [List.length_append, List.length_singleton] at hq hgl
    have hC0 : C0.length ≤ 1000000 := by omega
    have hcl : kk.ch.length ≤ 300010 := by omega
    have hlw : (W.take c.ws).length = c.ws := by rw [List.length_take]; omega
    have hlg : (G.take c.gs).length = c.gs := by rw [List.length_take]; omega
    have hw2 : (W.take c.ws).take c.ws = W.take c.ws := by rw [List.take_take, Nat.min_self]
    have hg2 : (G.take c.gs).take c.gs = G.take c.gs := by rw [List.take_take, Nat.min_self]
    rcases hkk with q | q | q | q | q | q
    · refine (retry_fence hc.rep hx hws hgs hC0 (by rw [e1]; exact q)).mono ?_
      rintro e w' ⟨m1, ⟨wv, gv, rfl⟩, rfl, r, f⟩
      have hst := back_fence (s := X.s) (R := X.R) (dg := X.dg) (cs := ks) q
      refine .inr ⟨rfl, ?_⟩
      unfold EE
      rw [if_neg (by decide)]
      exact ⟨_, N, O, _, _, _, S, em ++ [hs], r, hc.fr.trans f, hc.nw.append hnt, by show m.ticks = _; rw [tks_append, hts, hc.tk]; omega, hc.fu, hc.ti, hc.kp.step [hs] ⟨rfl, rfl, rfl, rfl⟩, hc.ns.fr hc.rep f, ⟨hc.ro, hc.nl, by have := hc.pay; show m.told ≤ 300010 * (2 * m.ticks + X.y + 1); omega⟩, .inr (.inr ⟨hc.er, 1, by rw [hD, hst]; rfl, .inr ⟨rfl, rfl⟩⟩)⟩
    · obtain ⟨x', hx', hcx, hxl⟩ := h19 q
      have : x' = x := Option.some.inj (hx'.symm.trans hx)
      subst this
      refine (retry_alt (y := x'.fi + kk.x) hc.rep hx hws hgs hC0 (by rw [e1]; exact q) hcx (by omega)).mono ?_
      rintro e w' ⟨m1, ⟨wv, gv, rfl⟩, rfl, v, r, f⟩
      by_cases he : kk.x + 1 = kk.T.len
      · rw [if_pos (by omega)] at r
        have hst := back_alt_last (s := X.s) (R := X.R) (dg := X.dg) (cs := ks) q he
        rw [← hci, ← hG] at hst
        refine .inl ⟨0, _, rfl, by omega, ?_, ⟨_, N, O, _, _, _, S, ks, em ++ [hs], kk.ch, kk.n, kk.T.kid kk.x, hc.step (hto := by exact pay_gone hpay) [hs] r f rfl rfl rfl rfl rfl (by show c.i ≤ _; omega) (by show m.ticks ≤ _; exact hti) (by show m.ticks = _; rw [hts]; rfl) hnt hchs hdk (by show _ ≤ 2 * m.ticks + 1; rw [hlw]; omega) (by show _ ≤ 3 * m.ticks + 1; rw [hlg]; omega), hchn, hk kk.x hxl, hF.kid hxl, dn, by show Deep _ _ c.i _; rw [hci]; exact dd0, by show _ ≤ 3 * m.ticks + 1; rw [hlg]; omega, ?_, rfl⟩⟩
        · rw [hst]; exact Nat.lt_succ_self _
        · rw [hD, hst, pre_put]
      · rw [if_neg (by omega)] at r
        have hst := back_alt (s := X.s) (R := X.R) (dg := X.dg) (cs := ks) q (by omega)
        rw [← hci, ← hG] at hst
        have hnew : ChsS X.rn X.s.size N (3 * m.ticks) (W.take c.ws) (G.take c.gs) (C0 ++ [{ c with x := ((x'.fi + kk.x + 1 : Nat) : Int) }]) ({ kk with x := kk.x + 1, i := c.i, g := G.take c.gs } :: ks) :=
          ⟨C0, _, rfl, hl, hF, by show kk.T.k = 16 ∨ kk.T.k = 19 ∨ kk.T.k = 20 ∨ kk.T.k = 13 ∨ kk.T.k = 14 ∨ kk.T.k = 7; omega, rfl, by show c.i ≤ _; omega, by show c.ws ≤ _; omega, by show c.gs ≤ _; omega, hg2, fun _ => ⟨x', hx, rfl, by show kk.x + 1 < kk.T.len; omega⟩, fun z => by have : kk.T.k = 13 := z; omega, fun z => by have : kk.T.k = 14 ∨ kk.T.k = 7 := z; omega, by show (C0 ++ [_]).length + c.gs + kk.ch.length ≤ _; rw [List.length_append, List.length_singleton]; omega, by show ChainS _ _ _ ((W.take c.ws).take c.ws) _ _; rw [hw2]; exact hchn, by show ChsS _ _ _ _ ((W.take c.ws).take c.ws) ((G.take c.gs).take c.gs) _ _; rw [hw2, hg2]; exact hchs⟩
        have hdn : DeepC (X.fuel - m.ticks) ({ kk with x := kk.x + 1, i := c.i, g := G.take c.gs } :: ks) := deepC_cons dn dm (by show Deep _ _ c.i kk.ch; rw [hci]; exact dd) hdk
        refine .inl ⟨0, _, rfl, by omega, ?_, ⟨_, N, O, _, _, _, S, _, em ++ [hs], kk.ch, kk.n, kk.T.kid kk.x, hc.step (hto := by exact pay_turn (c := kk) (fr1_kind (by show ¬ (kk.T.k = 13 ∨ kk.T.k = 14 ∨ kk.T.k = 7); omega)) hpay) [hs] r f rfl rfl rfl rfl rfl (by show c.i ≤ _; omega) (by show m.ticks ≤ _; exact hti) (by show m.ticks = _; rw [hts]; rfl) hnt hnew hdn (by show _ ≤ 2 * m.ticks + 1; rw [hlw]; omega) (by show _ ≤ 3 * m.ticks + 1; rw [hlg, List.length_append, List.length_singleton]; omega), hchn, hk kk.x hxl, hF.kid hxl, dn, by show Deep _ _ c.i _; rw [hci]; exact dd0, by show _ ≤ 3 * m.ticks + 1; rw [hlg, List.length_append, List.length_singleton]; omega, ?_, rfl⟩⟩
        · rw [hst]; exact Nat.lt_succ_self _
        · rw [hD, hst, pre_put]
    · have hl1 := ho.2.2.2.2 (by omega)
      refine (retry_arbno hc.rep hx hws hgs hC0 (by rw [e1]; exact q) (by omega) (by omega)).mono ?_
      rintro e w' ⟨m1, ⟨wv, gv, rfl⟩, rfl, v, u, r, f⟩
      have hst := back_arbno (s := X.s) (R := X.R) (dg := X.dg) (cs := ks) q
      rw [← hci, ← hG] at hst
      have hnew : ChainS X.rn X.s.size N (W.take c.ws ++ [⟨c.node, x.fi, c.i, c.b⟩]) (c.ws : Int) (⟨kk.n, kk.m, kk.T, 0, c.i⟩ :: kk.ch) :=
        ⟨c.ws, ⟨c.node, x.fi, c.i, c.b⟩, rfl, by rw [List.getElem?_append_right (by omega), hlw]; simp, hl, hF, by show kk.T.k = 18 ∨ kk.T.k = 20 ∨ kk.T.k = 21 ∨ kk.T.k = 22; omega, rfl, by show c.i ≤ _; omega, fun z => by have : kk.T.k = 18 := z; omega, by rw [List.take_append_of_le_length (by omega), hw2]; exact hchn⟩
      refine .inl ⟨0, _, rfl, by omega, ?_, ⟨_, N, O, _, _, _, S, ks, em ++ [hs], _, kk.n, kk.T.kid 0, hc.step (hto := by exact pay_gone hpay) [hs] r f rfl rfl rfl rfl rfl (by show c.i ≤ _; omega) (by show m.ticks ≤ _; exact hti) (by show m.ticks = _; rw [hts]; rfl) hnt (hchs.appendW _) hdk (by show _ ≤ 2 * m.ticks + 1; rw [List.length_append, hlw, List.length_singleton]; omega) (by show _ ≤ 3 * m.ticks + 1; rw [hlg]; omega), hnew, hk 0 (by omega), hF.kid (by omega), dn, deep_cons dn (fun _ => by have := dm q; show _ ≤ kk.m; omega) (Nat.le_refl _) (by show Deep _ _ c.i _; rw [hci]; exact dd0), by show _ ≤ 3 * m.ticks + 1; rw [hlg, List.length_cons]; omega, ?_, rfl⟩⟩
      · rw [hst]; exact Nat.lt_succ_self _
      · rw [hD, hst, pre_put]
    · obtain ⟨hcx, hxl, hix⟩ := h13 q
      refine (retry_arb (y := kk.x) hc.rep hx hws hgs hC0 (by rw [e1]; exact q) hcx (by rw [hc.s]; exact hc.sz) (by rw [hc.s]; exact hxl)).mono ?_
      rintro e w' ⟨m1, ⟨wv, gv, rfl⟩, (⟨rfl, tz, nx, hf, hle, r, f⟩ | ⟨rfl, hf, v, r, f⟩)⟩
      · rw [hc.s] at hf hle
        by_cases he : kk.x ≤ X.s.size
        · rw [if_pos he] at hf
          injection hf with hf
          injection hf with hf1 hf2
          subst hf1 hf2
          have hst := back_arb (s := X.s) (R := X.R) (dg := X.dg) (cs := ks) q he
          rw [← hG] at hst
          have hnew : ChsS X.rn X.s.size N (3 * m.ticks) (W.take c.ws) (G.take c.gs) (C0 ++ [{ c with x := (((kk.x + 1) : Nat) : Int) }]) ({ kk with x := (kk.x + 1), g := G.take c.gs } :: ks) :=
            ⟨C0, _, rfl, hl, hF, by show kk.T.k = 16 ∨ kk.T.k = 19 ∨ kk.T.k = 20 ∨ kk.T.k = 13 ∨ kk.T.k = 14 ∨ kk.T.k = 7; omega, hci, hile, by show c.ws ≤ _; omega, by show c.gs ≤ _; omega, hg2, fun z => by have : kk.T.k = 19 := z; omega, fun _ => ⟨rfl, by show (kk.x + 1) ≤ _; omega, by show kk.i ≤ (kk.x + 1); omega⟩, fun z => by have : kk.T.k = 14 ∨ kk.T.k = 7 := z; omega, by show (C0 ++ [_]).length + c.gs + kk.ch.length ≤ _; rw [List.length_append, List.length_singleton]; omega, by show ChainS _ _ _ ((W.take c.ws).take c.ws) _ _; rw [hw2]; exact hchn, by show ChsS _ _ _ _ ((W.take c.ws).take c.ws) ((G.take c.gs).take c.gs) _ _; rw [hw2, hg2]; exact hchs⟩
          have hdn : DeepC (X.fuel - m.ticks) ({ kk with x := (kk.x + 1), g := G.take c.gs } :: ks) := deepC_cons dn dm dd hdk
          refine .inl ⟨1, _, rfl, by omega, ?_, ⟨_, N, O, _, _, _, S, _, em ++ [hs], kk.ch, hc.step (hto := by exact pay_turn (c := kk) (fr1_past (by show kk.x + 1 ≠ kk.i; omega)) hpay) [hs] r f rfl rfl rfl rfl rfl (by show kk.x ≤ _; omega) (by show m.ticks ≤ _; exact hti) (by show m.ticks = _; rw [hts]; rfl) hnt hnew hdn (by show _ ≤ 2 * m.ticks + 1; rw [hlw]; omega) (by show _ ≤ 3 * m.ticks + 1; rw [hlg, List.length_append, List.length_singleton]; omega), hchn, dd.less (Nat.le_refl _) (Nat.le_refl _) (by show kk.i ≤ kk.x; omega), by show _ ≤ 2 * m.ticks; rw [hlw]; omega, by show _ ≤ 3 * m.ticks; rw [hlg, List.length_append, List.length_singleton]; omega, by exact pay1_turn (c := kk) hcl (.inl q) (fr1_past (by show kk.x + 1 ≠ kk.i; omega)) (fun z j hj => by have := (dd j hj).2.2; show j.i < kk.x; omega) hpay, ?_, rfl⟩⟩
          · rw [hst]; exact Nat.lt_succ_self _
          · rw [hD, hst, pre_put]
        · rw [if_neg he] at hf; cases hf
      · rw [hc.s] at hf
        have he : X.s.size < kk.x := by
          by_cases he : kk.x ≤ X.s.size
          · rw [if_pos he] at hf; cases hf
          · omega
        have hst := back_arb_no (s := X.s) (R := X.R) (dg := X.dg) (cs := ks) q he
        refine .inl ⟨2, _, rfl, by omega, ?_, ⟨_, N, O, _, _, _, S, ks, em ++ [hs], hc.step (hto := by exact pay_gone hpay) [hs] r f rfl rfl rfl rfl rfl (by show c.i ≤ _; omega) (by show m.ticks ≤ _; exact hti) (by show m.ticks = _; rw [hts]; rfl) hnt hchs hdk (by show _ ≤ 2 * m.ticks + 1; rw [hlw]; omega) (by show _ ≤ 3 * m.ticks + 1; rw [hlg]; omega), by show _ ≤ 2 * m.ticks; rw [hlw]; omega, by show _ ≤ 3 * m.ticks; rw [hlg]; omega, by exact pay_gone2 hpay, ?_, rfl⟩⟩
        · rw [hst]; exact Nat.lt_succ_self _
        · rw [hD, hst, pre_put]
    · obtain ⟨hcx, hxl, hix⟩ := h14 (.inl q)
      refine (retry_bal (y := kk.x) hc.rep hx hws hgs hC0 (by rw [e1]; exact q) hcx (by rw [hc.s]; exact hc.sz) (by rw [hc.s]; exact hxl)).mono ?_
      rintro e w' ⟨m1, ⟨wv, gv, rfl⟩, (⟨rfl, tz, nx, hf, hle, r, f⟩ | ⟨rfl, hf, v, r, f⟩)⟩
      · rw [hc.s] at hf hle
        cases hp : prs X.s kk.x with
        | none => rw [hp] at hf; cases hf
        | some t =>
          rw [hp] at hf
          injection hf with hf
          injection hf with hf1 hf2
          subst hf1 hf2
          have hgt := prs_gt hp
          have hst := back_bal (s := X.s) (R := X.R) (dg := X.dg) (cs := ks) q hp
          rw [← hG] at hst
          have hnew : ChsS X.rn X.s.size N (3 * m.ticks) (W.take c.ws) (G.take c.gs) (C0 ++ [{ c with x := ((t : Nat) : Int) }]) ({ kk with x := t, g := G.take c.gs } :: ks) :=
            ⟨C0, _, rfl, hl, hF, by show kk.T.k = 16 ∨ kk.T.k = 19 ∨ kk.T.k = 20 ∨ kk.T.k = 13 ∨ kk.T.k = 14 ∨ kk.T.k = 7; omega, hci, hile, by show c.ws ≤ _; omega, by show c.gs ≤ _; omega, hg2, fun z => by have : kk.T.k = 19 := z; omega, fun z => by have : kk.T.k = 13 := z; omega, fun _ => ⟨rfl, by show t ≤ _; omega, by show kk.i ≤ t; omega⟩, by show (C0 ++ [_]).length + c.gs + kk.ch.length ≤ _; rw [List.length_append, List.length_singleton]; omega, by show ChainS _ _ _ ((W.take c.ws).take c.ws) _ _; rw [hw2]; exact hchn, by show ChsS _ _ _ _ ((W.take c.ws).take c.ws) ((G.take c.gs).take c.gs) _ _; rw [hw2, hg2]; exact hchs⟩
          have hdn : DeepC (X.fuel - m.ticks) ({ kk with x := t, g := G.take c.gs } :: ks) := deepC_cons dn dm dd hdk
          refine .inl ⟨1, _, rfl, by omega, ?_, ⟨_, N, O, _, _, _, S, _, em ++ [hs], kk.ch, hc.step (hto := by exact pay_turn (c := kk) (fr1_past (by show t ≠ kk.i; omega)) hpay) [hs] r f rfl rfl rfl rfl rfl (by show t ≤ _; omega) (by show m.ticks ≤ _; exact hti) (by show m.ticks = _; rw [hts]; rfl) hnt hnew hdn (by show _ ≤ 2 * m.ticks + 1; rw [hlw]; omega) (by show _ ≤ 3 * m.ticks + 1; rw [hlg, List.length_append, List.length_singleton]; omega), hchn, dd.less (Nat.le_refl _) (Nat.le_refl _) (by show kk.i ≤ t; omega), by show _ ≤ 2 * m.ticks; rw [hlw]; omega, by show _ ≤ 3 * m.ticks; rw [hlg, List.length_append, List.length_singleton]; omega, by exact pay1_turn (c := kk) hcl (.inr (.inl q)) (fr1_past (by show t ≠ kk.i; omega)) (fun z j hj => by have := (dd j hj).2.2; show j.i < t; omega) hpay, ?_, rfl⟩⟩
          · rw [hst]; exact Nat.lt_succ_self _
          · rw [hD, hst, pre_put]
      · rw [hc.s] at hf
        have he : prs X.s kk.x = none := by
          cases hp : prs X.s kk.x with
          | none => rfl
          | some t => rw [hp] at hf; cases hf
        have hst := back_bal_no (s := X.s) (R := X.R) (dg := X.dg) (cs := ks) q he
        refine .inl ⟨2, _, rfl, by omega, ?_, ⟨_, N, O, _, _, _, S, ks, em ++ [hs], hc.step (hto := by exact pay_gone hpay) [hs] r f rfl rfl rfl rfl rfl (by show c.i ≤ _; omega) (by show m.ticks ≤ _; exact hti) (by show m.ticks = _; rw [hts]; rfl) hnt hchs hdk (by show _ ≤ 2 * m.ticks + 1; rw [hlw]; omega) (by show _ ≤ 3 * m.ticks + 1; rw [hlg]; omega), by show _ ≤ 2 * m.ticks; rw [hlw]; omega, by show _ ≤ 3 * m.ticks; rw [hlg]; omega, by exact pay_gone2 hpay, ?_, rfl⟩⟩
        · rw [hst]; exact Nat.lt_succ_self _
        · rw [hD, hst, pre_put]
    · obtain ⟨hcx, hxl, hix⟩ := h14 (.inr q)
      have hns : NS w m.s N := by rw [hc.s]; exact hc.ns
      refine (retry_breakx (y := kk.x) hc.rep hx hws hgs hC0 (by rw [e1]; exact q) hns (by rw [e2]; exact ho.2.1 (by omega)) hcx (by rw [hc.s]; exact hc.sz) (by rw [hc.s]; exact hxl)).mono ?_
      rintro e w' ⟨m1, ⟨wv, gv, rfl⟩, N', sm, ns', (⟨rfl, tz, nx, hf, hle, r, f⟩ | ⟨rfl, hf, v, r, f⟩)⟩
      · rw [hc.s] at ns'
        rw [hc.s, e2] at hf
        rw [hc.s] at hle
        unfold nearX at hf
        have hge := unt_ge X.s kk.T.t true _ kk.x (Nat.le_refl _)
        by_cases he : unt X.s kk.T.t true kk.x < X.s.size
        · rw [if_pos he] at hf
          injection hf with hf
          injection hf with hf1 hf2
          subst hf1 hf2
          have hst := back_breakx (s := X.s) (R := X.R) (dg := X.dg) (cs := ks) q hge he
          rw [← hG] at hst
          have hnew : ChsS X.rn X.s.size N' (3 * m.ticks) (W.take c.ws) (G.take c.gs) (C0 ++ [{ c with x := ((unt X.s kk.T.t true kk.x + 1 : Nat) : Int) }]) ({ kk with x := unt X.s kk.T.t true kk.x + 1, g := G.take c.gs } :: ks) :=
            ⟨C0, _, rfl, Lies.mono sm hl, hF, by show kk.T.k = 16 ∨ kk.T.k = 19 ∨ kk.T.k = 20 ∨ kk.T.k = 13 ∨ kk.T.k = 14 ∨ kk.T.k = 7; omega, hci, hile, by show c.ws ≤ _; omega, by show c.gs ≤ _; omega, hg2, fun z => by have : kk.T.k = 19 := z; omega, fun z => by have : kk.T.k = 13 := z; omega, fun _ => ⟨rfl, by show unt X.s kk.T.t true kk.x + 1 ≤ _; omega, by show kk.i ≤ unt X.s kk.T.t true kk.x + 1; omega⟩, by show (C0 ++ [_]).length + c.gs + kk.ch.length ≤ _; rw [List.length_append, List.length_singleton]; omega, by show ChainS _ _ _ ((W.take c.ws).take c.ws) _ _; rw [hw2]; exact hchn.mono sm, by show ChsS _ _ _ _ ((W.take c.ws).take c.ws) ((G.take c.gs).take c.gs) _ _; rw [hw2, hg2]; exact hchs.mono sm⟩
          have hdn : DeepC (X.fuel - m.ticks) ({ kk with x := unt X.s kk.T.t true kk.x + 1, g := G.take c.gs } :: ks) := deepC_cons dn dm dd hdk
          refine .inl ⟨1, _, rfl, by omega, ?_, ⟨_, N', O, _, _, _, S, _, em ++ [hs], kk.ch, hc.stepN (hto := by exact pay_turn (c := kk) (fr1_past (by show unt X.s kk.T.t true kk.x + 1 ≠ kk.i; omega)) hpay) sm ns' [hs] r f rfl rfl rfl rfl rfl (by show unt X.s kk.T.t true kk.x ≤ _; omega) (by show m.ticks ≤ _; exact hti) (by show m.ticks = _; rw [hts]; rfl) hnt hnew hdn (by show _ ≤ 2 * m.ticks + 1; rw [hlw]; omega) (by show _ ≤ 3 * m.ticks + 1; rw [hlg, List.length_append, List.length_singleton]; omega), hchn.mono sm, dd.less (Nat.le_refl _) (Nat.le_refl _) (by show kk.i ≤ unt X.s kk.T.t true kk.x; omega), by show _ ≤ 2 * m.ticks; rw [hlw]; omega, by show _ ≤ 3 * m.ticks; rw [hlg, List.length_append, List.length_singleton]; omega, by exact pay1_turn (c := kk) hcl (.inr (.inr q)) (fr1_past (by show unt X.s kk.T.t true kk.x + 1 ≠ kk.i; omega)) (fun z j hj => by have := (dd j hj).2.2; show j.i < unt X.s kk.T.t true kk.x; omega) hpay, ?_, rfl⟩⟩
          · rw [hst]; exact Nat.lt_succ_self _
          · rw [hD, hst, pre_put]
        · rw [if_neg he] at hf; cases hf
      · rw [hc.s] at ns'
        rw [hc.s, e2] at hf
        unfold nearX at hf
        have he : X.s.size ≤ unt X.s kk.T.t true kk.x := by
          by_cases he : unt X.s kk.T.t true kk.x < X.s.size
          · rw [if_pos he] at hf; cases hf
          · omega
        have hst := back_breakx_no (s := X.s) (R := X.R) (dg := X.dg) (cs := ks) q he
        refine .inl ⟨2, _, rfl, by omega, ?_, ⟨_, N', O, _, _, _, S, ks, em ++ [hs], hc.stepN (hto := by exact pay_gone hpay) sm ns' [hs] r f rfl rfl rfl rfl rfl (by show c.i ≤ _; omega) (by show m.ticks ≤ _; exact hti) (by show m.ticks = _; rw [hts]; rfl) hnt (hchs.mono sm) hdk (by show _ ≤ 2 * m.ticks + 1; rw [hlw]; omega) (by show _ ≤ 3 * m.ticks + 1; rw [hlg]; omega), by show _ ≤ 2 * m.ticks; rw [hlw]; omega, by show _ ≤ 3 * m.ticks; rw [hlg]; omega, by exact pay_gone2 hpay, ?_, rfl⟩⟩
        · rw [hst]; exact Nat.lt_succ_self _
        · rw [hD, hst, pre_put]
end Go.Proofs.YtkggmodabpjobaaDoor

namespace Go.Proofs.YtkggmodabpjobaaDoor
open Go.RowKit

/-- Ahead of the first coming. -/
def Start (X : Ctx) (w : World) : Prop := ∃ m N O S n T, Rep w X.B X.g m N O [] [] [] S ∧ m.begun = false ∧ m.s = X.s ∧ m.fuel = X.fuel ∧ X.fuel ≤ 100000 ∧ m.ticks ≤ X.fuel ∧ m.ticks = X.t0 ∧ m.i ≤ X.s.size ∧ X.s.size ≤ 65536 ∧ m.shut = false ∧ m.err = 0 ∧ m.b = -1 ∧ Fr X.g X.m0 m X.w0 w ∧ Lies X.rn N T m.node ∧ FineS T ∧ X.fuel + 1 ≤ n ∧ X.D0 = dCome X.s X.R X.dg n T m.i [] [] [] ∧ Kept X m N S [] ∧ NS w X.s N ∧ RC X ∧ Below X.Wd.heap.size X.Wd w ∧ Rooted X N O ∧ N.length + 4096 * unl O ≤ 300000 ∧ m.told ≤ 300010 * (2 * m.ticks + X.y + 1)
/-- Behind a way. -/
def Again (X : Ctx) (w : World) : Prop := ∃ m N O W C G S cs, Cor X w m N O W C G S cs [] ∧ W.length ≤ 2 * m.ticks ∧ C.length + G.length ≤ 3 * m.ticks ∧ m.told + 300010 * frC cs ≤ 300010 * (2 * m.ticks + X.y) ∧ X.D0 = dBack X.s X.R X.dg cs

theorem next_first (X : Ctx) (w : World) (h : Start X w) : Calls Tryd.prog 14 #[.pointer (some ⟨X.g, 0, none⟩)] w fun e w' => ∃ ok, e = .returned (.bool ok) ∧ EE X ok w' := by
  obtain ⟨m, N, O, S, n, T, r, hb, h1, h2, h3, h4, h5, h6, h7, h8, h9, h10, f, hl, hF, hn, hD, hkp, hns, hrc, hbel, hro, hnl, hto⟩ := h
  refine next_any (MM X) (EE X) (fun k w h => sim_come X k w h) (fun k w h => sim_follow X k w h) (fun k w h => sim_retry X k w h) (begun := m.begun) r.c5 (r.frozen 5) (fun q => by rw [hb] at q; cases q) (fun _ => ?_)
  refine ⟨_, ⟨{ m with begun := true }, N, O, [], [], [], S, [], [], [], n, T, ⟨r.put 5 (.bool true) { m with begun := true } rfl rfl rfl rfl rfl rfl rfl, h1, h2, h3, h4, h6, h7, h8, h9, rfl, f.trans (Fr.cell (m := m) (m' := { m with begun := true }) 5 _ rfl rfl rfl rfl rfl rfl), rfl, (fun _ h => by cases h), noWay_nil, (by show m.ticks = _; rw [h5]; rfl), (by simp), (by simp), hkp.to ⟨rfl, rfl, rfl⟩, hns.fr r (Fr.cell (m := m) (m' := { m with begun := true }) 5 _ rfl rfl rfl rfl rfl rfl), hrc, hbel.trans ((Fr.below r (Fr.cell (m := m) (m' := { m with begun := true }) 5 _ rfl rfl rfl rfl rfl rfl)).mono hrc.low), hro, hnl, (by show m.told + 300010 * 0 ≤ 300010 * (2 * m.ticks + X.y + 1); omega)⟩, h10, hl, hF, (by show X.fuel - m.ticks + 1 ≤ n; omega), (fun _ h => by cases h), (by simp), by rw [hD]; simp [pre], rfl⟩⟩
theorem next_again (X : Ctx) (w : World) (h : Again X w) : Calls Tryd.prog 14 #[.pointer (some ⟨X.g, 0, none⟩)] w fun e w' => ∃ ok, e = .returned (.bool ok) ∧ EE X ok w' := by
  obtain ⟨m, N, O, W, C, G, S, cs, hc, hwl, hgl, hp2, hD⟩ := h
  refine next_any (MM X) (EE X) (fun k w h => sim_come X k w h) (fun k w h => sim_follow X k w h) (fun k w h => sim_retry X k w h) (begun := m.begun) hc.rep.c5 (hc.rep.frozen 5) (fun _ => ⟨_, ⟨m, N, O, W, C, G, S, cs, [], hc, hwl, hgl, hp2, by rw [hD]; simp [pre], rfl⟩⟩) (fun q => by rw [hc.be] at q; cases q)
end Go.Proofs.YtkggmodabpjobaaDoor

namespace Go.Proofs.YtkggmodabpjobaaDoor

/-- Ways, and how it ends: 0 no more, or enough; 1 nobody may look further; 2 a name without a rule; 10 no fuel. -/
def tld : List Ev → Nat → Nat → Nat → List (Nat × List Gft) × Nat
  | [], en, k, _ => ([], if k = 0 then 0 else en)
  | x :: l, en, k, f => if k = 0 then ([], 0) else if x.w = 3 then ((x.a, x.g) :: (tld l en (k - 1) f).1, (tld l en (k - 1) f).2) else if x.w = 0 then (if f = 0 then ([], 10) else tld l en k (f - 1)) else tld l en k f
theorem tld_zero (l : List Ev) (en f : Nat) : tld l en 0 f = ([], 0) := by
  cases l with
  | nil => rfl
  | cons x l => rw [tld, if_pos rfl]
theorem tld_nil {k : Nat} (en f : Nat) (hk : k ≠ 0) : tld [] en k f = ([], en) := by rw [tld, if_neg hk]
theorem tld_way {k : Nat} (i : Nat) (G : List Gft) (l : List Ev) (en f : Nat) (hk : k ≠ 0) : tld (wy i G :: l) en k f = ((i, G) :: (tld l en (k - 1) f).1, (tld l en (k - 1) f).2) := by
  rw [tld, if_neg hk, if_pos (show (wy i G).w = 3 from rfl)]; rfl
theorem tld_dry {k : Nat} (l : List Ev) (en : Nat) (hk : k ≠ 0) : tld (tk :: l) en k 0 = ([], 10) := by
  rw [tld, if_neg hk, if_neg (show ¬ tk.w = 3 by decide), if_pos (show tk.w = 0 from rfl), if_pos rfl]
theorem tld_pre {k : Nat} (l : List Ev) (en : Nat) (hk : k ≠ 0) : ∀ (em : List Ev) (f : Nat), (∀ x ∈ em, x.w ≠ 3) → tks em ≤ f → tld (em ++ l) en k f = tld l en k (f - tks em)
  | [], f, _, _ => rfl
  | x :: em, f, hn, hf => by
    have hx : ¬ x.w = 3 := hn x (List.mem_cons_self ..)
    have hn' : ∀ x ∈ em, x.w ≠ 3 := fun y hy => hn y (List.mem_cons_of_mem _ hy)
    rw [tks_cons] at hf
    rw [List.cons_append, tld, if_neg hk, if_neg hx, tks_cons]
    split
    · rename_i h0
      rw [if_pos h0] at hf
      rw [if_neg (by omega), tld_pre l en hk em (f - 1) hn' (by omega), show f - 1 - tks em = f - (1 + tks em) by omega]
    · rename_i h0
      rw [if_neg h0] at hf
      rw [tld_pre l en hk em f hn' (by omega), Nat.zero_add]
/-- The ways, as pairs. -/
def prsW (l : List Ev) : List (Nat × List Gft) := (wys l).map fun x => (x.a, x.g)
theorem prsW_cons (x : Ev) (l : List Ev) : prsW (x :: l) = if x.w = 3 then (x.a, x.g) :: prsW l else prsW l := by
  unfold prsW wys
  rw [List.filter_cons]
  by_cases h : x.w = 3
  · rw [if_pos h, if_pos (by simpa using h), List.map_cons]
  · rw [if_neg h, if_neg (by simpa using h)]
theorem prsW_append (a b : List Ev) : prsW (a ++ b) = prsW a ++ prsW b := by unfold prsW; rw [wys_append, List.map_append]
theorem tld_all : ∀ (l : List Ev) (en k f : Nat), tks l ≤ f → (prsW l).length < k → tld l en k f = (prsW l, en)
  | [], en, k, f, _, hk => by rw [tld_nil en f (by omega)]; rfl
  | x :: l, en, k, f, hf, hk => by
    rw [tks_cons] at hf
    rw [prsW_cons] at hk ⊢
    rw [tld, if_neg (by omega)]
    by_cases h : x.w = 3
    · rw [if_pos h] at hk ⊢
      rw [List.length_cons] at hk
      rw [if_pos h, tld_all l en (k - 1) f (by omega) (by omega)]
    · rw [if_neg h] at hk ⊢
      rw [if_neg h]
      split
      · rename_i h0
        rw [if_pos h0] at hf
        rw [if_neg (by omega), tld_all l en k (f - 1) (by omega) hk]
      · rw [tld_all l en k f (by omega) hk]
theorem dCome_top (s : ByteArray) (R : ByteArray → Option PT) (dg : Nat → ByteArray) (n : Nat) (T : PT) (i : Nat) : dCome s R dg n T i [] [] [] = D s R dg n T i [] := by
  unfold dCome
  rw [show Fa s R dg [] = nil from rfl, nil_thn]
  exact bd_unit _
end Go.Proofs.YtkggmodabpjobaaDoor

namespace Go.Proofs.YtkggmodabpjobaaDoor
open Go.RowKit

/-- A way as it lies in memory. -/
structure Wv where
  «to» : Nat
  ga : Option Addr
  gc : Nat
  G : List Gft
def Wv.gv (x : Wv) : Value := .slice x.ga x.G.length x.gc
def Wv.pr (x : Wv) : Nat × List Gft := (x.to, x.G)
def wyV (x : Wv) : List Value := [.int .i64 (x.to : Int), .slice x.ga x.G.length x.gc]
theorem wyV_len (x : Wv) : (wyV x).length = 2 := rfl
theorem wyV_one (x : Wv) : ∀ u ∈ wyV x, u.oneCell' = true := by
  intro u hu
  simp only [wyV, List.mem_cons, List.not_mem_nil, or_false] at hu
  rcases hu with rfl | rfl <;> rfl
theorem info_way : (Tryd.prog.info? 32).map (fun i => (i.zero, i.size, i.bytes)) = some (some (.agg #[.int .i64 0, .slice none 0 0]), 2, 32) := by kernel_rfl
theorem size_way : (Tryd.prog.info? 32).map (·.size) = some 2 := by kernel_rfl
/-- Ways in memory. -/
structure WaysAt (w : World) (B : Nat) (v : Value) (L : List Wv) : Prop where
  row : Row w B 32 2 wyV v L
  gifts : ∀ x ∈ L, Row w B 44 2 gfV x.gv x.G
theorem WaysAt.later {w w' : World} {B : Nat} {v : Value} {L : List Wv} (h : WaysAt w B v L) (hb : Below w.heap.size w w') : WaysAt w' B v L := ⟨h.row.later hb, fun x hx => (h.gifts x hx).later hb⟩

theorem Row.lower {α : Type} {w : World} {B B' : Nat} {e : TypeId} {sz : Nat} {f : α → List Value} {v : Value} {l : List α} (h : Row w B e sz f v l) (hB : B' ≤ B) : Row w B' e sz f v l := by
  refine ⟨h.1, ?_⟩
  rcases h.2 with q | ⟨g, cap, cur, q1, q2, q3⟩
  · exact .inl q
  · exact .inr ⟨g, cap, cur, q1, Nat.le_trans hB q2, q3⟩
theorem WaysAt.mono {w : World} {B B' : Nat} {v : Value} {L : List Wv} (h : WaysAt w B v L) (hB : B' ≤ B) : WaysAt w B' v L := ⟨h.row.lower hB, fun x hx => (h.gifts x hx).lower hB⟩

/-- What stands while ways are gathered. -/
structure WC where
  s : ByteArray
  R : ByteArray → Option PT
  dg : Nat → ByteArray
  rn : ByteArray → Int
  fuel : Nat
  most : Nat
  B : Nat
  B1 : Nat
  g : Nat
  w0 : World
  D : Sq
  RL : List (ByteArray × PT)
def WC.ctx (Y : WC) (y : Nat) (t0 : Nat) (D0 : Sq) (m0 : MS) (w : World) (N0 : List Nd) (L0 : List Gft) : Ctx := ⟨Y.B1, Y.g, Y.s, Y.rn, Y.R, Y.dg, Y.fuel, t0, D0, m0, w, N0, L0, Y.RL, Y.w0, y⟩
structure Held (Y : WC) (m : MS) (w : World) (v : Value) (L : List Wv) : Prop where
  ways : WaysAt w Y.B v L
  apart : ∀ x ∈ L, ∀ k, x.gv.ownBlock = some k → ¬ m.owns Y.g k
  below : Below Y.B Y.w0 w
/-- No block of another type is the machine's. -/
theorem not_owned {w : World} {B B' g : Nat} {m : MS} {N : List Nd} {O : List Int} {W : List Wr} {C : List Cr} {G S : List Gft} (h : Rep w B g m N O W C G S) {v : Value} {L : List Wv} (hr : Row w B' 32 2 wyV v L) {k : Nat} (hk : v.ownBlock = some k) : ¬ m.owns g k := by
  obtain ⟨cur, hc⟩ := hr.type hk
  intro x
  rcases x with x | x | x | x | x | x | x
  · have hb := h.blk
    rw [← x, hc] at hb
    injection hb with hb
    injection hb with _ hb
    exact absurd hb (by decide)
  · exact h.nodes.neBlk hc (by decide) x.symm
  · exact h.roots.neBlk hc (by decide) x.symm
  · exact h.works.neBlk hc (by decide) x.symm
  · exact h.choices.neBlk hc (by decide) x.symm
  · exact h.given.neBlk hc (by decide) x.symm
  · exact h.said.neBlk hc (by decide) x.symm
theorem Held.fr {Y : WC} {w w' : World} {m m' : MS} {v : Value} {L : List Wv} {N : List Nd} {O : List Int} {W : List Wr} {C : List Cr} {G S : List Gft} (h : Held Y m w v L) (hB : Y.B ≤ Y.B1) (hB0 : Y.B ≤ Y.w0.heap.size) (r : Rep w Y.B1 Y.g m N O W C G S) (f : Fr Y.g m m' w w') : Held Y m' w' v L :=
  ⟨⟨h.ways.row.same fun k hk => f.block k (h.ways.row.low hk).2 (not_owned r h.ways.row hk), fun x hx => (h.ways.gifts x hx).same fun k hk => f.block k ((h.ways.gifts x hx).low hk).2 (h.apart x hx k hk)⟩,
    fun x hx k hk q => by
      rcases f.own k q with y | y
      · exact h.apart x hx k hk y
      · have := ((h.ways.gifts x hx).low hk).2; omega,
    bel_trans h.below ((Fr.below r f).mono hB) hB0⟩

def WInv (Y : WC) (L : List Wv) (v : Value) (w : World) : Prop := ∃ t0 D0 m0 N0 L0, (Start (Y.ctx L.length t0 D0 m0 w N0 L0) w ∨ Again (Y.ctx L.length t0 D0 m0 w N0 L0) w) ∧ Held Y m0 w v L ∧ L.length ≤ Y.most ∧ (∃ N O W C G S, Rep w Y.B1 Y.g m0 N O W C G S) ∧
  tld Y.D.1 Y.D.2 Y.most Y.fuel = (L.map Wv.pr ++ (tld D0.1 D0.2 (Y.most - L.length) (Y.fuel - t0)).1, (tld D0.1 D0.2 (Y.most - L.length) (Y.fuel - t0)).2)
def WGot (Y : WC) (L : List Wv) (v : Value) (w : World) : Prop := ∃ m N O W C G S, Rep w Y.B1 Y.g m N O W C G S ∧ Held Y m w v L ∧ L.length < Y.most ∧ G.length ≤ 1000000 ∧ NS w Y.s N ∧
  ∀ (y : Wv) (w3 : World) (v3 : Value), y.pr = (m.i, G) → Rep w3 Y.B1 Y.g m N O W C G S → NS w3 Y.s N → Held Y m w3 v3 (L ++ [y]) → WInv Y (L ++ [y]) v3 w3
def WEnd (Y : WC) (L : List Wv) (v : Value) (w : World) : Prop := ∃ m N O W C G S, Rep w Y.B1 Y.g m N O W C G S ∧ Held Y m w v L ∧
  ((m.err = 10 ∧ (tld Y.D.1 Y.D.2 Y.most Y.fuel).2 = 10) ∨ (m.err = 7 ∧ (tld Y.D.1 Y.D.2 Y.most Y.fuel).2 = 2) ∨ (m.err = 0 ∧ tld Y.D.1 Y.D.2 Y.most Y.fuel = (L.map Wv.pr, if m.shut = true then 1 else 0)))

theorem winv_full {Y : WC} {L : List Wv} {v : Value} {w : World} (hB : Y.B ≤ Y.B1) (hB0 : Y.B ≤ Y.w0.heap.size) (h : WInv Y L v w) (hl : ¬ L.length < Y.most) : WEnd Y L v w := by
  obtain ⟨t0, D0, m0, N0, L0, hs, hh, hle, ⟨N, O, W, C, G, S, hr⟩, ht⟩ := h
  rw [show Y.most - L.length = 0 by omega, tld_zero] at ht
  rcases hs with ⟨m, N, O, S, n, T, r, hb, h1, h2, h3, h4, h5, h6, h7, h8, h9, h10, f, -⟩ | ⟨m, N, O, W, C, G, S, cs, hc, -⟩
  · exact ⟨m, N, O, [], [], [], S, r, hh.fr hB hB0 hr f, .inr (.inr ⟨h9, by rw [ht, h8]; simp⟩)⟩
  · exact ⟨m, N, O, W, C, G, S, hc.rep, hh.fr hB hB0 hr hc.fr, .inr (.inr ⟨hc.er, by rw [ht, hc.sh]; simp⟩)⟩

/-- The rules are as they were. -/
theorem RC.next {X : Ctx} {m : MS} {N : List Nd} {S : List Gft} {em : List Ev} (h : RC X) (k : Kept X m N S em) (t0 : Nat) (D0 : Sq) (w0 : World) (N0 : List Nd) (L0 : List Gft) (y : Nat) (hy : y ≤ 5000) : RC { X with t0 := t0, D0 := D0, m0 := m, w0 := w0, N0 := N0, L0 := L0, y := y } :=
  ⟨h.low, fun q => by
    obtain ⟨b, o, cr, h1, h2⟩ := h.lie q
    exact ⟨b, o, cr, h1, by show m.rv = _; rw [k.rv]; exact h2⟩, h.len, h.fine, h.rn, h.R, h.ita, by show m.room ≤ _; rw [k.room]; exact h.room, hy⟩
theorem Kept.next {X : Ctx} {m : MS} {N : List Nd} {S : List Gft} {em : List Ev} (k : Kept X m N S em) (t0 : Nat) (D0 : Sq) (w0 : World) (y : Nat) : Kept { X with t0 := t0, D0 := D0, m0 := m, w0 := w0, N0 := N, L0 := X.L0 ++ sdg em, y := y } m N S [] :=
  ⟨rfl, rfl, by show m.told = (X.L0 ++ sdg em ++ []).length; rw [List.append_nil]; exact k.told, by show S = (X.L0 ++ sdg em ++ []).take m.room; rw [List.append_nil, k.room]; exact k.said, Same.refl _⟩
theorem next_ways {Y : WC} {L : List Wv} {v : Value} {w : World} (hB : Y.B ≤ Y.B1) (hB0 : Y.B ≤ Y.w0.heap.size) (hB2 : Y.w0.heap.size ≤ Y.B) (h : WInv Y L v w) (hl : L.length < Y.most) (hmo : Y.most ≤ 4096) :
    Calls Tryd.prog 14 #[.pointer (some ⟨Y.g, 0, none⟩)] w fun e w' => ∃ ok, e = .returned (.bool ok) ∧ (ok = true → WGot Y L v w') ∧ (ok = false → WEnd Y L v w') := by
  obtain ⟨t0, D0, m0, N0, L0, hs, hh, hle, ⟨N1, O1, W1, C1, G1, S1, hr⟩, ht⟩ := h
  have hc : Calls Tryd.prog 14 #[.pointer (some ⟨Y.g, 0, none⟩)] w fun e w' => ∃ ok, e = .returned (.bool ok) ∧ EE (Y.ctx L.length t0 D0 m0 w N0 L0) ok w' := by
    rcases hs with hs | hs
    · exact next_first _ _ hs
    · exact next_again _ _ hs
  refine hc.mono ?_
  rintro e w' ⟨ok, rfl, he⟩
  refine ⟨ok, rfl, fun q => ?_, fun q => ?_⟩
  · subst q
    obtain ⟨m, N, O, W, C, G, S, cs, em, hc, hwl, hgl, hD⟩ := (show ∃ m N O W C G S cs em, Cor (Y.ctx L.length t0 D0 m0 w N0 L0) w' m N O W C G S cs em ∧ W.length ≤ 2 * m.ticks ∧ C.length + G.length ≤ 3 * m.ticks ∧ D0 = pre em (put (wy m.i G) (dBack Y.s Y.R Y.dg cs)) from he)
    have hti : m.ticks ≤ Y.fuel := hc.ti
    have htk : m.ticks = t0 + tks em := hc.tk
    have hbig : Y.fuel ≤ 100000 := hc.big
    have hf : Fr Y.g m0 m w w' := hc.fr
    refine ⟨m, N, O, W, C, G, S, hc.rep, hh.fr hB hB0 hr hf, hl, by omega, hc.ns, fun y w3 v3 hy r3 n3 h3 => ?_⟩
    refine ⟨m.ticks, dBack Y.s Y.R Y.dg cs, m, N, L0 ++ sdg em, .inr ⟨m, N, O, W, C, G, S, cs, ⟨r3, hc.s, hc.fu, hc.big, hc.ti, hc.i, hc.sz, hc.sh, hc.er, hc.be, Fr.refl _ _ _, hc.chs, hc.dc, noWay_nil, rfl, hc.wl, hc.gl, hc.kp.next _ _ _ _, n3, hc.rc.next hc.kp _ _ _ _ _ _ (by show (L ++ [y]).length ≤ 5000; rw [List.length_append, List.length_singleton]; omega), h3.below.mono hB2, hc.ro, hc.nl, (by have := hc.pay; show m.told + 300010 * frC cs ≤ 300010 * (2 * m.ticks + (L ++ [y]).length + 1); rw [List.length_append, List.length_singleton]; have : m.told + 300010 * frC cs ≤ 300010 * (2 * m.ticks + L.length + 1) := hc.pay; omega)⟩, hwl, hgl, (by show m.told + 300010 * frC cs ≤ 300010 * (2 * m.ticks + (L ++ [y]).length); rw [List.length_append, List.length_singleton]; exact hc.pay), rfl⟩, h3, by simp; omega, ⟨N, O, W, C, G, S, r3⟩, ?_⟩
    have hk : Y.most - L.length ≠ 0 := by omega
    have h1 : tld D0.1 D0.2 (Y.most - L.length) (Y.fuel - t0) = ((m.i, G) :: (tld (dBack Y.s Y.R Y.dg cs).1 (dBack Y.s Y.R Y.dg cs).2 (Y.most - L.length - 1) (Y.fuel - m.ticks)).1, (tld (dBack Y.s Y.R Y.dg cs).1 (dBack Y.s Y.R Y.dg cs).2 (Y.most - L.length - 1) (Y.fuel - m.ticks)).2) := by
      rw [hD]
      show tld (em ++ (wy m.i G :: (dBack Y.s Y.R Y.dg cs).1)) (dBack Y.s Y.R Y.dg cs).2 _ _ = _
      rw [tld_pre _ _ hk em _ hc.nw (by omega), tld_way _ _ _ _ _ hk, show Y.fuel - t0 - tks em = Y.fuel - m.ticks by omega]
    rw [ht, h1, List.map_append, List.map_cons, List.map_nil, hy, List.length_append, show Y.most - (L.length + [y].length) = Y.most - L.length - 1 by simp; omega, List.append_assoc]
    rfl
  · subst q
    obtain ⟨m, N, O, W, C, G, S, em, r, f, hnw, htk, hfu, hti, hkp, -, -, he⟩ := (show ∃ m N O W C G S em, Rep w' Y.B1 Y.g m N O W C G S ∧ Fr Y.g m0 m w w' ∧ NoWay em ∧ m.ticks = t0 + tks em ∧ m.fuel = Y.fuel ∧ m.ticks ≤ Y.fuel ∧ Kept (Y.ctx L.length t0 D0 m0 w N0 L0) m N S em ∧ NS w' Y.s N ∧ (Rooted (Y.ctx L.length t0 D0 m0 w N0 L0) N O ∧ N.length + 4096 * unl O ≤ 300000 ∧ m.told ≤ 300010 * (2 * m.ticks + L.length + 1)) ∧
      ((m.err = 10 ∧ m.shut = false ∧ m.ticks = Y.fuel ∧ ∃ q, D0 = pre em (put tk q)) ∨ (m.err = 7 ∧ m.shut = false ∧ D0 = (em, 2)) ∨ (m.err = 0 ∧ ∃ en, D0 = (em, en) ∧ ((en = 0 ∧ m.shut = false) ∨ (en = 1 ∧ m.shut = true)))) from he)
    have hk : Y.most - L.length ≠ 0 := by omega
    refine ⟨m, N, O, W, C, G, S, r, hh.fr hB hB0 hr f, ?_⟩
    rcases he with ⟨h1, -, h3, q, hD⟩ | ⟨h1, -, hD⟩ | ⟨h1, en, hD, h2⟩
    · refine .inl ⟨h1, ?_⟩
      have h4 : tld D0.1 D0.2 (Y.most - L.length) (Y.fuel - t0) = ([], 10) := by
        rw [hD]
        show tld (em ++ (tk :: q.1)) q.2 _ _ = _
        rw [tld_pre _ _ hk em _ hnw (by omega), show Y.fuel - t0 - tks em = 0 by omega, tld_dry _ _ hk]
      rw [ht, h4]
    · refine .inr (.inl ⟨h1, ?_⟩)
      rw [hD] at ht
      have h3 : tld em 2 (Y.most - L.length) (Y.fuel - t0) = ([], 2) := by
        have := tld_pre [] 2 hk em (Y.fuel - t0) hnw (by omega)
        rw [List.append_nil] at this
        rw [this, tld_nil _ _ hk]
      rw [ht]
      show (tld em 2 _ _).2 = 2
      rw [h3]
    · refine .inr (.inr ⟨h1, ?_⟩)
      rw [hD] at ht
      have h3 : tld em en (Y.most - L.length) (Y.fuel - t0) = ([], en) := by
        have := tld_pre [] en hk em (Y.fuel - t0) hnw (by omega)
        rw [List.append_nil] at this
        rw [this, tld_nil _ _ hk]
      rw [ht]
      show (L.map Wv.pr ++ (tld em en _ _).1, (tld em en _ _).2) = _
      rw [h3, List.append_nil]
      rcases h2 with ⟨rfl, h2⟩ | ⟨rfl, h2⟩
      · rw [h2]; simp
      · rw [h2]; simp
end Go.Proofs.YtkggmodabpjobaaDoor

namespace Go.Proofs.YtkggmodabpjobaaDoor
open Go.RowKit

/-- What comes of one place: 3 found, else how it ends (10 no fuel); where, what is given, comings up to there, and what was told. -/
structure FR where
  k : Nat
  a : Nat
  g : List Gft
  t : Nat
  d : List Gft
def frs : List Ev → Nat → Nat → Nat → List Gft → FR
  | [], en, _, t, d => ⟨en, 0, [], t, d⟩
  | x :: l, en, f, t, d => if x.w = 3 then ⟨3, x.a, x.g, t, d⟩ else if x.w = 0 then (if t = f then ⟨10, 0, [], t, d⟩ else frs l en f (t + 1) d) else if x.w = 2 then frs l en f t (d ++ x.g) else frs l en f t d
theorem frs_pre (l : List Ev) (en f : Nat) : ∀ (em : List Ev) (t : Nat) (d : List Gft), NoWay em → t + tks em ≤ f → frs (em ++ l) en f t d = frs l en f (t + tks em) (d ++ sdg em)
  | [], t, d, _, _ => by rw [show sdg [] = [] from rfl, List.append_nil]; rfl
  | x :: em, t, d, hn, hf => by
    have hx : ¬ x.w = 3 := hn x (List.mem_cons_self ..)
    have hn' : NoWay em := fun y hy => hn y (List.mem_cons_of_mem _ hy)
    rw [tks_cons] at hf
    rw [List.cons_append, frs, if_neg hx, tks_cons, sdg]
    split
    · rename_i h0
      rw [if_pos h0] at hf
      rw [if_neg (by omega), if_neg (by omega), frs_pre l en f em (t + 1) d hn' (by omega), show t + 1 + tks em = t + (1 + tks em) by omega]
    · rename_i h0
      rw [if_neg h0] at hf
      split
      · rw [frs_pre l en f em t (d ++ x.g) hn' (by omega), Nat.zero_add, List.append_assoc]
      · rw [frs_pre l en f em t d hn' (by omega), Nat.zero_add]
theorem frs_way (i : Nat) (G : List Gft) (l : List Ev) (en f t : Nat) (d : List Gft) : frs (wy i G :: l) en f t d = ⟨3, i, G, t, d⟩ := by rw [frs, if_pos (show (wy i G).w = 3 from rfl)]; rfl
theorem frs_dry (l : List Ev) (en f : Nat) (d : List Gft) : frs (tk :: l) en f f d = ⟨10, 0, [], f, d⟩ := by rw [frs, if_neg (show ¬ tk.w = 3 by decide), if_pos (show tk.w = 0 from rfl), if_pos rfl]
theorem frs_nil (en f t : Nat) (d : List Gft) : frs [] en f t d = ⟨en, 0, [], t, d⟩ := rfl

/-- What Match tells. -/
structure MR where
  found : Bool
  fr : Nat
  «to» : Nat
  G : List Gft
  ticks : Nat
  told : List Gft
  err : Int
/-- From a place on, n places at most. -/
def lk (Q : Nat → Sq) (f : Nat) : Nat → Nat → Nat → List Gft → MR
  | 0, _, t, d => ⟨false, 0, 0, [], t, d, 0⟩
  | n + 1, j, t, d =>
    if (frs (Q j).1 (Q j).2 f t d).k = 3 then ⟨true, j, (frs (Q j).1 (Q j).2 f t d).a, (frs (Q j).1 (Q j).2 f t d).g, (frs (Q j).1 (Q j).2 f t d).t, (frs (Q j).1 (Q j).2 f t d).d, 0⟩
    else if (frs (Q j).1 (Q j).2 f t d).k = 0 then lk Q f n (j + 1) (frs (Q j).1 (Q j).2 f t d).t (frs (Q j).1 (Q j).2 f t d).d
    else if (frs (Q j).1 (Q j).2 f t d).k = 1 then ⟨false, 0, 0, [], (frs (Q j).1 (Q j).2 f t d).t, (frs (Q j).1 (Q j).2 f t d).d, 0⟩
    else ⟨false, 0, 0, [], 0, (frs (Q j).1 (Q j).2 f t d).d, if (frs (Q j).1 (Q j).2 f t d).k = 2 then 7 else 10⟩
theorem lk_found {Q : Nat → Sq} {f n j t a t' : Nat} {d d' G : List Gft} (h : frs (Q j).1 (Q j).2 f t d = ⟨3, a, G, t', d'⟩) : lk Q f (n + 1) j t d = ⟨true, j, a, G, t', d', 0⟩ := by rw [lk, h, if_pos rfl]
theorem lk_none {Q : Nat → Sq} {f n j t t' : Nat} {d d' : List Gft} (h : frs (Q j).1 (Q j).2 f t d = ⟨0, 0, [], t', d'⟩) : lk Q f (n + 1) j t d = lk Q f n (j + 1) t' d' := by rw [lk, h, if_neg (by simp), if_pos rfl]
theorem lk_shut {Q : Nat → Sq} {f n j t t' : Nat} {d d' : List Gft} (h : frs (Q j).1 (Q j).2 f t d = ⟨1, 0, [], t', d'⟩) : lk Q f (n + 1) j t d = ⟨false, 0, 0, [], t', d', 0⟩ := by rw [lk, h, if_neg (by simp), if_neg (by simp), if_pos rfl]
theorem lk_dry {Q : Nat → Sq} {f n j t t' : Nat} {d d' : List Gft} (h : frs (Q j).1 (Q j).2 f t d = ⟨10, 0, [], t', d'⟩) : lk Q f (n + 1) j t d = ⟨false, 0, 0, [], 0, d', 10⟩ := by rw [lk, h, if_neg (by simp), if_neg (by simp), if_neg (by simp)]; rfl
theorem lk_lost {Q : Nat → Sq} {f n j t t' : Nat} {d d' : List Gft} (h : frs (Q j).1 (Q j).2 f t d = ⟨2, 0, [], t', d'⟩) : lk Q f (n + 1) j t d = ⟨false, 0, 0, [], 0, d', 7⟩ := by rw [lk, h, if_neg (by simp), if_neg (by simp), if_neg (by simp)]; rfl

/-- What stands while it is looked for. -/
structure LC where
  s : ByteArray
  R : ByteArray → Option PT
  dg : Nat → ByteArray
  rn : ByteArray → Int
  fuel : Nat
  B : Nat
  g : Nat
  T : PT
  rt : Nat
  room : Nat
  RL : List (ByteArray × PT)
  Wd : World
  rv : Value
def LC.Q (Z : LC) (j : Nat) : Sq := D Z.s Z.R Z.dg (Z.fuel + 1) Z.T j []
def LC.ctx (Z : LC) (t0 : Nat) (D0 : Sq) (m0 : MS) (w : World) (N0 : List Nd) (L0 : List Gft) : Ctx := ⟨Z.B, Z.g, Z.s, Z.rn, Z.R, Z.dg, Z.fuel, t0, D0, m0, w, N0, L0, Z.RL, Z.Wd, 0⟩
/-- The machine between two places. -/
structure Idle (Z : LC) (t : Nat) (d : List Gft) (w : World) (m : MS) (N : List Nd) (O : List Int) (W : List Wr) (C : List Cr) (G S : List Gft) : Prop where
  rep : Rep w Z.B Z.g m N O W C G S
  s : m.s = Z.s
  fu : m.fuel = Z.fuel
  rt : m.root = (Z.rt : Int)
  room : m.room = Z.room
  ti : m.ticks = t
  le : t ≤ Z.fuel
  er : m.err = 0
  sh : m.shut = false
  td : m.told = d.length
  ly : Lies Z.rn N Z.T Z.rt
  ns : NS w Z.s N
  sd : S = d.take Z.room
  rv : m.rv = Z.rv
  ro : O.length = Z.RL.length ∧ ∀ (r : Nat) (z : Int), O[r]? = some z → z = -1 ∨ ∃ q R, z = ((q : Nat) : Int) ∧ Z.RL[r]? = some R ∧ Lies Z.rn N R.2 q
  nl : N.length + 4096 * unl O ≤ 300000
  pay : m.told ≤ 300010 * (2 * m.ticks + 1)
  bel : Below Z.Wd.heap.size Z.Wd w
/-- What is so of the rules. -/
def LC.Ok (Z : LC) : Prop := ∀ t0 D0 m0 w N0 L0, m0.rv = Z.rv → m0.room = Z.room → RC (Z.ctx t0 D0 m0 w N0 L0)
/-- How much was told: so much, and not too much. -/
def Tl (m : MS) (d : List Gft) : Prop := m.told = d.length ∧ m.told ≤ 100000000000
/-- Behind one place. -/
def Found (Z : LC) (t : Nat) (d : List Gft) (j : Nat) (m0 : MS) (w0 : World) (ok : Bool) (w : World) : Prop := ∃ m N O W C G S d', Rep w Z.B Z.g m N O W C G S ∧ Fr Z.g m0 m w0 w ∧ m.room = Z.room ∧ Tl m d' ∧ S = d'.take Z.room ∧
  if ok = true then m.err = 0 ∧ frs (Z.Q j).1 (Z.Q j).2 Z.fuel t d = ⟨3, m.i, G, m.ticks, d'⟩
  else ((m.err = 10 ∧ m.shut = false ∧ frs (Z.Q j).1 (Z.Q j).2 Z.fuel t d = ⟨10, 0, [], Z.fuel, d'⟩) ∨ (m.err = 7 ∧ m.shut = false ∧ frs (Z.Q j).1 (Z.Q j).2 Z.fuel t d = ⟨2, 0, [], m.ticks, d'⟩) ∨ (m.err = 0 ∧ m.shut = true ∧ frs (Z.Q j).1 (Z.Q j).2 Z.fuel t d = ⟨1, 0, [], m.ticks, d'⟩) ∨ (frs (Z.Q j).1 (Z.Q j).2 Z.fuel t d = ⟨0, 0, [], m.ticks, d'⟩ ∧ Idle Z m.ticks d' w m N O W C G S))

theorem next_found {Z : LC} {t j : Nat} {d : List Gft} {m : MS} {N : List Nd} {O : List Int} {S : List Gft} {w : World} (h : Idle Z t d w m N O [] [] [] S) (hrc : Z.Ok) (hb : m.begun = false) (hbb : m.b = -1) (hi : m.i = j) (hn : m.node = Z.rt) (hF : FineS Z.T) (hf : Z.fuel ≤ 100000) (hj : j ≤ Z.s.size) (hs : Z.s.size ≤ 65536) :
    Calls Tryd.prog 14 #[.pointer (some ⟨Z.g, 0, none⟩)] w fun e w' => ∃ ok, e = .returned (.bool ok) ∧ Found Z t d j m w ok w' := by
  have hrc1 := hrc t (Z.Q j) m w N d h.rv h.room
  have hSt : Start (Z.ctx t (Z.Q j) m w N d) w := by
    refine ⟨m, N, O, S, Z.fuel + 1, Z.T, h.rep, hb, h.s, h.fu, hf, ?_, h.ti, ?_, hs, h.sh, h.er, hbb, Fr.refl _ _ _, ?_, hF, Nat.le_refl _, ?_, ⟨rfl, rfl, ?_, ?_, Same.refl _⟩, h.ns, hrc1, h.bel, h.ro, h.nl, h.pay⟩
    · have := h.ti; have := h.le; show m.ticks ≤ Z.fuel; omega
    · show m.i ≤ Z.s.size; omega
    · rw [hn]; exact h.ly
    · show Z.Q j = dCome Z.s Z.R Z.dg (Z.fuel + 1) Z.T m.i [] [] []
      rw [hi, dCome_top]; rfl
    · show m.told = (d ++ []).length
      rw [List.append_nil]; exact h.td
    · show S = (d ++ []).take m.room
      rw [List.append_nil, h.room]; exact h.sd
  refine (next_first _ _ hSt).mono ?_
  rintro e w' ⟨ok, rfl, he⟩
  refine ⟨ok, rfl, ?_⟩
  cases ok with
  | true =>
    obtain ⟨m', N', O', W, C, G, S', cs, em, hc, hwl, hgl, hD⟩ := (show ∃ m' N' O W C G S cs em, Cor (Z.ctx t (Z.Q j) m w N d) w' m' N' O W C G S cs em ∧ W.length ≤ 2 * m'.ticks ∧ C.length + G.length ≤ 3 * m'.ticks ∧ Z.Q j = pre em (put (wy m'.i G) (dBack Z.s Z.R Z.dg cs)) from he)
    have hsaid : S' = (d ++ sdg em).take m.room := hc.kp.said
    refine ⟨m', N', O', W, C, G, S', d ++ sdg em, hc.rep, hc.fr, hc.kp.room.trans h.room, ⟨hc.kp.told, by have h1 : m'.told + 300010 * frC cs ≤ 300010 * (2 * m'.ticks + 0 + 1) := hc.pay; have h2 : m'.ticks ≤ Z.fuel := hc.ti; omega⟩, by rw [hsaid, h.room], ?_⟩
    rw [if_pos rfl]
    refine ⟨hc.er, ?_⟩
    have htk : m'.ticks = t + tks em := hc.tk
    have hti : m'.ticks ≤ Z.fuel := hc.ti
    rw [hD]
    show frs (em ++ (wy m'.i G :: (dBack Z.s Z.R Z.dg cs).1)) (dBack Z.s Z.R Z.dg cs).2 _ _ _ = _
    rw [frs_pre _ _ _ em t d hc.nw (by omega), frs_way, htk]
  | false =>
    obtain ⟨m', N', O', W, C, G, S', em, r, f, hnw, htk, hfu, hti, hkp, hns, ⟨hro, hnl, hpay⟩, he⟩ := (show ∃ m' N' O W C G S em, Rep w' Z.B Z.g m' N' O W C G S ∧ Fr Z.g m m' w w' ∧ NoWay em ∧ m'.ticks = t + tks em ∧ m'.fuel = Z.fuel ∧ m'.ticks ≤ Z.fuel ∧ Kept (Z.ctx t (Z.Q j) m w N d) m' N' S em ∧ NS w' Z.s N' ∧ (Rooted (Z.ctx t (Z.Q j) m w N d) N' O ∧ N'.length + 4096 * unl O ≤ 300000 ∧ m'.told ≤ 300010 * (2 * m'.ticks + 0 + 1)) ∧
      ((m'.err = 10 ∧ m'.shut = false ∧ m'.ticks = Z.fuel ∧ ∃ q, Z.Q j = pre em (put tk q)) ∨ (m'.err = 7 ∧ m'.shut = false ∧ Z.Q j = (em, 2)) ∨ (m'.err = 0 ∧ ∃ en, Z.Q j = (em, en) ∧ ((en = 0 ∧ m'.shut = false) ∨ (en = 1 ∧ m'.shut = true)))) from he)
    have hsaid : S' = (d ++ sdg em).take m.room := hkp.said
    rw [h.room] at hsaid
    refine ⟨m', N', O', W, C, G, S', d ++ sdg em, r, f, hkp.room.trans h.room, ⟨hkp.told, by omega⟩, hsaid, ?_⟩
    rw [if_neg (by simp)]
    rcases he with ⟨h1, h0, h3, q, hD⟩ | ⟨h1, h0, hD⟩ | ⟨h1, en, hD, h2⟩
    · refine .inl ⟨h1, h0, ?_⟩
      rw [hD]
      show frs (em ++ (tk :: q.1)) q.2 _ _ _ = _
      rw [frs_pre _ _ _ em t d hnw (by omega), show t + tks em = Z.fuel by omega, frs_dry]
    · refine .inr (.inl ⟨h1, h0, ?_⟩)
      have := frs_pre [] 2 Z.fuel em t d hnw (by omega)
      rw [List.append_nil, frs_nil] at this
      rw [hD, htk]
      exact this
    · have h4 : frs (Z.Q j).1 (Z.Q j).2 Z.fuel t d = ⟨en, 0, [], m'.ticks, d ++ sdg em⟩ := by
        have := frs_pre [] en Z.fuel em t d hnw (by omega)
        rw [List.append_nil, frs_nil] at this
        rw [hD, htk]
        exact this
      rcases h2 with ⟨rfl, h2⟩ | ⟨rfl, h2⟩
      · exact .inr (.inr (.inr ⟨h4, ⟨r, hkp.s.trans h.s, hfu, hkp.root.trans h.rt, hkp.room.trans h.room, rfl, hti, h1, h2, hkp.told, Lies.mono hkp.same h.ly, hns, hsaid, hkp.rv.trans h.rv, hro, hnl, hpay, h.bel.trans ((Fr.below h.rep f).mono hrc1.low)⟩⟩))
      · exact .inr (.inr (.inl ⟨h1, h2, h4⟩))
end Go.Proofs.YtkggmodabpjobaaDoor
