/- Each coming to a node does what is to be done: for patterns that look for no byte of a text, tell nothing at once and call nobody. -/
import Derived.Test.YtkphpcgmfkhpnaaDoorScanSimS
import Derived.Test.YtkphpcgmfkhpnaaDoorScanComeS
import Derived.Test.YtkphpcgmfkhpnaaDoorScanFurther
import Derived.Test.YtkphpcgmfkhpnaaDoorScanComeM
import Derived.Test.YtkphpcgmfkhpnaaDoorScanComeE
import Derived.Test.YtkphpcgmfkhpnaaDoorScanNext
namespace Go.Proofs.YtkphpcgmfkhpnaaDoor
open Go.RowKit

def pre (l : List Ev) (q : Sq) : Sq := (l ++ q.1, q.2)
theorem pre_put (l : List Ev) (x : Ev) (q : Sq) : pre l (put x q) = pre (l ++ [x]) q := by simp [pre, put]
def NoWay (l : List Ev) : Prop := ∀ x ∈ l, x.w ≠ 3
theorem noWay_nil : NoWay [] := fun _ h => by cases h
theorem noWay_one {x : Ev} (h : x.w ≠ 3) : NoWay [x] := fun y hy => by rw [List.mem_singleton] at hy; rw [hy]; exact h
theorem NoWay.append {a b : List Ev} (h : NoWay a) (k : NoWay b) : NoWay (a ++ b) := fun x hx => by
  rcases List.mem_append.1 hx with y | y
  · exact h x y
  · exact k x y

/-- What stands as it is while next goes on. -/
structure Ctx where
  B : Nat
  g : Nat
  s : ByteArray
  rn : ByteArray → Int
  R : ByteArray → Option PT
  dg : Nat → ByteArray
  fuel : Nat
  t0 : Nat
  D0 : Sq
  m0 : MS
  w0 : World
  N0 : List Nd

/-- How many were told. -/
def sds (l : List Ev) : Nat := (l.filter fun x => x.w == 2).length
theorem sds_append (l m : List Ev) : sds (l ++ m) = sds l + sds m := by unfold sds; rw [List.filter_append, List.length_append]
/-- What of the machine stays, and how many it has told. -/
structure Kept (X : Ctx) (m : MS) (N : List Nd) (em : List Ev) : Prop where
  both : (m.root, m.s) = (X.m0.root, X.m0.s)
  room : m.room = X.m0.room
  told : m.told = X.m0.told + sds em
  same : Same X.N0 N
theorem Kept.step {X : Ctx} {m m' : MS} {N : List Nd} {em : List Ev} (h : Kept X m N em) (ev : List Ev) (hk : (m'.root, m'.s) = (m.root, m.s) ∧ m'.room = m.room ∧ m'.told = m.told + sds ev) : Kept X m' N (em ++ ev) :=
  ⟨hk.1.trans h.both, hk.2.1.trans h.room, by rw [hk.2.2, h.told, sds_append]; omega, h.same⟩
theorem Kept.root {X : Ctx} {m : MS} {N : List Nd} {em : List Ev} (h : Kept X m N em) : m.root = X.m0.root := congrArg Prod.fst h.both
theorem Kept.s {X : Ctx} {m : MS} {N : List Nd} {em : List Ev} (h : Kept X m N em) : m.s = X.m0.s := congrArg Prod.snd h.both
theorem Kept.to {X : Ctx} {m m' : MS} {N : List Nd} {em : List Ev} (h : Kept X m N em) (hk : (m'.root, m'.s) = (m.root, m.s) ∧ m'.room = m.room ∧ m'.told = m.told) : Kept X m' N em :=
  ⟨hk.1.trans h.both, hk.2.1.trans h.room, hk.2.2.trans h.told, h.same⟩

structure Cor (X : Ctx) (w : World) (m : MS) (N : List Nd) (O : List Int) (W : List Wr) (C : List Cr) (G S : List Gft) (cs : List Ch) (em : List Ev) : Prop where
  rep : Rep w X.B X.g m N O W C G S
  s : m.s = X.s
  fu : m.fuel = X.fuel
  big : X.fuel ≤ 100000
  ti : m.ticks ≤ X.fuel
  i : m.i ≤ X.s.size
  sz : X.s.size ≤ 65536
  sh : m.shut = false
  er : m.err = 0
  be : m.begun = true
  fr : Fr X.g X.m0 m X.w0 w
  chs : ChsS X.rn X.s.size N (3 * m.ticks) W G C cs
  dc : DeepC (X.fuel - m.ticks) cs
  nw : NoWay em
  tk : m.ticks = X.t0 + tks em
  wl : W.length ≤ 2 * m.ticks + 1
  gl : C.length + G.length ≤ 3 * m.ticks + 1
  kp : Kept X m N em
  ns : NS w X.s N
theorem Cor.step {X : Ctx} {w w' : World} {m m' : MS} {N : List Nd} {O : List Int} {W W' : List Wr} {C C' : List Cr} {G G' S : List Gft} {cs cs' : List Ch} {em : List Ev} (h : Cor X w m N O W C G S cs em) (ev : List Ev) (r : Rep w' X.B X.g m' N O W' C' G' S) (f : Fr X.g m m' w w') (hs : m'.s = m.s) (hfu : m'.fuel = m.fuel) (hsh : m'.shut = m.shut) (her : m'.err = m.err) (hbe : m'.begun = m.begun) (hi : m'.i ≤ X.s.size) (hti : m'.ticks ≤ X.fuel) (htk : m'.ticks = m.ticks + tks ev) (hnw : NoWay ev)
    (hch : ChsS X.rn X.s.size N (3 * m'.ticks) W' G' C' cs') (hdc : DeepC (X.fuel - m'.ticks) cs') (hwl : W'.length ≤ 2 * m'.ticks + 1) (hgl : C'.length + G'.length ≤ 3 * m'.ticks + 1) (hkp : (m'.root, m'.s) = (m.root, m.s) ∧ m'.room = m.room ∧ m'.told = m.told + sds ev := by exact ⟨rfl, rfl, rfl⟩) : Cor X w' m' N O W' C' G' S cs' (em ++ ev) :=
  ⟨r, hs.trans h.s, hfu.trans h.fu, h.big, hti, hi, h.sz, hsh.trans h.sh, her.trans h.er, hbe.trans h.be, h.fr.trans f, hch, hdc, h.nw.append hnw, by rw [htk, h.tk, tks_append]; omega, hwl, hgl, h.kp.step ev hkp, h.ns.fr h.rep f⟩
theorem Cor.stepN {X : Ctx} {w w' : World} {m m' : MS} {N N' : List Nd} {O : List Int} {W W' : List Wr} {C C' : List Cr} {G G' S : List Gft} {cs cs' : List Ch} {em : List Ev} (h : Cor X w m N O W C G S cs em) (sm : Same N N') (ns : NS w' X.s N') (ev : List Ev) (r : Rep w' X.B X.g m' N' O W' C' G' S) (f : Fr X.g m m' w w') (hs : m'.s = m.s) (hfu : m'.fuel = m.fuel) (hsh : m'.shut = m.shut) (her : m'.err = m.err) (hbe : m'.begun = m.begun) (hi : m'.i ≤ X.s.size) (hti : m'.ticks ≤ X.fuel) (htk : m'.ticks = m.ticks + tks ev) (hnw : NoWay ev)
    (hch : ChsS X.rn X.s.size N' (3 * m'.ticks) W' G' C' cs') (hdc : DeepC (X.fuel - m'.ticks) cs') (hwl : W'.length ≤ 2 * m'.ticks + 1) (hgl : C'.length + G'.length ≤ 3 * m'.ticks + 1) (hkp : (m'.root, m'.s) = (m.root, m.s) ∧ m'.room = m.room ∧ m'.told = m.told + sds ev := by exact ⟨rfl, rfl, rfl⟩) : Cor X w' m' N' O W' C' G' S cs' (em ++ ev) :=
  ⟨r, hs.trans h.s, hfu.trans h.fu, h.big, hti, hi, h.sz, hsh.trans h.sh, her.trans h.er, hbe.trans h.be, h.fr.trans f, hch, hdc, h.nw.append hnw, by rw [htk, h.tk, tks_append]; omega, hwl, hgl, ⟨(h.kp.step ev hkp).both, (h.kp.step ev hkp).room, (h.kp.step ev hkp).told, h.kp.same.trans sm⟩, ns⟩

def M0 (X : Ctx) (k : Nat) (w : World) : Prop := ∃ m N O W C G S cs em ch n T, Cor X w m N O W C G S cs em ∧ ChainS X.rn X.s.size N W m.b ch ∧ Lies X.rn N T m.node ∧ FineS T ∧ X.fuel - m.ticks + 1 ≤ n ∧ Deep (X.fuel - m.ticks) 0 m.i ch ∧ C.length + G.length + ch.length ≤ 3 * m.ticks + 1 ∧ X.D0 = pre em (dCome X.s X.R X.dg n T m.i G ch cs) ∧ (dCome X.s X.R X.dg n T m.i G ch cs).1.length = k
def M1 (X : Ctx) (k : Nat) (w : World) : Prop := ∃ m N O W C G S cs em ch, Cor X w m N O W C G S cs em ∧ ChainS X.rn X.s.size N W m.b ch ∧ Deep (X.fuel - m.ticks) 1 m.i ch ∧ W.length ≤ 2 * m.ticks ∧ C.length + G.length + ch.length ≤ 3 * m.ticks ∧ X.D0 = pre em (dBehind X.s X.R X.dg m.i G ch cs) ∧ (dBehind X.s X.R X.dg m.i G ch cs).1.length = k
def M2 (X : Ctx) (k : Nat) (w : World) : Prop := ∃ m N O W C G S cs em, Cor X w m N O W C G S cs em ∧ W.length ≤ 2 * m.ticks ∧ C.length + G.length ≤ 3 * m.ticks ∧ X.D0 = pre em (dBack X.s X.R X.dg cs) ∧ (dBack X.s X.R X.dg cs).1.length = k
def MM (X : Ctx) (t k : Nat) (w : World) : Prop := if t = 0 then M0 X k w else if t = 1 then M1 X k w else M2 X k w
/-- How next ends. -/
def EE (X : Ctx) (ok : Bool) (w : World) : Prop :=
  if ok = true then ∃ m N O W C G S cs em, Cor X w m N O W C G S cs em ∧ W.length ≤ 2 * m.ticks ∧ C.length + G.length ≤ 3 * m.ticks ∧ X.D0 = pre em (put (wy m.i G) (dBack X.s X.R X.dg cs))
  else ∃ m N O W C G S em, Rep w X.B X.g m N O W C G S ∧ Fr X.g X.m0 m X.w0 w ∧ NoWay em ∧ m.ticks = X.t0 + tks em ∧ m.fuel = X.fuel ∧ m.ticks ≤ X.fuel ∧ Kept X m N em ∧ NS w X.s N ∧
    ((m.err = 10 ∧ m.shut = false ∧ m.ticks = X.fuel ∧ ∃ q, X.D0 = pre em (put tk q)) ∨ (m.err = 0 ∧ ∃ en, X.D0 = (em, en) ∧ ((en = 0 ∧ m.shut = false) ∨ (en = 1 ∧ m.shut = true))))

theorem onl_le {s : ByteArray} {T : PT} {i e : Nat} (hi : i ≤ s.size) (ho : okS T.k T.t T.n T.len) (h : onl s T i = some e) : e ≤ s.size := by
  have hk := ho.1
  rcases (show T.k = 3 ∨ T.k = 4 ∨ T.k = 5 ∨ T.k = 6 ∨ T.k = 7 ∨ T.k = 1 ∨ T.k = 2 ∨ T.k = 8 ∨ T.k = 9 ∨ T.k = 10 ∨ T.k = 11 ∨ T.k = 12 ∨ 13 ≤ T.k by omega) with q | q | q | q | q | q | q | q | q | q | q | q | q
  · rw [show onl s T i = if i < s.size ∧ inB T.t (byt s i) = true then some (i + 1) else none by unfold onl; simp [q]] at h
    split at h
    · injection h with h; omega
    · cases h
  · rw [show onl s T i = if i < s.size ∧ inB T.t (byt s i) = false then some (i + 1) else none by unfold onl; simp [q]] at h
    split at h
    · injection h with h; omega
    · cases h
  · rw [show onl s T i = if i < unt s T.t false i then some (unt s T.t false i) else none by unfold onl; simp [q]] at h
    have := unt_le s T.t false _ i (Nat.le_refl _) hi
    split at h
    · injection h with h; omega
    · cases h
  · rw [show onl s T i = if unt s T.t true i < s.size then some (unt s T.t true i) else none by unfold onl; simp [q]] at h
    have := unt_le s T.t true _ i (Nat.le_refl _) hi
    split at h
    · injection h with h; omega
    · cases h
  · rw [show onl s T i = none by unfold onl; simp [q]] at h
    cases h
  · rw [show onl s T i = if sub s i (i + T.t.size) = T.t then some (i + T.t.size) else none by unfold onl; simp [q]] at h
    split at h
    · rename_i h1
      have := congrArg ByteArray.size h1
      rw [sub_size] at this
      injection h with h
      omega
    · cases h
  · rw [show onl s T i = if i + T.n.toNat ≤ s.size then some (i + T.n.toNat) else none by unfold onl; simp [q]] at h
    split at h
    · injection h with h; omega
    · cases h
  · rw [show onl s T i = if i ≤ T.n.toNat ∧ T.n.toNat ≤ s.size then some T.n.toNat else none by unfold onl; simp [q]] at h
    split at h
    · injection h with h; omega
    · cases h
  · rw [show onl s T i = if i + T.n.toNat ≤ s.size then some (s.size - T.n.toNat) else none by unfold onl; simp [q]] at h
    split at h
    · injection h with h; omega
    · cases h
  · rw [show onl s T i = if i = T.n.toNat then some i else none by unfold onl; simp [q]] at h
    split at h
    · injection h with h; omega
    · cases h
  · rw [show onl s T i = if i + T.n.toNat = s.size then some i else none by unfold onl; simp [q]] at h
    split at h
    · injection h with h; omega
    · cases h
  · rw [show onl s T i = some s.size by unfold onl; simp [q]] at h
    injection h with h; omega
  · unfold onl at h
    rw [if_neg (by omega), if_neg (by omega), if_neg (by omega), if_neg (by omega), if_neg (by omega), if_neg (by omega), if_neg (by omega), if_neg (by omega), if_neg (by omega), if_neg (by omega), if_neg (by omega)] at h
    cases h

theorem onl_ge {s : ByteArray} {T : PT} {i e : Nat} (hi : i ≤ s.size) (ho : okS T.k T.t T.n T.len) (h : onl s T i = some e) : i ≤ e := by
  have hk := ho.1
  rcases (show T.k = 3 ∨ T.k = 4 ∨ T.k = 5 ∨ T.k = 6 ∨ T.k = 7 ∨ T.k = 1 ∨ T.k = 2 ∨ T.k = 8 ∨ T.k = 9 ∨ T.k = 10 ∨ T.k = 11 ∨ T.k = 12 ∨ 13 ≤ T.k by omega) with q | q | q | q | q | q | q | q | q | q | q | q | q
  · rw [show onl s T i = if i < s.size ∧ inB T.t (byt s i) = true then some (i + 1) else none by unfold onl; simp [q]] at h
    split at h
    · injection h with h; omega
    · cases h
  · rw [show onl s T i = if i < s.size ∧ inB T.t (byt s i) = false then some (i + 1) else none by unfold onl; simp [q]] at h
    split at h
    · injection h with h; omega
    · cases h
  · rw [show onl s T i = if i < unt s T.t false i then some (unt s T.t false i) else none by unfold onl; simp [q]] at h
    have := unt_ge s T.t false _ i (Nat.le_refl _)
    split at h
    · injection h with h; omega
    · cases h
  · rw [show onl s T i = if unt s T.t true i < s.size then some (unt s T.t true i) else none by unfold onl; simp [q]] at h
    have := unt_ge s T.t true _ i (Nat.le_refl _)
    split at h
    · injection h with h; omega
    · cases h
  · rw [show onl s T i = none by unfold onl; simp [q]] at h
    cases h
  · rw [show onl s T i = if sub s i (i + T.t.size) = T.t then some (i + T.t.size) else none by unfold onl; simp [q]] at h
    split at h
    · rename_i h1
      have := congrArg ByteArray.size h1
      rw [sub_size] at this
      injection h with h
      omega
    · cases h
  · rw [show onl s T i = if i + T.n.toNat ≤ s.size then some (i + T.n.toNat) else none by unfold onl; simp [q]] at h
    split at h
    · injection h with h; omega
    · cases h
  · rw [show onl s T i = if i ≤ T.n.toNat ∧ T.n.toNat ≤ s.size then some T.n.toNat else none by unfold onl; simp [q]] at h
    split at h
    · injection h with h; omega
    · cases h
  · rw [show onl s T i = if i + T.n.toNat ≤ s.size then some (s.size - T.n.toNat) else none by unfold onl; simp [q]] at h
    split at h
    · injection h with h; omega
    · cases h
  · rw [show onl s T i = if i = T.n.toNat then some i else none by unfold onl; simp [q]] at h
    split at h
    · injection h with h; omega
    · cases h
  · rw [show onl s T i = if i + T.n.toNat = s.size then some i else none by unfold onl; simp [q]] at h
    split at h
    · injection h with h; omega
    · cases h
  · rw [show onl s T i = some s.size by unfold onl; simp [q]] at h
    injection h with h; omega
  · unfold onl at h
    rw [if_neg (by omega), if_neg (by omega), if_neg (by omega), if_neg (by omega), if_neg (by omega), if_neg (by omega), if_neg (by omega), if_neg (by omega), if_neg (by omega), if_neg (by omega), if_neg (by omega)] at h
    cases h

theorem deepC_cons {f : Nat} {c : Ch} {cs : List Ch} (h1 : f + 1 ≤ c.n) (h2 : c.T.k = 20 → f ≤ c.m) (h3 : Deep f 1 c.i c.ch) (h : DeepC f cs) : DeepC f (c :: cs) := fun d hd => by
  rcases List.mem_cons.1 hd with rfl | hd
  · exact ⟨h1, h2, h3⟩
  · exact h d hd
theorem deep_cons {f d i : Nat} {k : Wk} {ch : List Wk} (h1 : f + 1 ≤ k.n) (h2 : k.T.k = 20 → f + d ≤ k.m) (h3 : k.i ≤ i) (h : Deep f d i ch) : Deep f d i (k :: ch) := fun j hj => by
  rcases List.mem_cons.1 hj with rfl | hj
  · exact ⟨h1, h2, h3⟩
  · exact h j hj

theorem only_fine {g gn o : Nat} {s : ByteArray} {T : PT} {x : Nd} {i : Nat} (h1 : x.k = T.k) (h2 : x.t = T.t) (h3 : x.n = T.n) (ho : okS T.k T.t T.n T.len) (hl : leafK T.k) (hno : ¬ (3 ≤ T.k ∧ T.k ≤ 6)) (hs : s.size ≤ 65536) (hi : i ≤ s.size) (w1 : World) (c0 : w1.cell? ⟨g, 0, none⟩ = some (.string s)) (hc : ∀ k u, (ndV x)[k]? = some u → w1.cell? ⟨gn, o + k, none⟩ = some u) :
    Calls Tryd.prog 40 #[.pointer (some ⟨g, 0, none⟩), .pointer (some ⟨gn, o, none⟩), .int .i64 (i : Int)] w1 fun e w' => OnlPost s T i w1 e w' := by
  have k0 : w1.cell? ⟨gn, o, none⟩ = some (.int .i64 T.k) := by rw [← h1]; exact hc 0 _ rfl
  have k1 : w1.cell? ⟨gn, o + 1, none⟩ = some (.string T.t) := by rw [← h2]; exact hc 1 _ rfl
  have k2 : w1.cell? ⟨gn, o + 2, none⟩ = some (.int .i64 T.n) := by rw [← h3]; exact hc 2 _ rfl
  obtain ⟨l17, l16, l20, l19, l13, l7, l14, l18, l21, l22, l24, l23⟩ := hl
  obtain ⟨a, b, c, _⟩ := ho
  rcases (show T.k = 1 ∨ T.k = 2 ∨ T.k = 8 ∨ T.k = 9 ∨ T.k = 10 ∨ T.k = 11 ∨ T.k = 12 ∨ T.k = 15 by omega) with h | h | h | h | h | h | h | h
  · exact only_lit c0 k0 k1 hs hi h (b (.inl h))
  · exact only_len c0 k0 k2 hs hi h (c (by omega))
  · exact only_tab c0 k0 k2 hs hi h (c (by omega))
  · exact only_rtab c0 k0 k2 hs hi h (c (by omega))
  · exact only_pos c0 k0 k2 hs hi h (c (by omega))
  · exact only_rpos c0 k0 k2 hs hi h (c (by omega))
  · exact only_rem c0 k0 hs hi h
  · exact only_fail c0 k0 hs hi h

theorem sim_come (X : Ctx) (k : Nat) (w : World) (h : M0 X k w) : Calls Tryd.prog 26 #[.pointer (some ⟨X.g, 0, none⟩)] w fun e w' => Turns (MM X) (EE X) k e w' := by
  obtain ⟨m, N, O, W, C, G, S, cs, em, ch, n, T, hc, hch, hl, hF, hn, hd, hlen, hD, rfl⟩ := h
  obtain ⟨x, hx, e1, e2, e3, e4, e5, e6, e7, hk⟩ := hl.node
  have ho := hF.ok
  have hti := hc.ti
  have hfu := hc.fu
  have hbig := hc.big
  have hwl := hc.wl
  have hgl := hc.gl
  by_cases hf : m.ticks = X.fuel
  · obtain ⟨n', rfl⟩ : ∃ n', n = n' + 1 := ⟨n - 1, by omega⟩
    refine (come_fuel hc.rep (hf.trans hfu.symm)).mono ?_
    rintro e w' ⟨rfl, r, f⟩
    obtain ⟨q, hq⟩ : ∃ q, dCome X.s X.R X.dg (n' + 1) T m.i G ch cs = put tk q := by
      obtain ⟨q, hq⟩ := D_tk X.s X.R X.dg n' T m.i G
      exact ⟨_, by unfold dCome; rw [hq, bd_tk, thn_put]⟩
    refine .inr ⟨rfl, ?_⟩
    unfold EE
    rw [if_neg (by decide)]
    exact ⟨_, N, O, W, C, G, S, em, r, hc.fr.trans f, hc.nw, hc.tk, hfu, hc.ti, hc.kp.to ⟨rfl, rfl, rfl⟩, hc.ns.fr hc.rep f, .inl ⟨rfl, hc.sh, hf, q, by rw [hD, hq]⟩⟩
  · obtain ⟨n', rfl⟩ : ∃ n', n = n' + 2 := ⟨n - 2, by omega⟩
    have htf : m.ticks < m.fuel := by omega
    have hfu2 : m.fuel ≤ 100000 := by omega
    have hC : C.length ≤ 1000000 := by omega
    have hchs1 : ChsS X.rn X.s.size N (3 * (m.ticks + 1)) W G C cs := hc.chs.more (by omega)
    have hdc1 : DeepC (X.fuel - (m.ticks + 1)) cs := hc.dc.less (by omega)
    have hd1 : Deep (X.fuel - (m.ticks + 1)) 1 m.i ch := hd.less (by omega) (by omega) (Nat.le_refl _)
    have htk1 : tks [tk] = 1 := rfl
    have hnt : NoWay [tk] := noWay_one (by decide)
    rcases (show (leafK T.k ∧ (3 ≤ T.k ∧ T.k ≤ 6)) ∨ (leafK T.k ∧ ¬ (3 ≤ T.k ∧ T.k ≤ 6)) ∨ (T.k = 20 ∨ T.k = 16) ∨ T.k = 19 ∨ (T.k = 13 ∨ T.k = 14 ∨ T.k = 7) ∨ (T.k = 18 ∨ T.k = 21) ∨ T.k = 17 by unfold leafK; have := ho.1; omega) with ⟨q, q36⟩ | ⟨q, qno⟩ | q | q | q | q | q
    · have hns : NS w m.s N := by rw [hc.s]; exact hc.ns
      have hms : m.s.size ≤ 65536 := by rw [hc.s]; exact hc.sz
      have hmi : m.i ≤ m.s.size := by rw [hc.s]; exact hc.i
      have htl := ho.2.1 (by omega)
      refine (come_set (T := T) hc.rep hx htf hfu2 (by rw [e1]; exact q) hns (fun gn cap w1 r1 hnv1 ns1 => by
        rcases (show T.k = 3 ∨ T.k = 4 ∨ T.k = 5 ∨ T.k = 6 by omega) with z | z | z | z
        · exact only_any r1 hnv1 hx e1 e2 z ns1 htl hms hmi
        · exact only_notany r1 hnv1 hx e1 e2 z ns1 htl hms hmi
        · exact only_span r1 hnv1 hx e1 e2 z ns1 htl hms hmi
        · exact only_break r1 hnv1 hx e1 e2 z ns1 htl hms hmi)).mono ?_
      rintro e w' ⟨N', sm, ns', (⟨a, rfl, ha, r, f⟩ | ⟨rfl, ha, r, f⟩)⟩
      · rw [hc.s] at ha ns'
        have hst := come_leaf (R := X.R) (dg := X.dg) (n := n' + 1) (g := G) (ch := ch) (cs := cs) q ha
        refine .inl ⟨1, _, rfl, by omega, ?_, ⟨_, N', O, W, C, G, S, cs, em ++ [tk], ch, hc.stepN sm ns' [tk] r f rfl rfl rfl rfl rfl (onl_le hc.i ho ha) (by show m.ticks + 1 ≤ _; omega) (by show m.ticks + 1 = _; rw [htk1]) hnt (hchs1.mono sm) hdc1 (by show _ ≤ 2 * (m.ticks + 1) + 1; omega) (by show _ ≤ 3 * (m.ticks + 1) + 1; omega), hch.mono sm, hd1.less (Nat.le_refl _) (Nat.le_refl _) (onl_ge hc.i ho ha), by show _ ≤ 2 * (m.ticks + 1); omega, by show _ ≤ 3 * (m.ticks + 1); omega, ?_, rfl⟩⟩
        · rw [hst]; exact Nat.lt_succ_self _
        · rw [hD, hst, pre_put]
      · rw [hc.s] at ha ns'
        have hst := come_leaf_no (R := X.R) (dg := X.dg) (n := n' + 1) (g := G) (ch := ch) (cs := cs) q ha
        refine .inl ⟨2, _, rfl, by omega, ?_, ⟨_, N', O, W, C, G, S, cs, em ++ [tk], hc.stepN sm ns' [tk] r f rfl rfl rfl rfl rfl hc.i (by show m.ticks + 1 ≤ _; omega) (by show m.ticks + 1 = _; rw [htk1]) hnt (hchs1.mono sm) hdc1 (by show _ ≤ 2 * (m.ticks + 1) + 1; omega) (by show _ ≤ 3 * (m.ticks + 1) + 1; omega), by show _ ≤ 2 * (m.ticks + 1); omega, by show _ ≤ 3 * (m.ticks + 1); omega, ?_, rfl⟩⟩
        · rw [hst]; exact Nat.lt_succ_self _
        · rw [hD, hst, pre_put]
    · refine (come_one (T := T) hc.rep hx htf hfu2 (by rw [e1]; exact q) (fun gn w1 c0 hcl => by rw [hc.s] at c0 ⊢; exact only_fine e1 e2 e3 ho q qno hc.sz hc.i w1 c0 hcl)).mono ?_
      rintro e w' (⟨a, rfl, ha, r, f⟩ | ⟨rfl, ha, r, f⟩)
      · rw [hc.s] at ha
        have hst := come_leaf (R := X.R) (dg := X.dg) (n := n' + 1) (g := G) (ch := ch) (cs := cs) q ha
        refine .inl ⟨1, _, rfl, by omega, ?_, ⟨_, N, O, W, C, G, S, cs, em ++ [tk], ch, hc.step [tk] r f rfl rfl rfl rfl rfl (onl_le hc.i ho ha) (by show m.ticks + 1 ≤ _; omega) (by show m.ticks + 1 = _; rw [htk1]) hnt hchs1 hdc1 (by show _ ≤ 2 * (m.ticks + 1) + 1; omega) (by show _ ≤ 3 * (m.ticks + 1) + 1; omega), hch, hd1.less (Nat.le_refl _) (Nat.le_refl _) (onl_ge hc.i ho ha), by show _ ≤ 2 * (m.ticks + 1); omega, by show _ ≤ 3 * (m.ticks + 1); omega, ?_, rfl⟩⟩
        · rw [hst]; exact Nat.lt_succ_self _
        · rw [hD, hst, pre_put]
      · rw [hc.s] at ha
        have hst := come_leaf_no (R := X.R) (dg := X.dg) (n := n' + 1) (g := G) (ch := ch) (cs := cs) q ha
        refine .inl ⟨2, _, rfl, by omega, ?_, ⟨_, N, O, W, C, G, S, cs, em ++ [tk], hc.step [tk] r f rfl rfl rfl rfl rfl hc.i (by show m.ticks + 1 ≤ _; omega) (by show m.ticks + 1 = _; rw [htk1]) hnt hchs1 hdc1 (by show _ ≤ 2 * (m.ticks + 1) + 1; omega) (by show _ ≤ 3 * (m.ticks + 1) + 1; omega), by show _ ≤ 2 * (m.ticks + 1); omega, by show _ ≤ 3 * (m.ticks + 1); omega, ?_, rfl⟩⟩
        · rw [hst]; exact Nat.lt_succ_self _
        · rw [hD, hst, pre_put]
    · refine (come_stay hc.rep hx htf hfu2 (by rw [e1]; exact q) hC).mono ?_
      rintro e w' ⟨rfl, v, r, f⟩
      have hst : dCome X.s X.R X.dg (n' + 2) T m.i G ch cs = put tk (dBehind X.s X.R X.dg m.i G ch (⟨n' + 1, n', T, 0, m.i, ch, G⟩ :: cs)) := by
        rcases q with q | q
        · exact come_arbno q
        · exact come_fence q n'
      have hnew : ChsS X.rn X.s.size N (3 * (m.ticks + 1)) W G (C ++ [⟨m.node, -1, m.i, m.b, W.length, G.length⟩]) (⟨n' + 1, n', T, 0, m.i, ch, G⟩ :: cs) :=
        ⟨C, _, rfl, hl, hF, by show T.k = 16 ∨ T.k = 19 ∨ T.k = 20 ∨ T.k = 13 ∨ T.k = 14 ∨ T.k = 7; omega, rfl, hc.i, Nat.le_refl _, Nat.le_refl _, take_all G, fun z => by have : T.k = 19 := z; omega, fun z => by have : T.k = 13 := z; omega, fun z => by have : T.k = 14 ∨ T.k = 7 := z; omega, by show (C ++ [_]).length + G.length + ch.length ≤ _; rw [List.length_append, List.length_singleton]; omega, by show ChainS _ _ _ (W.take W.length) _ _; rw [take_all]; exact hch, by show ChsS _ _ _ _ (W.take W.length) (G.take G.length) _ _; rw [take_all, take_all]; exact hchs1⟩
      have hdn : DeepC (X.fuel - (m.ticks + 1)) (⟨n' + 1, n', T, 0, m.i, ch, G⟩ :: cs) := deepC_cons (by show _ ≤ n' + 1; omega) (fun _ => by show _ ≤ n'; omega) hd1 hdc1
      refine .inl ⟨1, _, rfl, by omega, ?_, ⟨_, N, O, W, _, G, S, _, em ++ [tk], ch, hc.step [tk] r f rfl rfl rfl rfl rfl hc.i (by show m.ticks + 1 ≤ _; omega) (by show m.ticks + 1 = _; rw [htk1]) hnt hnew hdn (by show _ ≤ 2 * (m.ticks + 1) + 1; omega) (by show _ ≤ 3 * (m.ticks + 1) + 1; rw [List.length_append, List.length_singleton]; omega), hch, hd1, by show _ ≤ 2 * (m.ticks + 1); omega, by show _ ≤ 3 * (m.ticks + 1); rw [List.length_append, List.length_singleton]; omega, ?_, rfl⟩⟩
      · rw [hst]; exact Nat.lt_succ_self _
      · rw [hD, hst, pre_put]
    · refine (come_altW hc.rep hx htf hfu2 (by rw [e1]; exact q) hC).mono ?_
      rintro e w' ⟨rfl, v, r, f⟩
      have hst := come_alt (s := X.s) (R := X.R) (dg := X.dg) (n := n' + 1) (i := m.i) (g := G) (ch := ch) (cs := cs) q
      have h2 := ho.2.2.2.1 (by omega)
      have hnew : ChsS X.rn X.s.size N (3 * (m.ticks + 1)) W G (C ++ [⟨m.node, (x.fi : Int), m.i, m.b, W.length, G.length⟩]) (⟨n' + 1, 0, T, 0, m.i, ch, G⟩ :: cs) :=
        ⟨C, _, rfl, hl, hF, by show T.k = 16 ∨ T.k = 19 ∨ T.k = 20 ∨ T.k = 13 ∨ T.k = 14 ∨ T.k = 7; omega, rfl, hc.i, Nat.le_refl _, Nat.le_refl _, take_all G, fun _ => ⟨x, hx, rfl, by show 0 < T.len; omega⟩, fun z => by have : T.k = 13 := z; omega, fun z => by have : T.k = 14 ∨ T.k = 7 := z; omega, by show (C ++ [_]).length + G.length + ch.length ≤ _; rw [List.length_append, List.length_singleton]; omega, by show ChainS _ _ _ (W.take W.length) _ _; rw [take_all]; exact hch, by show ChsS _ _ _ _ (W.take W.length) (G.take G.length) _ _; rw [take_all, take_all]; exact hchs1⟩
      have hdn : DeepC (X.fuel - (m.ticks + 1)) (⟨n' + 1, 0, T, 0, m.i, ch, G⟩ :: cs) := deepC_cons (by show _ ≤ n' + 1; omega) (fun z => by have : T.k = 20 := z; omega) hd1 hdc1
      refine .inl ⟨2, _, rfl, by omega, ?_, ⟨_, N, O, W, _, G, S, _, em ++ [tk], hc.step [tk] r f rfl rfl rfl rfl rfl hc.i (by show m.ticks + 1 ≤ _; omega) (by show m.ticks + 1 = _; rw [htk1]) hnt hnew hdn (by show _ ≤ 2 * (m.ticks + 1) + 1; omega) (by show _ ≤ 3 * (m.ticks + 1) + 1; rw [List.length_append, List.length_singleton]; omega), by show _ ≤ 2 * (m.ticks + 1); omega, by show _ ≤ 3 * (m.ticks + 1); rw [List.length_append, List.length_singleton]; omega, ?_, rfl⟩⟩
      · rw [hst]; exact Nat.lt_succ_self _
      · rw [hD, hst, pre_put]
    · refine (come_many hc.rep hx htf hfu2 (by rw [e1]; omega) hC).mono ?_
      rintro e w' ⟨rfl, v, r, f⟩
      have hst : dCome X.s X.R X.dg (n' + 2) T m.i G ch cs = put tk (dBack X.s X.R X.dg (⟨n' + 1, 0, T, m.i, m.i, ch, G⟩ :: cs)) := by
        rcases q with q | q | q
        · exact come_arb q
        · exact come_bal q
        · exact come_breakx q
      have hnew : ChsS X.rn X.s.size N (3 * (m.ticks + 1)) W G (C ++ [⟨m.node, (m.i : Int), m.i, m.b, W.length, G.length⟩]) (⟨n' + 1, 0, T, m.i, m.i, ch, G⟩ :: cs) :=
        ⟨C, _, rfl, hl, hF, by show T.k = 16 ∨ T.k = 19 ∨ T.k = 20 ∨ T.k = 13 ∨ T.k = 14 ∨ T.k = 7; omega, rfl, hc.i, Nat.le_refl _, Nat.le_refl _, take_all G, fun z => by have : T.k = 19 := z; omega, fun _ => ⟨rfl, by have := hc.i; show m.i ≤ _; omega, Nat.le_refl _⟩, fun _ => ⟨rfl, hc.i, Nat.le_refl _⟩, by show (C ++ [_]).length + G.length + ch.length ≤ _; rw [List.length_append, List.length_singleton]; omega, by show ChainS _ _ _ (W.take W.length) _ _; rw [take_all]; exact hch, by show ChsS _ _ _ _ (W.take W.length) (G.take G.length) _ _; rw [take_all, take_all]; exact hchs1⟩
      have hdn : DeepC (X.fuel - (m.ticks + 1)) (⟨n' + 1, 0, T, m.i, m.i, ch, G⟩ :: cs) := deepC_cons (by show _ ≤ n' + 1; omega) (fun z => by have : T.k = 20 := z; omega) hd1 hdc1
      refine .inl ⟨2, _, rfl, by omega, ?_, ⟨_, N, O, W, _, G, S, _, em ++ [tk], hc.step [tk] r f rfl rfl rfl rfl rfl hc.i (by show m.ticks + 1 ≤ _; omega) (by show m.ticks + 1 = _; rw [htk1]) hnt hnew hdn (by show _ ≤ 2 * (m.ticks + 1) + 1; omega) (by show _ ≤ 3 * (m.ticks + 1) + 1; rw [List.length_append, List.length_singleton]; omega), by show _ ≤ 2 * (m.ticks + 1); omega, by show _ ≤ 3 * (m.ticks + 1); rw [List.length_append, List.length_singleton]; omega, ?_, rfl⟩⟩
      · rw [hst]; exact Nat.lt_succ_self _
      · rw [hD, hst, pre_put]
    · have hl1 : 1 ≤ T.len := by
        rcases q with q | q
        · have := ho.2.2.2.1 (by omega); omega
        · have := ho.2.2.2.2 (by omega); omega
      refine (come_kid hc.rep hx htf hfu2 (by rw [e1]; omega) (by
        rcases q with q | q
        · have := ho.2.2.2.1 (by omega)
          right; omega
        · left; omega) (by omega) (by omega)).mono ?_
      rintro e w' ⟨rfl, v, r, f⟩
      have hst : dCome X.s X.R X.dg (n' + 2) T m.i G ch cs = put tk (dCome X.s X.R X.dg (n' + 1) (T.kid 0) m.i G (⟨n' + 1, 0, T, 0, m.i⟩ :: ch) cs) := by
        rcases q with q | q
        · exact come_cat q (ho.2.2.2.1 (by omega))
        · exact come_cond q
      have hnew : ChainS X.rn X.s.size N (W ++ [⟨m.node, x.fi, m.i, m.b⟩]) (W.length : Int) (⟨n' + 1, 0, T, 0, m.i⟩ :: ch) :=
        ⟨W.length, ⟨m.node, x.fi, m.i, m.b⟩, rfl, by simp, hl, hF, by show T.k = 18 ∨ T.k = 20 ∨ T.k = 21; omega, rfl, hc.i, fun z => ⟨x, hx, rfl, by have z : T.k = 18 := z; have := ho.2.2.2.1 (by omega); show 0 + 1 < T.len; omega⟩, by rw [List.take_left]; exact hch⟩
      have hdn : Deep (X.fuel - (m.ticks + 1)) 0 m.i (⟨n' + 1, 0, T, 0, m.i⟩ :: ch) := deep_cons (by show _ ≤ n' + 1; omega) (fun z => by have : T.k = 20 := z; omega) (Nat.le_refl _) (hd1.less (Nat.le_refl _) (by omega) (Nat.le_refl _))
      refine .inl ⟨0, _, rfl, by omega, ?_, ⟨_, N, O, _, C, G, S, cs, em ++ [tk], _, n' + 1, T.kid 0, hc.step [tk] r f rfl rfl rfl rfl rfl hc.i (by show m.ticks + 1 ≤ _; omega) (by show m.ticks + 1 = _; rw [htk1]) hnt (hchs1.appendW _) hdc1 (by show _ ≤ 2 * (m.ticks + 1) + 1; rw [List.length_append, List.length_singleton]; omega) (by show _ ≤ 3 * (m.ticks + 1) + 1; omega), hnew, hk 0 (by omega), hF.kid (by omega), by show X.fuel - (m.ticks + 1) + 1 ≤ _; omega, hdn, by show _ ≤ 3 * (m.ticks + 1) + 1; rw [List.length_cons]; omega, ?_, rfl⟩⟩
      · rw [hst]; exact Nat.lt_succ_self _
      · rw [hD, hst, pre_put]
    · refine (come_abortW hc.rep hx htf hfu2 (by rw [e1]; exact q)).mono ?_
      rintro e w' ⟨rfl, r, f⟩
      have hst := come_abort (s := X.s) (R := X.R) (dg := X.dg) (n := n' + 1) (i := m.i) (g := G) (ch := ch) (cs := cs) q
      refine .inr ⟨rfl, ?_⟩
      unfold EE
      rw [if_neg (by decide)]
      exact ⟨_, N, O, W, C, G, S, em ++ [tk], r, hc.fr.trans f, hc.nw.append hnt, by show m.ticks + 1 = _; rw [tks_append, htk1, hc.tk]; omega, hfu, (by show m.ticks + 1 ≤ _; omega), hc.kp.step [tk] ⟨rfl, rfl, rfl⟩, hc.ns.fr hc.rep f, .inr ⟨hc.er, 1, by rw [hD, hst]; rfl, .inr ⟨rfl, rfl⟩⟩⟩
end Go.Proofs.YtkphpcgmfkhpnaaDoor
