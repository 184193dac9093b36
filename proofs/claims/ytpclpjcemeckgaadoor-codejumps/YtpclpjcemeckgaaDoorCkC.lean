/- slices.Grow of nothing, slices.Concat of three lists of names. -/
import Derived.Test.YtpclpjcemeckgaaDoorStA
import Derived.Test.YtpclpjcemeckgaaDoorRowBase
import Derived.Lib.AppendZeros
namespace Go.Proofs.YtpclpjcemeckgaaDoor
open Go.RowKit

def strF (t : ByteArray) : List Value := [.string t]
theorem strF_len (t : ByteArray) : (strF t).length = 1 := rfl
theorem flat_str (l : List ByteArray) : flat strF l = l.map fun t => Value.string t := by
  induction l with
  | nil => rfl
  | cons t l ih => show strF t ++ flat strF l = _; rw [ih]; rfl
theorem info_strS : (Tryd.prog.info? 9).map (fun i => (i.zero, i.size, i.bytes)) = some (some (.string ⟨#[]⟩), 1, 16) := by kernel_rfl
abbrev TRow (w : World) (B : Nat) (v : Value) (l : List ByteArray) : Prop := Row w B 9 1 strF v l
set_option maxRecDepth 100000 in
set_option maxHeartbeats 1000000 in
theorem grow_any (n : Nat) (w : World) (hn : n ≤ 1000) :
    Calls Tryd.prog 53 #[.slice none 0 0, .int .i64 (n : Int)] w fun e w' => (∃ v, e = .returned v ∧ TRow w' w.heap.size v []) ∧ Below w.heap.size w w' := by
  rcases Nat.eq_zero_or_pos n with h0 | h0
  · subst h0
    go_enter Tryd.func53, Tryd.ntmps53
    go_wp2_with fail
    go_ret
    exact ⟨⟨_, rfl, World.ownsRow_nil _ _ _ _⟩, Below.refl _ _⟩
  · have hg : (0 : Int) < (n : Int) := by omega
    have hg0 : ¬ (n : Int) < 0 := by omega
    cases hi : Tryd.prog.info? 9 with
    | none => have := info_strS; rw [hi] at this; cases this
    | some i =>
      have hx := info_strS
      rw [hi] at hx
      simp only [Option.map_some, Option.some.injEq, Prod.mk.injEq] at hx
      obtain ⟨hz, hs, hb⟩ := hx
      have hr := Lib.run_append_nil_zeros (P := Tryd.prog) w 42 3 42 9 i _ .i64 .i64 Tryd.underlying42 Tryd.underlying3 hi hz n h0 (by omega) (by omega) (by rw [hb]; omega)
      have hge := grownCap_ge w n 0 9
      have hle := grownCap_le_maxLen w n 0 9 (by unfold maxLen; omega)
      generalize grownCap w n 0 9 = G at *
      obtain ⟨cs, hcs⟩ : ∃ cs, cs = Builtin.zeroCells (Value.string ⟨#[]⟩).cells n ++ Builtin.zeroCells (Value.string ⟨#[]⟩).cells (G - n) := ⟨_, rfl⟩
      rw [← hcs] at hr
      have hsz : cs.size = G := by rw [hcs, Array.size_append, size_zeroCells, size_zeroCells]; show n * 1 + (G - n) * 1 = G; omega
      have hbel : Below w.heap.size w (w.drew.alloc (.cells cs 9)) := ((Below.refl _ _).drew).alloc (Nat.le_refl _) _
      have HR := hide (show TRow (w.drew.alloc (.cells cs 9)) w.heap.size (.slice (some ⟨w.heap.size, 0, none⟩) 0 G) [] from ⟨rfl, .inr ⟨w.heap.size, G, cs, rfl, Nat.le_refl _, at_new rfl, Nat.zero_le _, hle, by omega, rfl⟩⟩)
      have HB := hide hbel
      clear hbel hcs hsz hz hs hb
      unfold maxLen at hle
      go_enter Tryd.func53, Tryd.ntmps53
      go_wp2_with (first
        | (at_builtin; refine Lib.wpList_append_run _ rfl _ _ _ _ rfl _ _ rfl rfl _ _ hr ?_)
        | fail)
      go_ret
      exact ⟨⟨_, rfl, unhide HR⟩, unhide HB⟩
/-- An append of nothing. -/
theorem app_none {w : World} {B : Nat} {v : Value} {l : List ByteArray} (h : TRow w B v l) (c : Nat) (ty : TypeId) : (Builtin.append_ #[42, 42] ty #[v, .slice none 0 c]).run Tryd.prog w = .ok v w := by
  cases hi : Tryd.prog.info? 9 with
  | none => have := info_strS; rw [hi] at this; cases this
  | some i =>
    rcases h.2 with ⟨rfl, _⟩ | ⟨g, cap, cur, rfl, _, _, hnc, _, _, _⟩
    · simp [Builtin.append_, run_underlying Tryd.underlying42, sizeOf, typeInfo, hi, Builtin.lenOf, Builtin.firstCells]
    · simp [Builtin.append_, run_underlying Tryd.underlying42, sizeOf, typeInfo, hi, Builtin.lenOf, Builtin.firstCells, storeCells, hnc]
theorem str_one (l : List ByteArray) : ∀ u ∈ flat strF l, u.oneCell' = true := by
  rw [flat_str]
  intro u hu
  obtain ⟨t, -, rfl⟩ := List.mem_map.1 hu
  rfl
/-- An append of a list of names. -/
theorem app_names {w : World} {B : Nat} {v : Value} {l : List ByteArray} (h : TRow w B v l) (N : NL) (hN : N.In w) (hB : B ≤ w.heap.size) (hl : l.length ≤ 100000) (hn : N.l.length ≤ 100000) (ty : TypeId) :
    ∃ v' w', (Builtin.append_ #[42, 42] ty #[v, N.v]).run Tryd.prog w = .ok v' w' ∧ TRow w' B v' (l ++ N.l) ∧ w.grownBy w' v.ownBlock := by
  cases hi : Tryd.prog.info? 9 with
  | none => have := info_strS; rw [hi] at this; cases this
  | some i =>
    have hx := info_strS
    rw [hi] at hx
    simp only [Option.map_some, Option.some.injEq, Prod.mk.injEq] at hx
    obtain ⟨hz, hs, hb⟩ := hx
    obtain ⟨xa, gb, ob, cap, ll⟩ := N
    cases xa with
    | none =>
      have h0 : ll = [] := by
        rcases Nat.eq_zero_or_pos ll.length with q | q
        · exact List.eq_nil_of_length_eq_zero q
        · have := hN.at_ q; cases this
      subst h0
      refine ⟨v, w, app_none h cap ty, ?_, ⟨rfl, rfl, rfl, Nat.le_refl _, fun _ _ _ => rfl⟩⟩
      rw [List.append_nil]
      exact h
    | some ad =>
      have hnews : ∀ j u, (flat strF ll)[j]? = some u → w.cell? (ad.add j) = some u := fun j u hj => by
        rw [flat_str, List.getElem?_map] at hj
        obtain ⟨t, ht, rfl⟩ := Option.map_eq_some_iff.1 hj
        have hpos : 0 < ll.length := Nat.lt_of_le_of_lt (Nat.zero_le _) (List.getElem?_eq_some_iff.1 ht).1
        have had : ad = ⟨gb, ob, none⟩ := Option.some.inj (hN.at_ hpos)
        rw [had]
        rw [Addr.add_lit]
        exact (hN.cell j t ht).1
      obtain ⟨v', w', h1, h2, h3, -, -⟩ := run_append_own_at (P := Tryd.prog) w B 42 ty 9 i (.string ⟨#[]⟩) 1 16 Tryd.underlying42 hi hz hs hb rfl (by decide) v l.length (flat strF l) h ad ll.length cap (flat strF ll) (by rw [flat_str, List.length_map, Nat.mul_one]) hnews (str_one ll) (by unfold maxLen; simp only at hn; omega) (by simp only at hn; omega) hB
      refine ⟨v', w', h1, ?_, h3⟩
      unfold TRow Row
      rw [List.length_append, flat_append]
      exact h2
theorem wpl_names {w : World} {ops : Array Oper} {rest : List Oper} {o : Oper} {a : Act} {Q : Exit → Act → World → Prop} (hgd : o.guard = none) (s x : Operand)
    (ho : o.op = .call { callee := .builtin .append, args := #[s, x], argTypes := #[42, 42] }) {B : Nat} {v : Value} {l : List ByteArray} (h : TRow w B v l) (N : NL) (hN : N.In w) (hB : B ≤ w.heap.size) (hl : l.length ≤ 100000) (hn : N.l.length ≤ 100000) (hs : a.eval s = v) (hx : a.eval x = N.v)
    (hK : ∀ v' w', TRow w' B v' (l ++ N.l) → w.grownBy w' v.ownBlock → wpList Tryd.prog ops Q rest (a.put o.dst v') w') : wpList Tryd.prog ops Q (o :: rest) a w := by
  refine wpList_plain hgd fun K hK' => ?_
  obtain ⟨v', w', hr, h2, h3⟩ := app_names h N hN hB hl hn o.type
  unfold Oper.wp execOp
  simp only [ho, resolve, invoke, builtin, Sem.run_bind, Sem.run_pure, Result.andThen_ok, List.map_toArray, List.map_cons, List.map_nil, hs, hx, hr]
  exact hK' _ _ (hK v' w' h2 h3)
end Go.Proofs.YtpclpjcemeckgaaDoor
