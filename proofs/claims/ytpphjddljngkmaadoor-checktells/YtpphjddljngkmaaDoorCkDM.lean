/- slices.Grow of nothing, slices.Concat of three lists of names. slices.Concat of lists of names. -/
import Derived.Test.YtpphjddljngkmaaDoorStAM
import Derived.Test.YtpphjddljngkmaaDoorRowBaseM
import Derived.Lib.AppendZeros
namespace Go.Proofs.YtpphjddljngkmaaDoor
open Go.RowKit

def strF (t : ByteArray) : List Value := [.string t]
theorem strF_len (t : ByteArray) : (strF t).length = 1 := rfl
theorem flat_str (l : List ByteArray) : flat strF l = l.map fun t => Value.string t := by
  induction l with
  | nil => rfl
  | cons t l ih => show strF t ++ flat strF l = _; rw [ih]; rfl
theorem info_strS : (Tryd.prog.info? 9).map (fun i => (i.zero, i.size, i.bytes)) = some (some (.string ⟨#[]⟩), 1, 16) := by kernel_rfl
abbrev TRow (w : World) (B : Nat) (v : Value) (l : List ByteArray) : Prop := Row w B 9 1 strF v l
set_option maxRecDepth 100000 in
set_option maxHeartbeats 1000000 in
theorem grow_any (n : Nat) (w : World) (hn : n ≤ 1000) :
    Calls Tryd.prog 68 #[.slice none 0 0, .int .i64 (n : Int)] w fun e w' => (∃ v, e = .returned v ∧ TRow w' w.heap.size v []) ∧ Below w.heap.size w w' := by
  rcases Nat.eq_zero_or_pos n with h0 | h0
  · subst h0
    go_enter Tryd.func68, Tryd.ntmps68
    go_wp2_with fail
    go_ret
    exact ⟨⟨_, rfl, World.ownsRow_nil _ _ _ _⟩, Below.refl _ _⟩
  · have hg : (0 : Int) < (n : Int) := by omega
    have hg0 : ¬ (n : Int) < 0 := by omega
    cases hi : Tryd.prog.info? 9 with
    | none => have := info_strS; rw [hi] at this; cases this
    | some i =>
      have hx := info_strS
      rw [hi] at hx
      simp only [Option.map_some, Option.some.injEq, Prod.mk.injEq] at hx
      obtain ⟨hz, hs, hb⟩ := hx
      have hr := Lib.run_append_nil_zeros (P := Tryd.prog) w 47 3 47 9 i _ .i64 .i64 Tryd.underlying47 Tryd.underlying3 hi hz n h0 (by omega) (by omega) (by rw [hb]; omega)
      have hge := grownCap_ge w n 0 9
      have hle := grownCap_le_maxLen w n 0 9 (by unfold maxLen; omega)
      generalize grownCap w n 0 9 = G at *
      obtain ⟨cs, hcs⟩ : ∃ cs, cs = Builtin.zeroCells (Value.string ⟨#[]⟩).cells n ++ Builtin.zeroCells (Value.string ⟨#[]⟩).cells (G - n) := ⟨_, rfl⟩
      rw [← hcs] at hr
      have hsz : cs.size = G := by rw [hcs, Array.size_append, size_zeroCells, size_zeroCells]; show n * 1 + (G - n) * 1 = G; omega
      have hbel : Below w.heap.size w (w.drew.alloc (.cells cs 9)) := ((Below.refl _ _).drew).alloc (Nat.le_refl _) _
      have HR : Hid (TRow (w.drew.alloc (.cells cs 9)) w.heap.size (.slice (some ⟨w.heap.size, 0, none⟩) 0 G) []) := hide (⟨rfl, .inr ⟨w.heap.size, G, cs, rfl, Nat.le_refl _, at_new rfl, Nat.zero_le _, hle, by omega, rfl⟩⟩)
      have HB := hide hbel
      clear hbel hcs hsz hz hs hb
      unfold maxLen at hle
      go_enter Tryd.func68, Tryd.ntmps68
      go_wp2_with (first
        | (at_builtin; refine Lib.wpList_append_run _ rfl _ _ _ _ rfl _ _ rfl rfl _ _ hr ?_)
        | fail)
      go_ret
      exact ⟨⟨_, rfl, unhide HR⟩, unhide HB⟩
/-- An append of nothing. -/
theorem app_none {w : World} {B : Nat} {v : Value} {l : List ByteArray} (h : TRow w B v l) (c : Nat) (ty : TypeId) : (Builtin.append_ #[47, 47] ty #[v, .slice none 0 c]).run Tryd.prog w = .ok v w := by
  cases hi : Tryd.prog.info? 9 with
  | none => have := info_strS; rw [hi] at this; cases this
  | some i =>
    rcases h.2 with ⟨rfl, _⟩ | ⟨g, cap, cur, rfl, _, _, hnc, _, _, _⟩
    · simp [Builtin.append_, run_underlying Tryd.underlying47, sizeOf, typeInfo, hi, Builtin.lenOf, Builtin.firstCells]
    · simp [Builtin.append_, run_underlying Tryd.underlying47, sizeOf, typeInfo, hi, Builtin.lenOf, Builtin.firstCells, storeCells, hnc]
theorem str_one (l : List ByteArray) : ∀ u ∈ flat strF l, u.oneCell' = true := by
  rw [flat_str]
  intro u hu
  obtain ⟨t, -, rfl⟩ := List.mem_map.1 hu
  rfl
/-- An append of a list of names. -/
theorem app_names {w : World} {B : Nat} {v : Value} {l : List ByteArray} (h : TRow w B v l) (N : NL) (hN : N.In w) (hB : B ≤ w.heap.size) (hl : l.length ≤ 100000) (hn : N.l.length ≤ 100000) (ty : TypeId) :
    ∃ v' w', (Builtin.append_ #[47, 47] ty #[v, N.v]).run Tryd.prog w = .ok v' w' ∧ TRow w' B v' (l ++ N.l) ∧ w.grownBy w' v.ownBlock := by
  cases hi : Tryd.prog.info? 9 with
  | none => have := info_strS; rw [hi] at this; cases this
  | some i =>
    have hx := info_strS
    rw [hi] at hx
    simp only [Option.map_some, Option.some.injEq, Prod.mk.injEq] at hx
    obtain ⟨hz, hs, hb⟩ := hx
    obtain ⟨xa, gb, ob, cap, ll⟩ := N
    cases xa with
    | none =>
      have h0 : ll = [] := by
        rcases Nat.eq_zero_or_pos ll.length with q | q
        · exact List.eq_nil_of_length_eq_zero q
        · have := hN.at_ q; cases this
      subst h0
      refine ⟨v, w, app_none h cap ty, ?_, ⟨rfl, rfl, rfl, Nat.le_refl _, fun _ _ _ => rfl⟩⟩
      rw [List.append_nil]
      exact h
    | some ad =>
      have hnews : ∀ j u, (flat strF ll)[j]? = some u → w.cell? (ad.add j) = some u := fun j u hj => by
        rw [flat_str, List.getElem?_map] at hj
        obtain ⟨t, ht, rfl⟩ := Option.map_eq_some_iff.1 hj
        have hpos : 0 < ll.length := Nat.lt_of_le_of_lt (Nat.zero_le _) (List.getElem?_eq_some_iff.1 ht).1
        have had : ad = ⟨gb, ob, none⟩ := Option.some.inj (hN.at_ hpos)
        rw [had]
        rw [Addr.add_lit]
        exact (hN.cell j t ht).1
      obtain ⟨v', w', h1, h2, h3, -, -⟩ := run_append_own_at (P := Tryd.prog) w B 47 ty 9 i (.string ⟨#[]⟩) 1 16 Tryd.underlying47 hi hz hs hb rfl (by decide) v l.length (flat strF l) h ad ll.length cap (flat strF ll) (by rw [flat_str, List.length_map, Nat.mul_one]) hnews (str_one ll) (by unfold maxLen; simp only at hn; omega) (by simp only at hn; omega) hB
      refine ⟨v', w', h1, ?_, h3⟩
      unfold TRow Row
      rw [List.length_append, flat_append]
      exact h2
theorem wpl_names {w : World} {ops : Array Oper} {rest : List Oper} {o : Oper} {a : Act} {Q : Exit → Act → World → Prop} (hgd : o.guard = none) (s x : Operand)
    (ho : o.op = .call { callee := .builtin .append, args := #[s, x], argTypes := #[47, 47] }) {B : Nat} {v : Value} {l : List ByteArray} (h : TRow w B v l) (N : NL) (hN : N.In w) (hB : B ≤ w.heap.size) (hl : l.length ≤ 100000) (hn : N.l.length ≤ 100000) (hs : a.eval s = v) (hx : a.eval x = N.v)
    (hK : ∀ v' w', TRow w' B v' (l ++ N.l) → w.grownBy w' v.ownBlock → wpList Tryd.prog ops Q rest (a.put o.dst v') w') : wpList Tryd.prog ops Q (o :: rest) a w := by
  refine wpList_plain hgd fun K hK' => ?_
  obtain ⟨v', w', hr, h2, h3⟩ := app_names h N hN hB hl hn o.type
  unfold Oper.wp execOp
  simp only [ho, resolve, invoke, builtin, Sem.run_bind, Sem.run_pure, Result.andThen_ok, List.map_toArray, List.map_cons, List.map_nil, hs, hx, hr]
  exact hK' _ _ (hK v' w' h2 h3)
end Go.Proofs.YtpphjddljngkmaaDoor

namespace Go.Proofs.YtpphjddljngkmaaDoor
open Go.RowKit

def catL (Ns : List NL) : List ByteArray := Ns.flatMap (·.l)
theorem catL_step {Ns : List NL} {k : Nat} {N : NL} (h : Ns[k]? = some N) : catL (Ns.take (k + 1)) = catL (Ns.take k) ++ N.l := by
  unfold catL
  rw [List.take_add_one, h]
  simp
theorem catL_len {Ns : List NL} (h : ∀ N ∈ Ns, N.l.length ≤ 100) : ∀ k, (catL (Ns.take k)).length ≤ 100 * k
  | 0 => by simp [catL]
  | k + 1 => by
    have ih := catL_len h k
    cases hk : Ns[k]? with
    | none => rw [List.take_add_one, hk]; simp only [Option.toList_none, List.append_nil]; omega
    | some N =>
      have := h N (List.mem_of_getElem? hk)
      rw [catL_step hk, List.length_append]; omega
theorem size_slS : (Tryd.prog.info? 47).map (·.size) = some 1 := by kernel_rfl
set_option maxRecDepth 100000 in
set_option maxHeartbeats 4000000 in
theorem concat_any (Ns : List NL) (g : Nat) (w : World) (hlen : Ns.length ≤ 10) (hN : ∀ i N, Ns[i]? = some N → w.cell? ⟨g, i, none⟩ = some N.v ∧ N.In w ∧ N.l.length ≤ 100) :
    Calls Tryd.prog 56 #[.slice (some ⟨g, 0, none⟩) Ns.length Ns.length] w fun e w' => (∃ v, e = .returned v ∧ TRow w' w.heap.size v (catL Ns)) ∧ Below w.heap.size w w' := by
  have HN := hide hN
  have HLB := hide (catL_len (Ns := Ns) fun N h => by obtain ⟨i, hi⟩ := List.getElem?_of_mem h; exact (hN i N hi).2.2)
  clear hN
  obtain ⟨n, hn⟩ : ∃ n, n = Ns.length := ⟨_, rfl⟩
  rw [← hn] at hlen ⊢
  have HL := hide hn
  clear hn
  go_enter Tryd.func56, Tryd.ntmps56
  go_wp2_with fail
  go_loop [3, 11] (fun s i => ∃ k : Nat, k ≤ n ∧ i = .int .i64 (k : Int) ∧ s = .int .i64 ((catL (Ns.take k)).length : Int)) (fun _ i => n - (intOf i).toNat)
  case atStart => exact ⟨0, by omega, rfl, rfl⟩
  case round =>
    obtain ⟨k, hk, rfl, rfl⟩ := hrel
    have hb := unhide HLB k
    rcases Nat.lt_or_ge k n with hlt | hge
    · obtain ⟨N, hNk⟩ : ∃ N, Ns[k]? = some N := ⟨Ns[k]'(by have := unhide HL; omega), List.getElem?_eq_getElem _⟩
      obtain ⟨ct, hIn, h100⟩ := unhide HN k N hNk
      have hcm := hIn.cap
      have hmx := hIn.max
      have HS : Hid ((catL (Ns.take (k + 1))).length = (catL (Ns.take k)).length + N.l.length) := hide (by rw [catL_step hNk, List.length_append])
      have hix := sl_idx (g := g) (o := 0) (cap := n) (i := k) (n := n) Tryd.underlying53 size_slS hlt
      rw [Nat.zero_add] at hix
      unfold NL.v at ct
      unfold maxLen at hmx
      clear hIn hNk
      generalize (catL (Ns.take k)).length = m at *
      generalize N.l.length = nl at *
      have hng : ¬ (m : Int) + (nl : Int) < 0 := by omega
      go_wp2_with fail
      exact ⟨⟨k + 1, by omega, rfl, by rw [unhide HS]; rfl⟩, by simp [intOf]; omega⟩
    · obtain rfl : k = n := by omega
      have HG := hide (grow_any (catL (Ns.take k)).length w (by omega))
      generalize (catL (Ns.take k)).length = m at *
      go_wp2_with fail
      refine (unhide HG).mono ?_
      rintro e w1 ⟨⟨v1, rfl, hrow1⟩, hb1⟩
      have HR1 := hide hrow1
      have HB1 := hide hb1
      clear hrow1 hb1 HG
      go_wp2_with fail
      go_loopw [6, 27] (fun v i wr => ∃ j : Nat, j ≤ k ∧ i = .int .i64 (j : Int) ∧ Hid (TRow wr w.heap.size v (catL (Ns.take j))) ∧ Hid (Below w.heap.size w wr)) (fun _ i _ => k - (intOf i).toNat)
      case atStart => exact ⟨0, by omega, rfl, unhide HR1, unhide HB1⟩
      case round =>
        obtain ⟨j, hj, rfl, HR, HB⟩ := hrel
        have hbj := unhide HLB j
        have hsr := (unhide HB).size
        rcases Nat.lt_or_ge j k with hlt | hge2
        · obtain ⟨N, hNk⟩ : ∃ N, Ns[j]? = some N := ⟨Ns[j]'(by have := unhide HL; omega), List.getElem?_eq_getElem _⟩
          obtain ⟨ct0, hIn0, h100⟩ := unhide HN j N hNk
          have ct := cell_later (unhide HB) ct0
          have HIn := hide (hIn0.later (unhide HB))
          have hix := sl_idx (g := g) (o := 0) (cap := k) (i := j) (n := k) Tryd.underlying53 size_slS hlt
          rw [Nat.zero_add] at hix
          have HS := hide (catL_step hNk)
          have hg : (j : Int) < (k : Int) := by omega
          clear ct0 hIn0 hNk
          go_wp2_with (first
            | (at_builtin; refine wpl_names rfl _ _ rfl (unhide HR) N (unhide HIn) hsr (by omega) (by omega) rfl rfl ?_; intro v' w6 hrow hgrow)
            | fail)
          have HK := hide (And.intro hrow (below_grownR (unhide HB) (unhide HR) (Nat.le_refl _) hgrow))
          clear hrow hgrow
          exact ⟨⟨j + 1, by omega, rfl, by rw [unhide HS]; exact (unhide HK).1, (unhide HK).2⟩, by simp [intOf]; omega⟩
        · obtain rfl : j = k := by omega
          go_wp2_with fail
          go_ret
          refine ⟨⟨_, rfl, ?_⟩, unhide HB⟩
          have h := unhide HR
          rw [unhide HL, List.take_length] at h
          exact h
end Go.Proofs.YtpphjddljngkmaaDoor
