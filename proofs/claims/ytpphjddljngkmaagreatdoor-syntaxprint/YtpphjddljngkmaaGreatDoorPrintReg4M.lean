/- A number's digits behind a row of bytes: nothing but that row changes. The three statements of pats.appendWorded that leave their order open. -/
import Derived.Test.YtpphjddljngkmaaGreatDoorPrintBrkAM
import Derived.Test.YtpphjddljngkmaaGreatDoorQuote4M
import Derived.Lib.AppendIntMem
import Derived.Lib.ItoaMem
import Derived.Lib.BufferKept
import Derived.Lib.Slices
import Derived.Lib.Walk
import Derived.Lib.ItoaWalk
namespace Go.Proofs.YtpphjddljngkmaaGreatDoor
open Go.RowKit Go.Sort

theorem many_ext {w : World} {B : Nat} {v : Value} {l : List UInt8} (h : Bytes w B v l) (hB : B ≤ w.heap.size) (ds : List UInt8) (ad : Addr) (n c : Nat) (hn : ds.length = n) (hc : ∀ j u, (ds.map bc)[j]? = some u → w.cell? (ad.add j) = some u) (hl : l.length + n ≤ 100000000) (ty : TypeId) :
    ∃ v' w', (Builtin.append_ #[50, 50] ty #[v, .slice (some ad) n c]).run Tryz.prog w = .ok v' w' ∧ Bytes w' B v' (l ++ ds) ∧ Ext w w' v v' := by
  have hinf := info_u8
  cases hi : Tryz.prog.info? 5 with
  | none => simp [hi] at hinf
  | some i0 =>
    simp only [hi, Option.map_some, Option.some.injEq, Prod.mk.injEq] at hinf
    obtain ⟨hz0, hz1, hz2⟩ := hinf
    obtain ⟨v', w', hr, h2, h3, -, h5⟩ := run_append_own_at (P := Tryz.prog) w B 50 ty 5 i0 (.int .u8 0) 1 1 Tryz.underlying50 hi hz0 hz1 hz2 rfl (by decide) v l.length (l.map bc) h ad n c (ds.map bc) (by rw [List.length_map]; omega) hc (by intro u hu; obtain ⟨b, -, rfl⟩ := List.mem_map.1 hu; rfl) (by unfold maxLen; omega) (by omega) hB
    refine ⟨v', w', hr, ?_, h3, ?_⟩
    · unfold Bytes
      rw [List.length_append, List.map_append, hn]
      exact h2
    · rcases h5 with e | e
      · exact .inl e
      · exact .inr fun k hk => by rw [e] at hk; cases hk; exact Nat.le_refl _
theorem wpx_many {w : World} {ops : Array Oper} {rest : List Oper} {o : Oper} {a : Act} {Q : Exit → Act → World → Prop} (hgd : o.guard = none) (sl x : Operand)
    (ho : o.op = .call { callee := .builtin .append, args := #[sl, x], argTypes := #[50, 50] })
    (B : Nat) (v : Value) (l ds : List UInt8) (ad : Addr) (n c : Nat) (hs : a.eval sl = v) (hx : a.eval x = .slice (some ad) n c) (h : Bytes w B v l) (hB : B ≤ w.heap.size) (hn : ds.length = n) (hc : ∀ j u, (ds.map bc)[j]? = some u → w.cell? (ad.add j) = some u) (hl : l.length + n ≤ 100000000)
    (hK : ∀ v' w', Bytes w' B v' (l ++ ds) → Ext w w' v v' → wpList Tryz.prog ops Q rest (a.put o.dst v') w') : wpList Tryz.prog ops Q (o :: rest) a w := by
  refine wpList_plain hgd fun K hK' => ?_
  obtain ⟨v', w', hr, h1, h2⟩ := many_ext h hB ds ad n c hn hc hl o.type
  unfold Oper.wp execOp
  simp only [ho, resolve, invoke, builtin, Sem.run_bind, Sem.run_pure, Result.andThen_ok, List.map_toArray, List.map_cons, List.map_nil, hs, hx, hr]
  exact hK' _ _ (hK v' w' h1 h2)
def DigPost (B : Nat) (w : World) (v : Value) (l ds : List UInt8) (e : Ending) (w' : World) : Prop := ∃ v', e = .returned v' ∧ Bytes w' B v' (l ++ ds) ∧ Ext w w' v v'
set_option maxRecDepth 100000 in
set_option maxHeartbeats 1000000 in
theorem uint_small (u : Nat) (hu : u < 100) {w : World} {B : Nat} {v : Value} {l : List UInt8} (h : Bytes w B v l) (hB : B ≤ w.heap.size) (hl : l.length + 20 ≤ 100000000) :
    Calls Tryz.prog 102 #[v, .int .u64 (u : Int), .int .i64 10] w (DigPost B w v l (Lib.decDigits u)) := by
  have h1 : (u : Int) < 100 := by omega
  have hcv : wrap64 (u : Int) = (u : Int) := IntWalk.wrap64_in _ (by omega)
  have hcv2 : IntKind.i64.wrap (u : Int) = (u : Int) := (IntWalk.i64_left _).trans hcv
  have hds : (⟨(Lib.decDigits u).toArray⟩ : ByteArray).size ≤ 20 := by
    show (Lib.decDigits u).toArray.size ≤ 20
    rw [List.size_toArray, Lib.decDigits_length]
    have : Lib.nDigits u ≤ 20 := by
      rcases Nat.eq_zero_or_pos u with rfl | hp
      · rw [Lib.nDigits]; decide
      · have := Lib.numDigits_eq u hp (by omega)
        split at this <;> omega
    exact this
  have HS := hide (Tryz.internal_strconv_small u hu)
  have HB := hide (And.intro h (And.intro hB hds))
  clear h hB hds
  go_enter Tryz.func102, Tryz.ntmps102
  go_wp2_with (first | (go_at_call 107; refine (unhide HS _).mono ?_; rintro e w' ⟨rfl, rfl⟩) | (at_builtin; refine wpx_str rfl _ _ rfl B _ l _ rfl rfl (unhide HB).1 (unhide HB).2.1 (by have := (unhide HB).2.2; omega) ?_; intro v' w2 hv' he'))
  go_ret
  exact ⟨_, rfl, hv', he'⟩
set_option maxRecDepth 100000 in
set_option maxHeartbeats 2000000 in
theorem uint_big (u : Nat) (hu : 100 ≤ u) (hu2 : u ≤ 65536) {w : World} {B : Nat} {v : Value} {l : List UInt8} (h : Bytes w B v l) (hB : B ≤ w.heap.size) (hl : l.length + 20 ≤ 100000000) (htab : Lib.TabIs Tryz.prog w "internal/strconv.uint64pow10" .u64 Lib.pow10Tab) :
    Calls Tryz.prog 102 #[v, .int .u64 (u : Int), .int .i64 10] w (DigPost B w v l (Lib.decDigits u)) := by
  have hnd : Lib.nDigits u ≤ 20 := by have := Lib.numDigits_eq u (by omega) (by omega); split at this <;> omega
  have hal : Tryz.prog.arrayLen 146 = 24 := by kernel_rfl
  have hsl : ∀ W, (Instr.sliceAt 146 (.pointer (some ⟨w.heap.size, 0, none⟩)) none (some (.int .i64 (Lib.nDigits u : Int))) none).run Tryz.prog W = .ok (.slice (some ⟨w.heap.size, 0, none⟩) (Lib.nDigits u) 24) W := fun W => by
    rw [run_sliceAt_array_h W 146 ⟨w.heap.size, 0, none⟩ (by kernel_rfl) .i64 (Lib.nDigits u : Int) (by omega) (by rw [hal]; omega)]
    have he : Tryz.prog.elem 146 = 5 := by kernel_rfl
    rw [hal, he]
    go_simp
  have hz := Lib.holds_zero0 w 146 (Lib.nDigits u) (by omega)
  have hf := Tryz.internal_strconv_formatBase10 w.heap.size 0 24 u (Array.replicate (Lib.nDigits u) 0) (w.alloc (.cells Lib.zeros24 146)) hz (by rw [Array.size_replicate]; exact Lib.lt_pow_nDigits u) (by omega) (by rw [Array.size_replicate]; omega)
  rw [Array.size_replicate] at hf
  have HZ := hide hz
  have HF := hide hf
  have HD := hide (Tryz.internal_strconv_numDigits u (by omega) (by omega) (w.alloc (.cells Lib.zeros24 146)) (Lib.tabIs_alloc htab _))
  have HB := hide (And.intro h (And.intro hB hl))
  have h1 : ¬ (u : Int) < 100 := by omega
  clear hz hf h hB hl htab hal
  go_enter Tryz.func102, Tryz.ntmps102
  go_wp2_with (first | (go_at_call 108; refine (unhide HD).mono ?_; rintro e w' ⟨rfl, rfl⟩))
  go_at_call 109
  refine (unhide HF).mono ?_
  rintro e w' ⟨rfl, k, v', dk, rfl, hF⟩
  have hcells : ∀ j x, ((Lib.decDigits u).map bc)[j]? = some x → ((putRow (fun (b : UInt8) => Value.int .u8 (b.toNat : Int)) (w.alloc (.cells Lib.zeros24 146)) w.heap.size 0 dk).drewN k).cell? ((⟨w.heap.size, 0, none⟩ : Addr).add j) = some x := fun j x hj => by
    have hjl : j < (Lib.decDigits u).length := by have := (List.getElem?_eq_some_iff.1 hj).1; rwa [List.length_map] at this
    rw [List.getElem?_map, List.getElem?_eq_getElem hjl] at hj
    rw [← Option.some.inj hj, Lib.add_plain, World.cell?_drewN]
    show _ = some (Value.int .u8 ((Lib.decDigits u)[j].toNat : Int))
    rw [Lib.row_is_numeral hF j hjl]
    exact cell?_putRow (fun (b : UInt8) => Value.int .u8 (b.toNat : Int)) _ w.heap.size 0 _ dk (unhide HZ) (by rw [hF.size, Array.size_replicate]) j (by rw [hF.size]; rw [Lib.decDigits_length] at hjl; exact hjl)
  obtain ⟨os, eo⟩ := Lib.fin_at w (.cells Lib.zeros24 146) dk k 0
  have hbel : Below w.heap.size w ((putRow (fun (b : UInt8) => Value.int .u8 (b.toNat : Int)) (w.alloc (.cells Lib.zeros24 146)) w.heap.size 0 dk).drewN k) := by rw [eo]; exact Lib.below_grow w.heap.size w (Nat.le_refl _) k os
  generalize (putRow (fun (b : UInt8) => Value.int .u8 (b.toNat : Int)) (w.alloc (.cells Lib.zeros24 146)) w.heap.size 0 dk).drewN k = W2 at hcells hbel ⊢
  have HC := hide hcells
  have HL := hide hbel
  have HN := hide hnd
  clear hcells hbel eo hF HF HZ HD hnd
  go_wp2_with (at_builtin; refine wpx_many rfl _ _ rfl B _ l (Lib.decDigits u) ⟨w.heap.size, 0, none⟩ (Lib.nDigits u) 24 rfl rfl ((unhide HB).1.later (unhide HL)) (Nat.le_trans (unhide HB).2.1 (unhide HL).size) (Lib.decDigits_length u) (unhide HC) (by have := (unhide HB).2.2; have := unhide HN; omega) ?_; intro v2 w3 hv2 he2)
  go_ret
  exact ⟨_, rfl, hv2, (Ext.below v (unhide HL)).trans he2⟩
theorem uint_any (u : Nat) (hu : u ≤ 65536) {w : World} {B : Nat} {v : Value} {l : List UInt8} (h : Bytes w B v l) (hB : B ≤ w.heap.size) (hl : l.length + 20 ≤ 100000000) (htab : Lib.TabIs Tryz.prog w "internal/strconv.uint64pow10" .u64 Lib.pow10Tab) :
    Calls Tryz.prog 102 #[v, .int .u64 (u : Int), .int .i64 10] w (DigPost B w v l (Lib.decDigits u)) := by
  rcases Nat.lt_or_ge u 100 with q | q
  · exact uint_small u q h hB hl
  · exact uint_big u q hu h hB hl htab
set_option maxRecDepth 100000 in
set_option maxHeartbeats 1000000 in
theorem int_any (u : Nat) (hu : u ≤ 65536) {w : World} {B : Nat} {v : Value} {l : List UInt8} (h : Bytes w B v l) (hB : B ≤ w.heap.size) (hl : l.length + 20 ≤ 100000000) (htab : Lib.TabIs Tryz.prog w "internal/strconv.uint64pow10" .u64 Lib.pow10Tab) :
    Calls Tryz.prog 86 #[v, .int .i64 (u : Int), .int .i64 10] w (DigPost B w v l (Lib.decDigits u)) := by
  have HU := hide (uint_any u hu h hB hl htab)
  have h1 : ¬ (u : Int) < 0 := by omega
  have hcv : IntKind.u64.wrap (u : Int) = (u : Int) := by
    have e : IntKind.u64.bits = 64 := rfl
    have s : IntKind.u64.signed = false := rfl
    unfold IntKind.wrap
    simp only [e, s]
    simp
    omega
  clear h hB hl htab
  go_enter Tryz.func86, Tryz.ntmps86
  go_wp2_with fail
  refine (unhide HU).mono ?_
  rintro e w2 ⟨v', rfl, hv', he'⟩
  go_wp2_with fail
  go_ret
  exact ⟨_, rfl, hv', he'⟩
set_option maxRecDepth 100000 in
set_option maxHeartbeats 1000000 in
theorem appendInt_any (u : Nat) (hu : u ≤ 65536) {w : World} {B : Nat} {v : Value} {l : List UInt8} (h : Bytes w B v l) (hB : B ≤ w.heap.size) (hl : l.length + 20 ≤ 100000000) (htab : Lib.TabIs Tryz.prog w "internal/strconv.uint64pow10" .u64 Lib.pow10Tab) :
    Calls Tryz.prog 73 #[v, .int .i64 (u : Int), .int .i64 10] w (DigPost B w v l (Lib.decDigits u)) := by
  have HU := hide (int_any u hu h hB hl htab)
  clear h hB hl htab
  go_enter Tryz.func73, Tryz.ntmps73
  go_wp2_with fail
  refine (unhide HU).mono ?_
  rintro e w2 ⟨v', rfl, hv', he'⟩
  go_wp2_with fail
  go_ret
  exact ⟨_, rfl, hv', he'⟩
end Go.Proofs.YtpphjddljngkmaaGreatDoor

namespace Go.Proofs.YtpphjddljngkmaaGreatDoor
open Go.RowKit

theorem wp_fa {P : Program} {Q : Exit → Act → World → Prop} {o : Oper} {a : Act} {w : World} {K : Act → World → Prop} {ty : TypeId} {x : Operand} {f g off : Nat} (ho : o.op = .fieldAddr ty x f) (hx : a.eval x = .pointer (some ⟨g, 0, none⟩)) (hr : (Instr.fieldAt ty (.pointer (some ⟨g, 0, none⟩)) f).run P w = .ok (.pointer (some ⟨g, off, none⟩)) w) (h : K (a.put o.dst (.pointer (some ⟨g, off, none⟩))) w) : o.wp P a w K Q := by
  unfold Oper.wp execOp
  simp only [ho, hx, Sem.run_bind, hr, Result.andThen_ok]
  exact h
theorem wp_ld {P : Program} {Q : Exit → Act → World → Prop} {o : Oper} {a : Act} {w : World} {K : Act → World → Prop} {ty : TypeId} {x : Operand} {p v : Value} (ho : o.op = .load ty x) (hx : a.eval x = p) (hr : (Instr.loadAt ty p).run P w = .ok v w) (h : K (a.put o.dst v) w) : o.wp P a w K Q := by
  unfold Oper.wp execOp
  simp only [ho, hx, Sem.run_bind, hr, Result.andThen_ok]
  exact h
theorem wp_ix {P : Program} {Q : Exit → Act → World → Prop} {o : Oper} {a : Act} {w : World} {K : Act → World → Prop} {ty : TypeId} {x i : Operand} {p v : Value} {k : Value} (ho : o.op = .indexAddr ty x i) (hx : a.eval x = p) (hr : (Instr.indexAt ty p k).run P w = .ok v w) (h : K (a.put o.dst v) w) (hi : a.eval i = k := by rfl) : o.wp P a w K Q := by
  unfold Oper.wp execOp
  simp only [ho, hx, hi, Sem.run_bind, hr, Result.andThen_ok]
  exact h
theorem qlen {t : ByteArray} : (quoteB t).data.toList.length = (quoteB t).size := by simp
/-- What holds whichever operations have come up. -/
structure NumF (B : Nat) (w0 : World) (v : Value) (r : List UInt8) (bx u : Nat) (M : List UInt8 → Prop) (L : Array Bool) (x : Nat → Value) (w : World) (cur : Value) (l : List UInt8) : Prop where
  size : L.size = 9
  f0 : Up L 0 → x 18 = v
  f1 : Up L 1 → Sign w cur 40 (x 19)
  f3 : Up L 3 → x 21 = .pointer (some ⟨bx, 2, none⟩)
  f4 : Up L 4 → x 22 = .int .i64 (u : Int)
  f6 : Up L 6 → Sign w cur 41 (x 24)
  st : (¬ Up L 2 ∧ ¬ Up L 5 ∧ ¬ Up L 7 ∧ cur = v ∧ l = r) ∨ (Up L 2 ∧ ¬ Up L 5 ∧ ¬ Up L 7 ∧ x 20 = cur ∧ (fun l => l = r ++ [40]) l) ∨ (Up L 5 ∧ ¬ Up L 7 ∧ x 23 = cur ∧ (M) l) ∨ (Up L 7 ∧ x 25 = cur ∧ (fun l => ∃ l0, M l0 ∧ l = l0 ++ [41]) l)
  fz : Up L 8 → x 4 = x 25
  chn : Chn B w0 v w cur l
set_option maxHeartbeats 1000000 in
theorem num_region {ops : Array Oper} {id : Nat} {Q : Exit → Act → World → Prop} {a : Act} {w : World} {v : Value} {r : List UInt8} {B : Nat} {bx : Nat} {row : Obj} {u : Nat} {M : List UInt8 → Prop}
    (p0 : OpIs ops 0 (.move (.tmp 0)) 18 [])
    (p1 : OpIs ops 1 (.buildSlice 50 1 #[(0, .const (.int .u8 40))]) 19 [])
    (p2 : OpIs ops 2 (.call { callee := .builtin .append, args := #[.tmp 18, .tmp 19], argTypes := #[50, 50] }) 20 [0, 1])
    (p3 : OpIs ops 3 (.fieldAddr 30 (.tmp 3) 2) 21 [])
    (p4 : OpIs ops 4 (.load 3 (.tmp 21)) 22 [3])
    (p5 : OpIs ops 5 (.call { callee := .value (.func 73), args := #[.tmp 20, .tmp 22, .const (.int .i64 10)], argTypes := #[50, 2, 3] }) 23 [2, 4])
    (p6 : OpIs ops 6 (.buildSlice 50 1 #[(0, .const (.int .u8 41))]) 24 [])
    (p7 : OpIs ops 7 (.call { callee := .builtin .append, args := #[.tmp 23, .tmp 24], argTypes := #[50, 50] }) 25 [5, 6])
    (p8 : OpIs ops 8 (.assign (.tmp 25)) 4 [0, 1, 2, 3, 4, 5, 6, 7])
    (hn : ops.size = 9) (hsz : a.tmps.size = 54) (h0 : a.eval (.tmp 0) = v) (hv : Bytes w B v r) (hB : B ≤ w.heap.size)
    (hr : r.length + 140000 ≤ 100000000) (h3 : a.eval (.tmp 3) = .pointer (some ⟨bx, 0, none⟩)) (hbx : w.heap[bx]? = some row) (hfar : some bx ≠ v.ownBlock) (hfa : ∀ W, (Instr.fieldAt 30 (.pointer (some ⟨bx, 0, none⟩)) 2).run Tryz.prog W = .ok (.pointer (some ⟨bx, 2, none⟩)) W) (hld : ∀ W : World, W.heap[bx]? = some row → (Instr.loadAt 3 (.pointer (some ⟨bx, 2, none⟩))).run Tryz.prog W = .ok (.int .i64 (u : Int)) W) (hM : ∀ l, M l → l.length + 1 ≤ 100000000)
    (hC : ∀ w1 v1, Bytes w1 B v1 (r ++ [40]) → Ext w w1 v v1 → Calls Tryz.prog 73 #[v1, .int .i64 (u : Int), .int .i64 10] w1 fun e w2 => ∃ v2, e = .returned v2 ∧ ∃ r2, Bytes w2 B v2 r2 ∧ Ext w1 w2 v1 v2 ∧ M r2)
    (hQ : ∀ x w2 v2 l2, Bytes w2 B v2 l2 → (fun l => ∃ l0, M l0 ∧ l = l0 ++ [41]) l2 → Ext w w2 v v2 → x 4 = v2 → Q .normal (fl a [18, 19, 20, 21, 22, 23, 24, 25, 4] x) w2) : (Code.region id ops true).wp Tryz.prog Q a w := by
  refine region_inv2 (I := fun L a' w' => ∃ x cur l, a' = fl a [18, 19, 20, 21, 22, 23, 24, 25, 4] x ∧ NumF B w v r bx u M L x w' cur l) rfl ?_ ?_ ?_
  · have hd : Below w.heap.size w w.drew := (Below.refl _ _).drew
    exact ⟨fun d => a.eval (.tmp d), v, r, (fl_self _ a).symm, by rw [hn]; rfl, fun h => absurd h up_new, fun h => absurd h up_new, fun h => absurd h up_new, fun h => absurd h up_new, fun h => absurd h up_new, .inl ⟨up_new, up_new, up_new, rfl, rfl⟩, fun h => absurd h up_new, hv.later hd, Ext.below v hd⟩
  · rintro L a' w' i ⟨x, cur, l, rfl, H⟩ hsh hi
    have hs := H.size
    have hlt : i < 9 := by
      obtain ⟨-, o, ho, -⟩ := mem_ready.1 hi
      have := (Array.getElem?_eq_some_iff.1 ho).1
      omega
    have hiL : i < L.size := by rw [hs]; exact hlt
    have hS : (L.setIfInBounds i true).size = 9 := by simp [hs]
    have hbw : B ≤ w'.heap.size := Nat.le_trans hB H.chn.ext.grown.size
    rcases (show i = 0 ∨ i = 1 ∨ i = 2 ∨ i = 3 ∨ i = 4 ∨ i = 5 ∨ i = 6 ∨ i = 7 ∨ i = 8 by omega) with rfl | rfl | rfl | rfl | rfl | rfl | rfl | rfl | rfl
    · obtain ⟨hu, hd⟩ := op_ready p0 hi
      refine op_at p0 fun o ho hdst => wp_mv ho ?_
      refine ⟨upd x 18 v, cur, l, by rw [hdst, (fl_eval_out [18, 19, 20, 21, 22, 23, 24, 25, 4] a x (t := 0) (by decide)), h0, fl_put _ _ _ _ _ (by decide) (by decide)], hS, fun _ => upd_same _ _ _, us hiL H.f1, uk hiL H.f3, uk hiL H.f4, us hiL H.f6, ?_, uz hiL H.fz, H.chn⟩
      · simpa only [up_set hiL, (nd : ¬ 2 = 0), (nd : ¬ 5 = 0), (nd : ¬ 7 = 0), false_or, uo x 20 18, uo x 23 18, uo x 25 18] using H.st
    · obtain ⟨hu, hd⟩ := op_ready p1 hi
      refine op_at p1 fun o ho hdst => wp_row1 40 ho ?_
      have hb : Below w'.heap.size w' (w'.alloc (.cells #[.int .u8 (((40 : UInt8).toNat : Nat) : Int)] 5)) := ba _
      refine ⟨upd x 19 (.slice (some ⟨w'.heap.size, 0, none⟩) 1 1), cur, l, fp hdst, hS, uk hiL H.f0, fun _ => by rw [upd_same]; exact Sign.new H.chn.row 40, uk hiL H.f3, uk hiL H.f4, fun h => (ut hiL H.f6 h).below hb, ?_, uz hiL H.fz, H.chn.below hb⟩
      · simpa only [up_set hiL, (nd : ¬ 2 = 1), (nd : ¬ 5 = 1), (nd : ¬ 7 = 1), false_or, uo x 20 19, uo x 23 19, uo x 25 19] using H.st
    · obtain ⟨hu, hd⟩ := op_ready p2 hi
      rcases H.st with ⟨s2, s5, s7, rfl, rfl⟩ | ⟨s2, -⟩ | ⟨s5, -⟩ | ⟨s7, -⟩
      · obtain ⟨g, hg, hrow, hgf⟩ := H.f1 (hd 1 (by decide))
        refine op_at p2 fun o ho hdst => wp_byte (.tmp 18) (.tmp 19) ho (fe hsz (H.f0 (hd 0 (by decide)))) (fe hsz (hg)) H.chn.row hrow hbw (by omega) ?_
        intro v' w2 hb2 he2
        refine ⟨upd x 20 v', v', _, fp hdst, hS, uk hiL H.f0, fun h => (ut hiL H.f1 h).next he2, uk hiL H.f3, uk hiL H.f4, fun h => (ut hiL H.f6 h).next he2, .inr (.inl ⟨(up_set hiL).2 (.inl rfl), fun h => s5 (upn hiL h), fun h => s7 (upn hiL h), upd_same _ _ _, rfl⟩), uz hiL H.fz, H.chn.next hb2 he2⟩
      · exact absurd s2 hu
      · exact absurd (shut_up p5 hsh s5 2 (by decide)) hu
      · exact absurd (shut_up p5 hsh (shut_up p7 hsh s7 5 (by decide)) 2 (by decide)) hu
    · obtain ⟨hu, hd⟩ := op_ready p3 hi
      refine op_at p3 fun o ho hdst => wp_fa ho (by rw [(fl_eval_out [18, 19, 20, 21, 22, 23, 24, 25, 4] a x (t := 3) (by decide))]; exact h3) (hfa w') ?_
      refine ⟨upd x 21 (.pointer (some ⟨bx, 2, none⟩)), cur, l, fp hdst, hS, uk hiL H.f0, us hiL H.f1, fun _ => upd_same _ _ _, uk hiL H.f4, us hiL H.f6, ?_, uz hiL H.fz, H.chn⟩
      · simpa only [up_set hiL, (nd : ¬ 2 = 3), (nd : ¬ 5 = 3), (nd : ¬ 7 = 3), false_or, uo x 20 21, uo x 23 21, uo x 25 21] using H.st
    · obtain ⟨hu, hd⟩ := op_ready p4 hi
      refine op_at p4 fun o ho hdst => wp_ld ho (fe hsz (H.f3 (hd 3 (by decide)))) (hld w' (H.chn.ext.row hfar hbx)) ?_
      refine ⟨upd x 22 (.int .i64 (u : Int)), cur, l, fp hdst, hS, uk hiL H.f0, us hiL H.f1, uk hiL H.f3, fun _ => upd_same _ _ _, us hiL H.f6, ?_, uz hiL H.fz, H.chn⟩
      · simpa only [up_set hiL, (nd : ¬ 2 = 4), (nd : ¬ 5 = 4), (nd : ¬ 7 = 4), false_or, uo x 20 22, uo x 23 22, uo x 25 22] using H.st
    · obtain ⟨hu, hd⟩ := op_ready p5 hi
      rcases H.st with ⟨s2, -⟩ | ⟨s2, s5, s7, hx, hl⟩ | ⟨s5, -⟩ | ⟨s7, -⟩
      · exact absurd (hd 2 (by decide)) s2
      · refine op_at p5 fun o ho hdst => wp_go ho Tryz.func73 rfl rfl #[cur, .int .i64 (u : Int), .int .i64 10] (by simp only [List.map_toArray, List.map_cons, List.map_nil]; rw [(fl_eval [18, 19, 20, 21, 22, 23, 24, 25, 4] a x (d := 20) (by decide) (by decide) (by rw [hsz]; decide)), (fl_eval [18, 19, 20, 21, 22, 23, 24, 25, 4] a x (d := 22) (by decide) (by decide) (by rw [hsz]; decide)), hx, H.f4 (hd 4 (by decide))]; rfl) ((hC w' cur (hl ▸ H.chn.row) H.chn.ext).mono ?_)
        rintro e w2 ⟨v2, rfl, r2, hb2, he2, hm2⟩
        refine ⟨v2, rfl, upd x 23 v2, v2, r2, fp hdst, hS, uk hiL H.f0, fun h => (ut hiL H.f1 h).next he2, uk hiL H.f3, uk hiL H.f4, fun h => (ut hiL H.f6 h).next he2, .inr (.inr (.inl ⟨(up_set hiL).2 (.inl rfl), fun h => s7 (upn hiL h), upd_same _ _ _, hm2⟩)), uz hiL H.fz, H.chn.next hb2 he2⟩
      · exact absurd s5 hu
      · exact absurd (shut_up p7 hsh s7 5 (by decide)) hu
    · obtain ⟨hu, hd⟩ := op_ready p6 hi
      refine op_at p6 fun o ho hdst => wp_row1 41 ho ?_
      have hb : Below w'.heap.size w' (w'.alloc (.cells #[.int .u8 (((41 : UInt8).toNat : Nat) : Int)] 5)) := ba _
      refine ⟨upd x 24 (.slice (some ⟨w'.heap.size, 0, none⟩) 1 1), cur, l, fp hdst, hS, uk hiL H.f0, fun h => (ut hiL H.f1 h).below hb, uk hiL H.f3, uk hiL H.f4, fun _ => by rw [upd_same]; exact Sign.new H.chn.row 41, ?_, uz hiL H.fz, H.chn.below hb⟩
      · simpa only [up_set hiL, (nd : ¬ 2 = 6), (nd : ¬ 5 = 6), (nd : ¬ 7 = 6), false_or, uo x 20 24, uo x 23 24, uo x 25 24] using H.st
    · obtain ⟨hu, hd⟩ := op_ready p7 hi
      rcases H.st with ⟨-, s5, -⟩ | ⟨-, s5, -⟩ | ⟨s5, s7, hx, hl⟩ | ⟨s7, -⟩
      · exact absurd (hd 5 (by decide)) s5
      · exact absurd (hd 5 (by decide)) s5
      · obtain ⟨g, hg, hrow, hgf⟩ := H.f6 (hd 6 (by decide))
        refine op_at p7 fun o ho hdst => wp_byte (.tmp 23) (.tmp 24) ho (fe hsz (hx)) (fe hsz (hg)) H.chn.row hrow hbw (hM l hl) ?_
        intro v' w2 hb2 he2
        refine ⟨upd x 25 v', v', _, fp hdst, hS, uk hiL H.f0, fun h => (ut hiL H.f1 h).next he2, uk hiL H.f3, uk hiL H.f4, fun h => (ut hiL H.f6 h).next he2, .inr (.inr (.inr (⟨(up_set hiL).2 (.inl rfl), upd_same _ _ _, ⟨l, hl, rfl⟩⟩))), fun h => absurd (shut_up p8 hsh (upn hiL h) 7 (by decide)) hu, H.chn.next hb2 he2⟩
      · exact absurd s7 hu
    · obtain ⟨hu, hd⟩ := op_ready p8 hi
      refine op_at p8 fun o ho hdst => wp_as ho ?_
      refine ⟨upd x 4 (x 25), cur, l, by rw [hdst, (fl_eval [18, 19, 20, 21, 22, 23, 24, 25, 4] a x (d := 25) (by decide) (by decide) (by rw [hsz]; decide)), fl_put _ _ _ _ _ (by decide) (by decide)], hS, uk hiL H.f0, us hiL H.f1, uk hiL H.f3, uk hiL H.f4, us hiL H.f6, ?_, fun _ => by rw [upd_same, upd_other (by decide)], H.chn⟩
      · simpa only [up_set hiL, (nd : ¬ 2 = 8), (nd : ¬ 5 = 8), (nd : ¬ 7 = 8), false_or, uo x 20 4, uo x 23 4, uo x 25 4] using H.st
  · rintro L a' w' ⟨x, cur, l, rfl, H⟩ hr0
    have hs := H.size
    have u0 := op_up p0 hr0 (by omega) (by simp)
    have u1 := op_up p1 hr0 (by omega) (by simp)
    have u2 := op_up p2 hr0 (by omega) (mc u0 (mc u1 mn))
    have u3 := op_up p3 hr0 (by omega) (by simp)
    have u4 := op_up p4 hr0 (by omega) (mc u3 mn)
    have u5 := op_up p5 hr0 (by omega) (mc u2 (mc u4 mn))
    have u6 := op_up p6 hr0 (by omega) (by simp)
    have u7 := op_up p7 hr0 (by omega) (mc u5 (mc u6 mn))
    have u8 := op_up p8 hr0 (by omega) (mc u0 (mc u1 (mc u2 (mc u3 (mc u4 (mc u5 (mc u6 (mc u7 mn))))))))
    rcases H.st with ⟨-, -, sz, -⟩ | ⟨-, -, sz, -⟩ | ⟨-, sz, -⟩ | ⟨-, hx, hl⟩
    · exact absurd u7 sz
    · exact absurd u7 sz
    · exact absurd u7 sz
    · exact hQ x w' cur l H.chn.row hl H.chn.ext ((H.fz u8).trans hx)
/-- What holds whichever operations have come up. -/
structure ArbF (B : Nat) (w0 : World) (v : Value) (r : List UInt8) (bx : Nat) (kids kp kid : Value) (M : List UInt8 → Prop) (L : Array Bool) (x : Nat → Value) (w : World) (cur : Value) (l : List UInt8) : Prop where
  size : L.size = 11
  f0 : Up L 0 → x 43 = v
  f1 : Up L 1 → Sign w cur 40 (x 44)
  f3 : Up L 3 → x 46 = .pointer (some ⟨bx, 4, none⟩)
  f4 : Up L 4 → x 47 = kids
  f5 : Up L 5 → x 48 = kp
  f6 : Up L 6 → x 49 = kid
  f8 : Up L 8 → Sign w cur 41 (x 51)
  st : (¬ Up L 2 ∧ ¬ Up L 7 ∧ ¬ Up L 9 ∧ cur = v ∧ l = r) ∨ (Up L 2 ∧ ¬ Up L 7 ∧ ¬ Up L 9 ∧ x 45 = cur ∧ (fun l => l = r ++ [40]) l) ∨ (Up L 7 ∧ ¬ Up L 9 ∧ x 50 = cur ∧ (M) l) ∨ (Up L 9 ∧ x 52 = cur ∧ (fun l => ∃ l0, M l0 ∧ l = l0 ++ [41]) l)
  fz : Up L 10 → x 4 = x 52
  chn : Chn B w0 v w cur l
set_option maxHeartbeats 1000000 in
theorem arb_region {ops : Array Oper} {id : Nat} {Q : Exit → Act → World → Prop} {a : Act} {w : World} {v : Value} {r : List UInt8} {B : Nat} {bx : Nat} {row : Obj} {kids kp kid : Value} {M : List UInt8 → Prop}
    (p0 : OpIs ops 0 (.move (.tmp 0)) 43 [])
    (p1 : OpIs ops 1 (.buildSlice 50 1 #[(0, .const (.int .u8 40))]) 44 [])
    (p2 : OpIs ops 2 (.call { callee := .builtin .append, args := #[.tmp 43, .tmp 44], argTypes := #[50, 50] }) 45 [0, 1])
    (p3 : OpIs ops 3 (.fieldAddr 30 (.tmp 3) 4) 46 [])
    (p4 : OpIs ops 4 (.load 28 (.tmp 46)) 47 [3])
    (p5 : OpIs ops 5 (.indexAddr 28 (.tmp 47) (.const (.int .i64 0))) 48 [4])
    (p6 : OpIs ops 6 (.load 30 (.tmp 48)) 49 [5])
    (p7 : OpIs ops 7 (.call { callee := .value (.func 41), args := #[.tmp 45, .tmp 49], argTypes := #[50, 30] }) 50 [2, 6])
    (p8 : OpIs ops 8 (.buildSlice 50 1 #[(0, .const (.int .u8 41))]) 51 [])
    (p9 : OpIs ops 9 (.call { callee := .builtin .append, args := #[.tmp 50, .tmp 51], argTypes := #[50, 50] }) 52 [7, 8])
    (p10 : OpIs ops 10 (.assign (.tmp 52)) 4 [0, 1, 2, 3, 4, 5, 6, 7, 8, 9])
    (hn : ops.size = 11) (hsz : a.tmps.size = 54) (h0 : a.eval (.tmp 0) = v) (hv : Bytes w B v r) (hB : B ≤ w.heap.size)
    (hr : r.length + 140000 ≤ 100000000) (h3 : a.eval (.tmp 3) = .pointer (some ⟨bx, 0, none⟩)) (hbx : w.heap[bx]? = some row) (hfar : some bx ≠ v.ownBlock) (hfa : ∀ W, (Instr.fieldAt 30 (.pointer (some ⟨bx, 0, none⟩)) 4).run Tryz.prog W = .ok (.pointer (some ⟨bx, 4, none⟩)) W) (hld : ∀ W : World, W.heap[bx]? = some row → (Instr.loadAt 28 (.pointer (some ⟨bx, 4, none⟩))).run Tryz.prog W = .ok kids W) (hix : ∀ W, (Instr.indexAt 28 kids (.int .i64 0)).run Tryz.prog W = .ok kp W) (hkd : ∀ (W : World) {c : Value}, Ext w W v c → (Instr.loadAt 30 kp).run Tryz.prog W = .ok kid W) (hM : ∀ l, M l → l.length + 1 ≤ 100000000)
    (hC : ∀ w1 v1, Bytes w1 B v1 (r ++ [40]) → Ext w w1 v v1 → Calls Tryz.prog 41 #[v1, kid] w1 fun e w2 => ∃ v2, e = .returned v2 ∧ ∃ r2, Bytes w2 B v2 r2 ∧ Ext w1 w2 v1 v2 ∧ M r2)
    (hQ : ∀ x w2 v2 l2, Bytes w2 B v2 l2 → (fun l => ∃ l0, M l0 ∧ l = l0 ++ [41]) l2 → Ext w w2 v v2 → x 4 = v2 → Q .normal (fl a [43, 44, 45, 46, 47, 48, 49, 50, 51, 52, 4] x) w2) : (Code.region id ops true).wp Tryz.prog Q a w := by
  refine region_inv2 (I := fun L a' w' => ∃ x cur l, a' = fl a [43, 44, 45, 46, 47, 48, 49, 50, 51, 52, 4] x ∧ ArbF B w v r bx kids kp kid M L x w' cur l) rfl ?_ ?_ ?_
  · have hd : Below w.heap.size w w.drew := (Below.refl _ _).drew
    exact ⟨fun d => a.eval (.tmp d), v, r, (fl_self _ a).symm, by rw [hn]; rfl, fun h => absurd h up_new, fun h => absurd h up_new, fun h => absurd h up_new, fun h => absurd h up_new, fun h => absurd h up_new, fun h => absurd h up_new, fun h => absurd h up_new, .inl ⟨up_new, up_new, up_new, rfl, rfl⟩, fun h => absurd h up_new, hv.later hd, Ext.below v hd⟩
  · rintro L a' w' i ⟨x, cur, l, rfl, H⟩ hsh hi
    have hs := H.size
    have hlt : i < 11 := by
      obtain ⟨-, o, ho, -⟩ := mem_ready.1 hi
      have := (Array.getElem?_eq_some_iff.1 ho).1
      omega
    have hiL : i < L.size := by rw [hs]; exact hlt
    have hS : (L.setIfInBounds i true).size = 11 := by simp [hs]
    have hbw : B ≤ w'.heap.size := Nat.le_trans hB H.chn.ext.grown.size
    rcases (show i = 0 ∨ i = 1 ∨ i = 2 ∨ i = 3 ∨ i = 4 ∨ i = 5 ∨ i = 6 ∨ i = 7 ∨ i = 8 ∨ i = 9 ∨ i = 10 by omega) with rfl | rfl | rfl | rfl | rfl | rfl | rfl | rfl | rfl | rfl | rfl
    · obtain ⟨hu, hd⟩ := op_ready p0 hi
      refine op_at p0 fun o ho hdst => wp_mv ho ?_
      refine ⟨upd x 43 v, cur, l, by rw [hdst, (fl_eval_out [43, 44, 45, 46, 47, 48, 49, 50, 51, 52, 4] a x (t := 0) (by decide)), h0, fl_put _ _ _ _ _ (by decide) (by decide)], hS, fun _ => upd_same _ _ _, us hiL H.f1, uk hiL H.f3, uk hiL H.f4, uk hiL H.f5, uk hiL H.f6, us hiL H.f8, ?_, uz hiL H.fz, H.chn⟩
      · simpa only [up_set hiL, (nd : ¬ 2 = 0), (nd : ¬ 7 = 0), (nd : ¬ 9 = 0), false_or, uo x 45 43, uo x 50 43, uo x 52 43] using H.st
    · obtain ⟨hu, hd⟩ := op_ready p1 hi
      refine op_at p1 fun o ho hdst => wp_row1 40 ho ?_
      have hb : Below w'.heap.size w' (w'.alloc (.cells #[.int .u8 (((40 : UInt8).toNat : Nat) : Int)] 5)) := ba _
      refine ⟨upd x 44 (.slice (some ⟨w'.heap.size, 0, none⟩) 1 1), cur, l, fp hdst, hS, uk hiL H.f0, fun _ => by rw [upd_same]; exact Sign.new H.chn.row 40, uk hiL H.f3, uk hiL H.f4, uk hiL H.f5, uk hiL H.f6, fun h => (ut hiL H.f8 h).below hb, ?_, uz hiL H.fz, H.chn.below hb⟩
      · simpa only [up_set hiL, (nd : ¬ 2 = 1), (nd : ¬ 7 = 1), (nd : ¬ 9 = 1), false_or, uo x 45 44, uo x 50 44, uo x 52 44] using H.st
    · obtain ⟨hu, hd⟩ := op_ready p2 hi
      rcases H.st with ⟨s2, s7, s9, rfl, rfl⟩ | ⟨s2, -⟩ | ⟨s7, -⟩ | ⟨s9, -⟩
      · obtain ⟨g, hg, hrow, hgf⟩ := H.f1 (hd 1 (by decide))
        refine op_at p2 fun o ho hdst => wp_byte (.tmp 43) (.tmp 44) ho (fe hsz (H.f0 (hd 0 (by decide)))) (fe hsz (hg)) H.chn.row hrow hbw (by omega) ?_
        intro v' w2 hb2 he2
        refine ⟨upd x 45 v', v', _, fp hdst, hS, uk hiL H.f0, fun h => (ut hiL H.f1 h).next he2, uk hiL H.f3, uk hiL H.f4, uk hiL H.f5, uk hiL H.f6, fun h => (ut hiL H.f8 h).next he2, .inr (.inl ⟨(up_set hiL).2 (.inl rfl), fun h => s7 (upn hiL h), fun h => s9 (upn hiL h), upd_same _ _ _, rfl⟩), uz hiL H.fz, H.chn.next hb2 he2⟩
      · exact absurd s2 hu
      · exact absurd (shut_up p7 hsh s7 2 (by decide)) hu
      · exact absurd (shut_up p7 hsh (shut_up p9 hsh s9 7 (by decide)) 2 (by decide)) hu
    · obtain ⟨hu, hd⟩ := op_ready p3 hi
      refine op_at p3 fun o ho hdst => wp_fa ho (by rw [(fl_eval_out [43, 44, 45, 46, 47, 48, 49, 50, 51, 52, 4] a x (t := 3) (by decide))]; exact h3) (hfa w') ?_
      refine ⟨upd x 46 (.pointer (some ⟨bx, 4, none⟩)), cur, l, fp hdst, hS, uk hiL H.f0, us hiL H.f1, fun _ => upd_same _ _ _, uk hiL H.f4, uk hiL H.f5, uk hiL H.f6, us hiL H.f8, ?_, uz hiL H.fz, H.chn⟩
      · simpa only [up_set hiL, (nd : ¬ 2 = 3), (nd : ¬ 7 = 3), (nd : ¬ 9 = 3), false_or, uo x 45 46, uo x 50 46, uo x 52 46] using H.st
    · obtain ⟨hu, hd⟩ := op_ready p4 hi
      refine op_at p4 fun o ho hdst => wp_ld ho (fe hsz (H.f3 (hd 3 (by decide)))) (hld w' (H.chn.ext.row hfar hbx)) ?_
      refine ⟨upd x 47 (kids), cur, l, fp hdst, hS, uk hiL H.f0, us hiL H.f1, uk hiL H.f3, fun _ => upd_same _ _ _, uk hiL H.f5, uk hiL H.f6, us hiL H.f8, ?_, uz hiL H.fz, H.chn⟩
      · simpa only [up_set hiL, (nd : ¬ 2 = 4), (nd : ¬ 7 = 4), (nd : ¬ 9 = 4), false_or, uo x 45 47, uo x 50 47, uo x 52 47] using H.st
    · obtain ⟨hu, hd⟩ := op_ready p5 hi
      refine op_at p5 fun o ho hdst => wp_ix ho (fe hsz (H.f4 (hd 4 (by decide)))) (hix w') ?_
      refine ⟨upd x 48 (kp), cur, l, fp hdst, hS, uk hiL H.f0, us hiL H.f1, uk hiL H.f3, uk hiL H.f4, fun _ => upd_same _ _ _, uk hiL H.f6, us hiL H.f8, ?_, uz hiL H.fz, H.chn⟩
      · simpa only [up_set hiL, (nd : ¬ 2 = 5), (nd : ¬ 7 = 5), (nd : ¬ 9 = 5), false_or, uo x 45 48, uo x 50 48, uo x 52 48] using H.st
    · obtain ⟨hu, hd⟩ := op_ready p6 hi
      refine op_at p6 fun o ho hdst => wp_ld ho (fe hsz (H.f5 (hd 5 (by decide)))) (hkd w' H.chn.ext) ?_
      refine ⟨upd x 49 (kid), cur, l, fp hdst, hS, uk hiL H.f0, us hiL H.f1, uk hiL H.f3, uk hiL H.f4, uk hiL H.f5, fun _ => upd_same _ _ _, us hiL H.f8, ?_, uz hiL H.fz, H.chn⟩
      · simpa only [up_set hiL, (nd : ¬ 2 = 6), (nd : ¬ 7 = 6), (nd : ¬ 9 = 6), false_or, uo x 45 49, uo x 50 49, uo x 52 49] using H.st
    · obtain ⟨hu, hd⟩ := op_ready p7 hi
      rcases H.st with ⟨s2, -⟩ | ⟨s2, s7, s9, hx, hl⟩ | ⟨s7, -⟩ | ⟨s9, -⟩
      · exact absurd (hd 2 (by decide)) s2
      · refine op_at p7 fun o ho hdst => wp_go ho Tryz.func41 rfl rfl #[cur, kid] (by simp only [List.map_toArray, List.map_cons, List.map_nil]; rw [(fl_eval [43, 44, 45, 46, 47, 48, 49, 50, 51, 52, 4] a x (d := 45) (by decide) (by decide) (by rw [hsz]; decide)), (fl_eval [43, 44, 45, 46, 47, 48, 49, 50, 51, 52, 4] a x (d := 49) (by decide) (by decide) (by rw [hsz]; decide)), hx, H.f6 (hd 6 (by decide))]) ((hC w' cur (hl ▸ H.chn.row) H.chn.ext).mono ?_)
        rintro e w2 ⟨v2, rfl, r2, hb2, he2, hm2⟩
        refine ⟨v2, rfl, upd x 50 v2, v2, r2, fp hdst, hS, uk hiL H.f0, fun h => (ut hiL H.f1 h).next he2, uk hiL H.f3, uk hiL H.f4, uk hiL H.f5, uk hiL H.f6, fun h => (ut hiL H.f8 h).next he2, .inr (.inr (.inl ⟨(up_set hiL).2 (.inl rfl), fun h => s9 (upn hiL h), upd_same _ _ _, hm2⟩)), uz hiL H.fz, H.chn.next hb2 he2⟩
      · exact absurd s7 hu
      · exact absurd (shut_up p9 hsh s9 7 (by decide)) hu
    · obtain ⟨hu, hd⟩ := op_ready p8 hi
      refine op_at p8 fun o ho hdst => wp_row1 41 ho ?_
      have hb : Below w'.heap.size w' (w'.alloc (.cells #[.int .u8 (((41 : UInt8).toNat : Nat) : Int)] 5)) := ba _
      refine ⟨upd x 51 (.slice (some ⟨w'.heap.size, 0, none⟩) 1 1), cur, l, fp hdst, hS, uk hiL H.f0, fun h => (ut hiL H.f1 h).below hb, uk hiL H.f3, uk hiL H.f4, uk hiL H.f5, uk hiL H.f6, fun _ => by rw [upd_same]; exact Sign.new H.chn.row 41, ?_, uz hiL H.fz, H.chn.below hb⟩
      · simpa only [up_set hiL, (nd : ¬ 2 = 8), (nd : ¬ 7 = 8), (nd : ¬ 9 = 8), false_or, uo x 45 51, uo x 50 51, uo x 52 51] using H.st
    · obtain ⟨hu, hd⟩ := op_ready p9 hi
      rcases H.st with ⟨-, s7, -⟩ | ⟨-, s7, -⟩ | ⟨s7, s9, hx, hl⟩ | ⟨s9, -⟩
      · exact absurd (hd 7 (by decide)) s7
      · exact absurd (hd 7 (by decide)) s7
      · obtain ⟨g, hg, hrow, hgf⟩ := H.f8 (hd 8 (by decide))
        refine op_at p9 fun o ho hdst => wp_byte (.tmp 50) (.tmp 51) ho (fe hsz (hx)) (fe hsz (hg)) H.chn.row hrow hbw (hM l hl) ?_
        intro v' w2 hb2 he2
        refine ⟨upd x 52 v', v', _, fp hdst, hS, uk hiL H.f0, fun h => (ut hiL H.f1 h).next he2, uk hiL H.f3, uk hiL H.f4, uk hiL H.f5, uk hiL H.f6, fun h => (ut hiL H.f8 h).next he2, .inr (.inr (.inr (⟨(up_set hiL).2 (.inl rfl), upd_same _ _ _, ⟨l, hl, rfl⟩⟩))), fun h => absurd (shut_up p10 hsh (upn hiL h) 9 (by decide)) hu, H.chn.next hb2 he2⟩
      · exact absurd s9 hu
    · obtain ⟨hu, hd⟩ := op_ready p10 hi
      refine op_at p10 fun o ho hdst => wp_as ho ?_
      refine ⟨upd x 4 (x 52), cur, l, by rw [hdst, (fl_eval [43, 44, 45, 46, 47, 48, 49, 50, 51, 52, 4] a x (d := 52) (by decide) (by decide) (by rw [hsz]; decide)), fl_put _ _ _ _ _ (by decide) (by decide)], hS, uk hiL H.f0, us hiL H.f1, uk hiL H.f3, uk hiL H.f4, uk hiL H.f5, uk hiL H.f6, us hiL H.f8, ?_, fun _ => by rw [upd_same, upd_other (by decide)], H.chn⟩
      · simpa only [up_set hiL, (nd : ¬ 2 = 10), (nd : ¬ 7 = 10), (nd : ¬ 9 = 10), false_or, uo x 45 4, uo x 50 4, uo x 52 4] using H.st
  · rintro L a' w' ⟨x, cur, l, rfl, H⟩ hr0
    have hs := H.size
    have u0 := op_up p0 hr0 (by omega) (by simp)
    have u1 := op_up p1 hr0 (by omega) (by simp)
    have u2 := op_up p2 hr0 (by omega) (mc u0 (mc u1 mn))
    have u3 := op_up p3 hr0 (by omega) (by simp)
    have u4 := op_up p4 hr0 (by omega) (mc u3 mn)
    have u5 := op_up p5 hr0 (by omega) (mc u4 mn)
    have u6 := op_up p6 hr0 (by omega) (mc u5 mn)
    have u7 := op_up p7 hr0 (by omega) (mc u2 (mc u6 mn))
    have u8 := op_up p8 hr0 (by omega) (by simp)
    have u9 := op_up p9 hr0 (by omega) (mc u7 (mc u8 mn))
    have u10 := op_up p10 hr0 (by omega) (mc u0 (mc u1 (mc u2 (mc u3 (mc u4 (mc u5 (mc u6 (mc u7 (mc u8 (mc u9 mn))))))))))
    rcases H.st with ⟨-, -, sz, -⟩ | ⟨-, -, sz, -⟩ | ⟨-, sz, -⟩ | ⟨-, hx, hl⟩
    · exact absurd u9 sz
    · exact absurd u9 sz
    · exact absurd u9 sz
    · exact hQ x w' cur l H.chn.row hl H.chn.ext ((H.fz u10).trans hx)
/-- What holds whichever operations have come up. -/
structure TxqF (B : Nat) (w0 : World) (v : Value) (r : List UInt8) (bx : Nat) (t : ByteArray) (L : Array Bool) (x : Nat → Value) (w : World) (cur : Value) (l : List UInt8) : Prop where
  size : L.size = 10
  f0 : Up L 0 → x 30 = v
  f1 : Up L 1 → Sign w cur 40 (x 31)
  f3 : Up L 3 → x 33 = .pointer (some ⟨bx, 1, none⟩)
  f4 : Up L 4 → x 34 = .string t
  f5 : Up L 5 → x 35 = .string (quoteB t)
  f7 : Up L 7 → Sign w cur 41 (x 37)
  st : (¬ Up L 2 ∧ ¬ Up L 6 ∧ ¬ Up L 8 ∧ cur = v ∧ l = r) ∨ (Up L 2 ∧ ¬ Up L 6 ∧ ¬ Up L 8 ∧ x 32 = cur ∧ (fun l => l = r ++ [40]) l) ∨ (Up L 6 ∧ ¬ Up L 8 ∧ x 36 = cur ∧ (fun l => l = r ++ [40] ++ (quoteB t).data.toList) l) ∨ (Up L 8 ∧ x 38 = cur ∧ (fun l => l = r ++ [40] ++ (quoteB t).data.toList ++ [41]) l)
  fz : Up L 9 → x 4 = x 38
  chn : Chn B w0 v w cur l
set_option maxHeartbeats 1000000 in
theorem txq_region {ops : Array Oper} {id : Nat} {Q : Exit → Act → World → Prop} {a : Act} {w : World} {v : Value} {r : List UInt8} {B : Nat} {bx : Nat} {row : Obj} {t : ByteArray}
    (p0 : OpIs ops 0 (.move (.tmp 0)) 30 [])
    (p1 : OpIs ops 1 (.buildSlice 50 1 #[(0, .const (.int .u8 40))]) 31 [])
    (p2 : OpIs ops 2 (.call { callee := .builtin .append, args := #[.tmp 30, .tmp 31], argTypes := #[50, 50] }) 32 [0, 1])
    (p3 : OpIs ops 3 (.fieldAddr 30 (.tmp 3) 1) 33 [])
    (p4 : OpIs ops 4 (.load 9 (.tmp 33)) 34 [3])
    (p5 : OpIs ops 5 (.call { callee := .value (.func 55), args := #[.tmp 34], argTypes := #[9] }) 35 [4, 2])
    (p6 : OpIs ops 6 (.call { callee := .builtin .append, args := #[.tmp 32, .tmp 35], argTypes := #[50, 9] }) 36 [2, 5])
    (p7 : OpIs ops 7 (.buildSlice 50 1 #[(0, .const (.int .u8 41))]) 37 [])
    (p8 : OpIs ops 8 (.call { callee := .builtin .append, args := #[.tmp 36, .tmp 37], argTypes := #[50, 50] }) 38 [6, 7])
    (p9 : OpIs ops 9 (.assign (.tmp 38)) 4 [0, 1, 2, 3, 4, 5, 6, 7, 8])
    (hn : ops.size = 10) (hsz : a.tmps.size = 54) (h0 : a.eval (.tmp 0) = v) (hv : Bytes w B v r) (hB : B ≤ w.heap.size)
    (hr : r.length + 140000 ≤ 100000000) (h3 : a.eval (.tmp 3) = .pointer (some ⟨bx, 0, none⟩)) (hbx : w.heap[bx]? = some row) (hfar : some bx ≠ v.ownBlock) (hq : (quoteB t).size ≤ 131100) (hfa : ∀ W, (Instr.fieldAt 30 (.pointer (some ⟨bx, 0, none⟩)) 1).run Tryz.prog W = .ok (.pointer (some ⟨bx, 1, none⟩)) W) (hld : ∀ W : World, W.heap[bx]? = some row → (Instr.loadAt 9 (.pointer (some ⟨bx, 1, none⟩))).run Tryz.prog W = .ok (.string t) W)
    (hC : ∀ (w1 : World) {c : Value}, Ext w w1 v c → Calls Tryz.prog 55 #[.string t] w1 fun e w2 => e = .returned (.string (quoteB t)) ∧ Below w1.heap.size w1 w2)
    (hQ : ∀ x w2 v2 l2, Bytes w2 B v2 l2 → (fun l => l = r ++ [40] ++ (quoteB t).data.toList ++ [41]) l2 → Ext w w2 v v2 → x 4 = v2 → Q .normal (fl a [30, 31, 32, 33, 34, 35, 36, 37, 38, 4] x) w2) : (Code.region id ops true).wp Tryz.prog Q a w := by
  refine region_inv2 (I := fun L a' w' => ∃ x cur l, a' = fl a [30, 31, 32, 33, 34, 35, 36, 37, 38, 4] x ∧ TxqF B w v r bx t L x w' cur l) rfl ?_ ?_ ?_
  · have hd : Below w.heap.size w w.drew := (Below.refl _ _).drew
    exact ⟨fun d => a.eval (.tmp d), v, r, (fl_self _ a).symm, by rw [hn]; rfl, fun h => absurd h up_new, fun h => absurd h up_new, fun h => absurd h up_new, fun h => absurd h up_new, fun h => absurd h up_new, fun h => absurd h up_new, .inl ⟨up_new, up_new, up_new, rfl, rfl⟩, fun h => absurd h up_new, hv.later hd, Ext.below v hd⟩
  · rintro L a' w' i ⟨x, cur, l, rfl, H⟩ hsh hi
    have hs := H.size
    have hlt : i < 10 := by
      obtain ⟨-, o, ho, -⟩ := mem_ready.1 hi
      have := (Array.getElem?_eq_some_iff.1 ho).1
      omega
    have hiL : i < L.size := by rw [hs]; exact hlt
    have hS : (L.setIfInBounds i true).size = 10 := by simp [hs]
    have hbw : B ≤ w'.heap.size := Nat.le_trans hB H.chn.ext.grown.size
    rcases (show i = 0 ∨ i = 1 ∨ i = 2 ∨ i = 3 ∨ i = 4 ∨ i = 5 ∨ i = 6 ∨ i = 7 ∨ i = 8 ∨ i = 9 by omega) with rfl | rfl | rfl | rfl | rfl | rfl | rfl | rfl | rfl | rfl
    · obtain ⟨hu, hd⟩ := op_ready p0 hi
      refine op_at p0 fun o ho hdst => wp_mv ho ?_
      refine ⟨upd x 30 v, cur, l, by rw [hdst, (fl_eval_out [30, 31, 32, 33, 34, 35, 36, 37, 38, 4] a x (t := 0) (by decide)), h0, fl_put _ _ _ _ _ (by decide) (by decide)], hS, fun _ => upd_same _ _ _, us hiL H.f1, uk hiL H.f3, uk hiL H.f4, uk hiL H.f5, us hiL H.f7, ?_, uz hiL H.fz, H.chn⟩
      · simpa only [up_set hiL, (nd : ¬ 2 = 0), (nd : ¬ 6 = 0), (nd : ¬ 8 = 0), false_or, uo x 32 30, uo x 36 30, uo x 38 30] using H.st
    · obtain ⟨hu, hd⟩ := op_ready p1 hi
      refine op_at p1 fun o ho hdst => wp_row1 40 ho ?_
      have hb : Below w'.heap.size w' (w'.alloc (.cells #[.int .u8 (((40 : UInt8).toNat : Nat) : Int)] 5)) := ba _
      refine ⟨upd x 31 (.slice (some ⟨w'.heap.size, 0, none⟩) 1 1), cur, l, fp hdst, hS, uk hiL H.f0, fun _ => by rw [upd_same]; exact Sign.new H.chn.row 40, uk hiL H.f3, uk hiL H.f4, uk hiL H.f5, fun h => (ut hiL H.f7 h).below hb, ?_, uz hiL H.fz, H.chn.below hb⟩
      · simpa only [up_set hiL, (nd : ¬ 2 = 1), (nd : ¬ 6 = 1), (nd : ¬ 8 = 1), false_or, uo x 32 31, uo x 36 31, uo x 38 31] using H.st
    · obtain ⟨hu, hd⟩ := op_ready p2 hi
      rcases H.st with ⟨s2, s6, s8, rfl, rfl⟩ | ⟨s2, -⟩ | ⟨s6, -⟩ | ⟨s8, -⟩
      · obtain ⟨g, hg, hrow, hgf⟩ := H.f1 (hd 1 (by decide))
        refine op_at p2 fun o ho hdst => wp_byte (.tmp 30) (.tmp 31) ho (fe hsz (H.f0 (hd 0 (by decide)))) (fe hsz (hg)) H.chn.row hrow hbw (by omega) ?_
        intro v' w2 hb2 he2
        refine ⟨upd x 32 v', v', _, fp hdst, hS, uk hiL H.f0, fun h => (ut hiL H.f1 h).next he2, uk hiL H.f3, uk hiL H.f4, uk hiL H.f5, fun h => (ut hiL H.f7 h).next he2, .inr (.inl ⟨(up_set hiL).2 (.inl rfl), fun h => s6 (upn hiL h), fun h => s8 (upn hiL h), upd_same _ _ _, rfl⟩), uz hiL H.fz, H.chn.next hb2 he2⟩
      · exact absurd s2 hu
      · exact absurd (shut_up p6 hsh s6 2 (by decide)) hu
      · exact absurd (shut_up p6 hsh (shut_up p8 hsh s8 6 (by decide)) 2 (by decide)) hu
    · obtain ⟨hu, hd⟩ := op_ready p3 hi
      refine op_at p3 fun o ho hdst => wp_fa ho (by rw [(fl_eval_out [30, 31, 32, 33, 34, 35, 36, 37, 38, 4] a x (t := 3) (by decide))]; exact h3) (hfa w') ?_
      refine ⟨upd x 33 (.pointer (some ⟨bx, 1, none⟩)), cur, l, fp hdst, hS, uk hiL H.f0, us hiL H.f1, fun _ => upd_same _ _ _, uk hiL H.f4, uk hiL H.f5, us hiL H.f7, ?_, uz hiL H.fz, H.chn⟩
      · simpa only [up_set hiL, (nd : ¬ 2 = 3), (nd : ¬ 6 = 3), (nd : ¬ 8 = 3), false_or, uo x 32 33, uo x 36 33, uo x 38 33] using H.st
    · obtain ⟨hu, hd⟩ := op_ready p4 hi
      refine op_at p4 fun o ho hdst => wp_ld ho (fe hsz (H.f3 (hd 3 (by decide)))) (hld w' (H.chn.ext.row hfar hbx)) ?_
      refine ⟨upd x 34 (.string t), cur, l, fp hdst, hS, uk hiL H.f0, us hiL H.f1, uk hiL H.f3, fun _ => upd_same _ _ _, uk hiL H.f5, us hiL H.f7, ?_, uz hiL H.fz, H.chn⟩
      · simpa only [up_set hiL, (nd : ¬ 2 = 4), (nd : ¬ 6 = 4), (nd : ¬ 8 = 4), false_or, uo x 32 34, uo x 36 34, uo x 38 34] using H.st
    · obtain ⟨hu, hd⟩ := op_ready p5 hi
      refine op_at p5 fun o ho hdst => wp_go ho Tryz.func55 rfl rfl #[.string t] (by simp only [List.map_toArray, List.map_cons, List.map_nil]; rw [(fl_eval [30, 31, 32, 33, 34, 35, 36, 37, 38, 4] a x (d := 34) (by decide) (by decide) (by rw [hsz]; decide)), H.f4 (hd 4 (by decide))]) ((hC w' H.chn.ext).mono ?_)
      rintro e w2 ⟨rfl, hb⟩
      refine ⟨_, rfl, upd x 35 (.string (quoteB t)), cur, l, fp hdst, hS, uk hiL H.f0, fun h => (ut hiL H.f1 h).below hb, uk hiL H.f3, uk hiL H.f4, fun _ => upd_same _ _ _, fun h => (ut hiL H.f7 h).below hb, ?_, uz hiL H.fz, H.chn.below hb⟩
      · simpa only [up_set hiL, (nd : ¬ 2 = 5), (nd : ¬ 6 = 5), (nd : ¬ 8 = 5), false_or, uo x 32 35, uo x 36 35, uo x 38 35] using H.st
    · obtain ⟨hu, hd⟩ := op_ready p6 hi
      rcases H.st with ⟨s2, -⟩ | ⟨s2, s6, s8, hx, hl⟩ | ⟨s6, -⟩ | ⟨s8, -⟩
      · exact absurd (hd 2 (by decide)) s2
      · refine op_at p6 fun o ho hdst => wp_text (.tmp 32) (.tmp 35) ho (fe hsz (hx)) (fe hsz (H.f5 (hd 5 (by decide)))) H.chn.row hbw (by rw [hl, List.length_append, List.length_singleton]; omega) ?_
        intro v' w2 hb2 he2
        refine ⟨upd x 36 v', v', _, fp hdst, hS, uk hiL H.f0, fun h => (ut hiL H.f1 h).next he2, uk hiL H.f3, uk hiL H.f4, uk hiL H.f5, fun h => (ut hiL H.f7 h).next he2, .inr (.inr (.inl ⟨(up_set hiL).2 (.inl rfl), fun h => s8 (upn hiL h), upd_same _ _ _, by rw [hl]⟩)), uz hiL H.fz, H.chn.next hb2 he2⟩
      · exact absurd s6 hu
      · exact absurd (shut_up p8 hsh s8 6 (by decide)) hu
    · obtain ⟨hu, hd⟩ := op_ready p7 hi
      refine op_at p7 fun o ho hdst => wp_row1 41 ho ?_
      have hb : Below w'.heap.size w' (w'.alloc (.cells #[.int .u8 (((41 : UInt8).toNat : Nat) : Int)] 5)) := ba _
      refine ⟨upd x 37 (.slice (some ⟨w'.heap.size, 0, none⟩) 1 1), cur, l, fp hdst, hS, uk hiL H.f0, fun h => (ut hiL H.f1 h).below hb, uk hiL H.f3, uk hiL H.f4, uk hiL H.f5, fun _ => by rw [upd_same]; exact Sign.new H.chn.row 41, ?_, uz hiL H.fz, H.chn.below hb⟩
      · simpa only [up_set hiL, (nd : ¬ 2 = 7), (nd : ¬ 6 = 7), (nd : ¬ 8 = 7), false_or, uo x 32 37, uo x 36 37, uo x 38 37] using H.st
    · obtain ⟨hu, hd⟩ := op_ready p8 hi
      rcases H.st with ⟨-, s6, -⟩ | ⟨-, s6, -⟩ | ⟨s6, s8, hx, hl⟩ | ⟨s8, -⟩
      · exact absurd (hd 6 (by decide)) s6
      · exact absurd (hd 6 (by decide)) s6
      · obtain ⟨g, hg, hrow, hgf⟩ := H.f7 (hd 7 (by decide))
        refine op_at p8 fun o ho hdst => wp_byte (.tmp 36) (.tmp 37) ho (fe hsz (hx)) (fe hsz (hg)) H.chn.row hrow hbw (by rw [hl, List.length_append, List.length_append, List.length_singleton, qlen]; omega) ?_
        intro v' w2 hb2 he2
        refine ⟨upd x 38 v', v', _, fp hdst, hS, uk hiL H.f0, fun h => (ut hiL H.f1 h).next he2, uk hiL H.f3, uk hiL H.f4, uk hiL H.f5, fun h => (ut hiL H.f7 h).next he2, .inr (.inr (.inr (⟨(up_set hiL).2 (.inl rfl), upd_same _ _ _, by rw [hl]⟩))), fun h => absurd (shut_up p9 hsh (upn hiL h) 8 (by decide)) hu, H.chn.next hb2 he2⟩
      · exact absurd s8 hu
    · obtain ⟨hu, hd⟩ := op_ready p9 hi
      refine op_at p9 fun o ho hdst => wp_as ho ?_
      refine ⟨upd x 4 (x 38), cur, l, by rw [hdst, (fl_eval [30, 31, 32, 33, 34, 35, 36, 37, 38, 4] a x (d := 38) (by decide) (by decide) (by rw [hsz]; decide)), fl_put _ _ _ _ _ (by decide) (by decide)], hS, uk hiL H.f0, us hiL H.f1, uk hiL H.f3, uk hiL H.f4, uk hiL H.f5, us hiL H.f7, ?_, fun _ => by rw [upd_same, upd_other (by decide)], H.chn⟩
      · simpa only [up_set hiL, (nd : ¬ 2 = 9), (nd : ¬ 6 = 9), (nd : ¬ 8 = 9), false_or, uo x 32 4, uo x 36 4, uo x 38 4] using H.st
  · rintro L a' w' ⟨x, cur, l, rfl, H⟩ hr0
    have hs := H.size
    have u0 := op_up p0 hr0 (by omega) (by simp)
    have u1 := op_up p1 hr0 (by omega) (by simp)
    have u2 := op_up p2 hr0 (by omega) (mc u0 (mc u1 mn))
    have u3 := op_up p3 hr0 (by omega) (by simp)
    have u4 := op_up p4 hr0 (by omega) (mc u3 mn)
    have u5 := op_up p5 hr0 (by omega) (mc u4 (mc u2 mn))
    have u6 := op_up p6 hr0 (by omega) (mc u2 (mc u5 mn))
    have u7 := op_up p7 hr0 (by omega) (by simp)
    have u8 := op_up p8 hr0 (by omega) (mc u6 (mc u7 mn))
    have u9 := op_up p9 hr0 (by omega) (mc u0 (mc u1 (mc u2 (mc u3 (mc u4 (mc u5 (mc u6 (mc u7 (mc u8 mn)))))))))
    rcases H.st with ⟨-, -, sz, -⟩ | ⟨-, -, sz, -⟩ | ⟨-, sz, -⟩ | ⟨-, hx, hl⟩
    · exact absurd u8 sz
    · exact absurd u8 sz
    · exact absurd u8 sz
    · exact hQ x w' cur l H.chn.row hl H.chn.ext ((H.fz u9).trans hx)
end Go.Proofs.YtpphjddljngkmaaGreatDoor
