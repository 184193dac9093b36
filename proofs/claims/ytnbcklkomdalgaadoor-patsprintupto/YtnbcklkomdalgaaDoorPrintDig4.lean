/- A number's digits behind a row of bytes: nothing but that row changes. -/
import Derived.Test.YtnbcklkomdalgaaDoorPrintBrk4
import Derived.Test.YtnbcklkomdalgaaDoorPrintLib2
import Derived.Lib.AppendIntMem
import Derived.Lib.ItoaMem
import Derived.Lib.BufferKept
import Derived.Lib.Slices
import Derived.Lib.Walk
import Derived.Lib.ItoaWalk
namespace Go.Proofs.YtnbcklkomdalgaaDoor
open Go.RowKit Go.Sort

theorem many_ext {w : World} {B : Nat} {v : Value} {l : List UInt8} (h : Bytes w B v l) (hB : B ≤ w.heap.size) (ds : List UInt8) (ad : Addr) (n c : Nat) (hn : ds.length = n) (hc : ∀ j u, (ds.map bc)[j]? = some u → w.cell? (ad.add j) = some u) (hl : l.length + n ≤ 100000000) (ty : TypeId) :
    ∃ v' w', (Builtin.append_ #[39, 39] ty #[v, .slice (some ad) n c]).run Tryd.prog w = .ok v' w' ∧ Bytes w' B v' (l ++ ds) ∧ Ext w w' v v' := by
  have hinf := info_u8
  cases hi : Tryd.prog.info? 5 with
  | none => simp [hi] at hinf
  | some i0 =>
    simp only [hi, Option.map_some, Option.some.injEq, Prod.mk.injEq] at hinf
    obtain ⟨hz0, hz1, hz2⟩ := hinf
    obtain ⟨v', w', hr, h2, h3, -, h5⟩ := run_append_own_at (P := Tryd.prog) w B 39 ty 5 i0 (.int .u8 0) 1 1 Tryd.underlying39 hi hz0 hz1 hz2 rfl (by decide) v l.length (l.map bc) h ad n c (ds.map bc) (by rw [List.length_map]; omega) hc (by intro u hu; obtain ⟨b, -, rfl⟩ := List.mem_map.1 hu; rfl) (by unfold maxLen; omega) (by omega) hB
    refine ⟨v', w', hr, ?_, h3, ?_⟩
    · unfold Bytes
      rw [List.length_append, List.map_append, hn]
      exact h2
    · rcases h5 with e | e
      · exact .inl e
      · exact .inr fun k hk => by rw [e] at hk; cases hk; exact Nat.le_refl _
theorem wpx_many {w : World} {ops : Array Oper} {rest : List Oper} {o : Oper} {a : Act} {Q : Exit → Act → World → Prop} (hgd : o.guard = none) (sl x : Operand)
    (ho : o.op = .call { callee := .builtin .append, args := #[sl, x], argTypes := #[39, 39] })
    (B : Nat) (v : Value) (l ds : List UInt8) (ad : Addr) (n c : Nat) (hs : a.eval sl = v) (hx : a.eval x = .slice (some ad) n c) (h : Bytes w B v l) (hB : B ≤ w.heap.size) (hn : ds.length = n) (hc : ∀ j u, (ds.map bc)[j]? = some u → w.cell? (ad.add j) = some u) (hl : l.length + n ≤ 100000000)
    (hK : ∀ v' w', Bytes w' B v' (l ++ ds) → Ext w w' v v' → wpList Tryd.prog ops Q rest (a.put o.dst v') w') : wpList Tryd.prog ops Q (o :: rest) a w := by
  refine wpList_plain hgd fun K hK' => ?_
  obtain ⟨v', w', hr, h1, h2⟩ := many_ext h hB ds ad n c hn hc hl o.type
  unfold Oper.wp execOp
  simp only [ho, resolve, invoke, builtin, Sem.run_bind, Sem.run_pure, Result.andThen_ok, List.map_toArray, List.map_cons, List.map_nil, hs, hx, hr]
  exact hK' _ _ (hK v' w' h1 h2)

def DigPost (B : Nat) (w : World) (v : Value) (l ds : List UInt8) (e : Ending) (w' : World) : Prop := ∃ v', e = .returned v' ∧ Bytes w' B v' (l ++ ds) ∧ Ext w w' v v'
set_option maxRecDepth 100000 in
set_option maxHeartbeats 1000000 in
theorem uint_small (u : Nat) (hu : u < 100) {w : World} {B : Nat} {v : Value} {l : List UInt8} (h : Bytes w B v l) (hB : B ≤ w.heap.size) (hl : l.length + 20 ≤ 100000000) :
    Calls Tryd.prog 68 #[v, .int .u64 (u : Int), .int .i64 10] w (DigPost B w v l (Lib.decDigits u)) := by
  have h1 : (u : Int) < 100 := by omega
  have hcv : wrap64 (u : Int) = (u : Int) := IntWalk.wrap64_in _ (by omega)
  have hcv2 : IntKind.i64.wrap (u : Int) = (u : Int) := (IntWalk.i64_left _).trans hcv
  have hds : (⟨(Lib.decDigits u).toArray⟩ : ByteArray).size ≤ 20 := by
    show (Lib.decDigits u).toArray.size ≤ 20
    rw [List.size_toArray, Lib.decDigits_length]
    have : Lib.nDigits u ≤ 20 := by
      rcases Nat.eq_zero_or_pos u with rfl | hp
      · rw [Lib.nDigits]; decide
      · have := Lib.numDigits_eq u hp (by omega)
        split at this <;> omega
    exact this
  have HS := hide (Tryd.internal_strconv_small u hu)
  have HB := hide (And.intro h (And.intro hB hds))
  clear h hB hds
  go_enter Tryd.func68, Tryd.ntmps68
  go_wp2_with (first | (go_at_call 80; refine (unhide HS _).mono ?_; rintro e w' ⟨rfl, rfl⟩) | (at_builtin; refine wpx_str rfl _ _ rfl B _ l _ rfl rfl (unhide HB).1 (unhide HB).2.1 (by have := (unhide HB).2.2; omega) ?_; intro v' w2 hv' he'))
  go_ret
  exact ⟨_, rfl, hv', he'⟩
set_option maxRecDepth 100000 in
set_option maxHeartbeats 2000000 in
theorem uint_big (u : Nat) (hu : 100 ≤ u) (hu2 : u ≤ 65536) {w : World} {B : Nat} {v : Value} {l : List UInt8} (h : Bytes w B v l) (hB : B ≤ w.heap.size) (hl : l.length + 20 ≤ 100000000) (htab : Lib.TabIs Tryd.prog w "internal/strconv.uint64pow10" .u64 Lib.pow10Tab) :
    Calls Tryd.prog 68 #[v, .int .u64 (u : Int), .int .i64 10] w (DigPost B w v l (Lib.decDigits u)) := by
  have hnd : Lib.nDigits u ≤ 20 := by have := Lib.numDigits_eq u (by omega) (by omega); split at this <;> omega
  have hal : Tryd.prog.arrayLen 105 = 24 := by kernel_rfl
  have hsl : ∀ W, (Instr.sliceAt 105 (.pointer (some ⟨w.heap.size, 0, none⟩)) none (some (.int .i64 (Lib.nDigits u : Int))) none).run Tryd.prog W = .ok (.slice (some ⟨w.heap.size, 0, none⟩) (Lib.nDigits u) 24) W := fun W => by
    rw [run_sliceAt_array_h W 105 ⟨w.heap.size, 0, none⟩ (by kernel_rfl) .i64 (Lib.nDigits u : Int) (by omega) (by rw [hal]; omega)]
    have he : Tryd.prog.elem 105 = 5 := by kernel_rfl
    rw [hal, he]
    go_simp
  have hz := Lib.holds_zero0 w 105 (Lib.nDigits u) (by omega)
  have hf := Tryd.internal_strconv_formatBase10 w.heap.size 0 24 u (Array.replicate (Lib.nDigits u) 0) (w.alloc (.cells Lib.zeros24 105)) hz (by rw [Array.size_replicate]; exact Lib.lt_pow_nDigits u) (by omega) (by rw [Array.size_replicate]; omega)
  rw [Array.size_replicate] at hf
  have HZ := hide hz
  have HF := hide hf
  have HD := hide (Tryd.internal_strconv_numDigits u (by omega) (by omega) (w.alloc (.cells Lib.zeros24 105)) (Lib.tabIs_alloc htab _))
  have HB := hide (And.intro h (And.intro hB hl))
  have h1 : ¬ (u : Int) < 100 := by omega
  clear hz hf h hB hl htab hal
  go_enter Tryd.func68, Tryd.ntmps68
  go_wp2_with (first | (go_at_call 81; refine (unhide HD).mono ?_; rintro e w' ⟨rfl, rfl⟩))
  go_at_call 82
  refine (unhide HF).mono ?_
  rintro e w' ⟨rfl, k, v', dk, rfl, hF⟩
  have hcells : ∀ j x, ((Lib.decDigits u).map bc)[j]? = some x → ((putRow (fun (b : UInt8) => Value.int .u8 (b.toNat : Int)) (w.alloc (.cells Lib.zeros24 105)) w.heap.size 0 dk).drewN k).cell? ((⟨w.heap.size, 0, none⟩ : Addr).add j) = some x := fun j x hj => by
    have hjl : j < (Lib.decDigits u).length := by have := (List.getElem?_eq_some_iff.1 hj).1; rwa [List.length_map] at this
    rw [List.getElem?_map, List.getElem?_eq_getElem hjl] at hj
    rw [← Option.some.inj hj, Lib.add_plain, World.cell?_drewN]
    show _ = some (Value.int .u8 ((Lib.decDigits u)[j].toNat : Int))
    rw [Lib.row_is_numeral hF j hjl]
    exact cell?_putRow (fun (b : UInt8) => Value.int .u8 (b.toNat : Int)) _ w.heap.size 0 _ dk (unhide HZ) (by rw [hF.size, Array.size_replicate]) j (by rw [hF.size]; rw [Lib.decDigits_length] at hjl; exact hjl)
  obtain ⟨os, eo⟩ := Lib.fin_at w (.cells Lib.zeros24 105) dk k 0
  have hbel : Below w.heap.size w ((putRow (fun (b : UInt8) => Value.int .u8 (b.toNat : Int)) (w.alloc (.cells Lib.zeros24 105)) w.heap.size 0 dk).drewN k) := by rw [eo]; exact Lib.below_grow w.heap.size w (Nat.le_refl _) k os
  generalize (putRow (fun (b : UInt8) => Value.int .u8 (b.toNat : Int)) (w.alloc (.cells Lib.zeros24 105)) w.heap.size 0 dk).drewN k = W2 at hcells hbel ⊢
  have HC := hide hcells
  have HL := hide hbel
  have HN := hide hnd
  clear hcells hbel eo hF HF HZ HD hnd
  go_wp2_with (at_builtin; refine wpx_many rfl _ _ rfl B _ l (Lib.decDigits u) ⟨w.heap.size, 0, none⟩ (Lib.nDigits u) 24 rfl rfl ((unhide HB).1.later (unhide HL)) (Nat.le_trans (unhide HB).2.1 (unhide HL).size) (Lib.decDigits_length u) (unhide HC) (by have := (unhide HB).2.2; have := unhide HN; omega) ?_; intro v2 w3 hv2 he2)
  go_ret
  exact ⟨_, rfl, hv2, (Ext.below v (unhide HL)).trans he2⟩
theorem uint_any (u : Nat) (hu : u ≤ 65536) {w : World} {B : Nat} {v : Value} {l : List UInt8} (h : Bytes w B v l) (hB : B ≤ w.heap.size) (hl : l.length + 20 ≤ 100000000) (htab : Lib.TabIs Tryd.prog w "internal/strconv.uint64pow10" .u64 Lib.pow10Tab) :
    Calls Tryd.prog 68 #[v, .int .u64 (u : Int), .int .i64 10] w (DigPost B w v l (Lib.decDigits u)) := by
  rcases Nat.lt_or_ge u 100 with q | q
  · exact uint_small u q h hB hl
  · exact uint_big u q hu h hB hl htab
set_option maxRecDepth 100000 in
set_option maxHeartbeats 1000000 in
theorem int_any (u : Nat) (hu : u ≤ 65536) {w : World} {B : Nat} {v : Value} {l : List UInt8} (h : Bytes w B v l) (hB : B ≤ w.heap.size) (hl : l.length + 20 ≤ 100000000) (htab : Lib.TabIs Tryd.prog w "internal/strconv.uint64pow10" .u64 Lib.pow10Tab) :
    Calls Tryd.prog 54 #[v, .int .i64 (u : Int), .int .i64 10] w (DigPost B w v l (Lib.decDigits u)) := by
  have HU := hide (uint_any u hu h hB hl htab)
  have h1 : ¬ (u : Int) < 0 := by omega
  have hcv : IntKind.u64.wrap (u : Int) = (u : Int) := by
    have e : IntKind.u64.bits = 64 := rfl
    have s : IntKind.u64.signed = false := rfl
    unfold IntKind.wrap
    simp only [e, s]
    simp
    omega
  clear h hB hl htab
  go_enter Tryd.func54, Tryd.ntmps54
  go_wp2_with fail
  refine (unhide HU).mono ?_
  rintro e w2 ⟨v', rfl, hv', he'⟩
  go_wp2_with fail
  go_ret
  exact ⟨_, rfl, hv', he'⟩
set_option maxRecDepth 100000 in
set_option maxHeartbeats 1000000 in
theorem appendInt_any (u : Nat) (hu : u ≤ 65536) {w : World} {B : Nat} {v : Value} {l : List UInt8} (h : Bytes w B v l) (hB : B ≤ w.heap.size) (hl : l.length + 20 ≤ 100000000) (htab : Lib.TabIs Tryd.prog w "internal/strconv.uint64pow10" .u64 Lib.pow10Tab) :
    Calls Tryd.prog 45 #[v, .int .i64 (u : Int), .int .i64 10] w (DigPost B w v l (Lib.decDigits u)) := by
  have HU := hide (int_any u hu h hB hl htab)
  clear h hB hl htab
  go_enter Tryd.func45, Tryd.ntmps45
  go_wp2_with fail
  refine (unhide HU).mono ?_
  rintro e w2 ⟨v', rfl, hv', he'⟩
  go_wp2_with fail
  go_ret
  exact ⟨_, rfl, hv', he'⟩
end Go.Proofs.YtnbcklkomdalgaaDoor
