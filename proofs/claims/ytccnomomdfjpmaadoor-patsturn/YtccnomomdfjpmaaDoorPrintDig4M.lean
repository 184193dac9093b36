/- What the parts of strconv answer, laid from the library. A number's digits behind a row of bytes: nothing but that row changes. -/
import Derived.Shelf.Strings.Builder1
import Derived.Shelf.Strings.Builder2
import Derived.Shelf.Strconv.Itoa0
import Derived.Shelf.Strconv.Itoa1
import Derived.Shelf.LaysM
import Derived.Shelf.Strconv.Itoa2
import Derived.Shelf.Strconv.Clone
import Derived.Shelf.Strings.Search1
import Derived.Shelf.Strings.Search2
import Derived.Shelf.Strings.Search3
import Derived.Shelf.Strings.Count
import Derived.Shelf.Strings.Shaped
import Derived.Shelf.Strconv.AppendUint10
import Derived.Shelf.Strconv.AppendInt10
import Derived.Shelf.Strconv.AppendIntPublic10
import Derived.Shelf.Strings.Split
import Derived.Shelf.Strings.Replace
import Derived.Shelf.Strings.SplitShaped
import Derived.Shelf.Strings.RuneCount
import Derived.Shelf.Unicode.DecodeSlow
import Derived.Shelf.Unicode.DecodeAny
import Derived.Test.YtccnomomdfjpmaaDoorProg
import Derived.Test.YtccnomomdfjpmaaDoorPrintBrk4M
import Derived.Lib.AppendIntMem
import Derived.Lib.ItoaMem
import Derived.Lib.BufferKept
import Derived.Lib.Slices
import Derived.Lib.Walk
import Derived.Lib.ItoaWalk
namespace Go.Proofs
open Go.Shelf Go.RowKit Go.Sort Go.Lib
def Tryd.lays283_ren : Go.Shelf.Ren := ⟨fun | 283 => 80 | n => n, fun | 3 => 3 | 9 => 9 | 4 => 4 | n => n, fun | n => n⟩
theorem Tryd.lays283 : Go.Proofs.Lays.n283 Tryd.prog Tryd.lays283_ren := {
  mixed := by kernel_rfl
  f283 := Tryd.func80.trans (congrArg some (by kernel_rfl))
  t3 := Tryd.underlying3
  a3 := Tryd.isAgg3
  z3 := Tryd.sizeOf3
  v3 := Tryd.zeroValue3
  t4 := Tryd.underlying4
  a4 := Tryd.isAgg4
  z4 := Tryd.sizeOf4
  v4 := Tryd.zeroValue4
  t9 := Tryd.underlying9
  a9 := Tryd.isAgg9
  z9 := Tryd.sizeOf9
  v9 := Tryd.zeroValue9 }
theorem Tryd.internal_strconv_small (i : Nat) (h : i < 100) (w : World) :
    Calls Tryd.prog 80 #[.int .i64 i] w fun e w' => e = .returned (.string ⟨(Lib.decDigits i).toArray⟩) ∧ w' = w := Any.internal_strconv_small Tryd.lays283 i h w
def Tryd.laysM284_ren : Go.Shelf.Ren := ⟨fun | 284 => 81 | 129 => 96 | 317 => 95 | 318 => 97 | n => n, fun | 53 => 97 | 3 => 3 | 212 => 120 | 0 => 0 | 4 => 4 | 46 => 114 | 5 => 5 | 9 => 9 | n => n, fun | 17 => 4 | n => n⟩
theorem Tryd.laysM284 : Go.Proofs.LaysM.n284 Tryd.prog Tryd.laysM284_ren := {
  mixed := by kernel_rfl
  f129 := Tryd.func96.trans (congrArg some (by kernel_rfl))
  f284 := Tryd.func81.trans (congrArg some (by kernel_rfl))
  f317 := Tryd.func95.trans (congrArg some (by kernel_rfl))
  f318 := Tryd.func97.trans (congrArg some (by kernel_rfl))
  t0 := Tryd.underlying0
  a0 := Tryd.isAgg0
  z0 := Tryd.sizeOf0
  v0 := Tryd.zeroValue0
  t3 := Tryd.underlying3
  a3 := Tryd.isAgg3
  z3 := Tryd.sizeOf3
  v3 := Tryd.zeroValue3
  t4 := Tryd.underlying4
  a4 := Tryd.isAgg4
  z4 := Tryd.sizeOf4
  v4 := Tryd.zeroValue4
  t5 := Tryd.underlying5
  a5 := Tryd.isAgg5
  z5 := Tryd.sizeOf5
  v5 := Tryd.zeroValue5
  t9 := Tryd.underlying9
  a9 := Tryd.isAgg9
  z9 := Tryd.sizeOf9
  v9 := Tryd.zeroValue9
  t46 := Tryd.underlying114
  a46 := Tryd.isAgg114
  z46 := Tryd.sizeOf114
  v46 := Tryd.zeroValue114
  t53 := Tryd.underlying97
  a53 := Tryd.isAgg97
  z53 := Tryd.sizeOf97
  v53 := Tryd.zeroValue97
  t212 := Tryd.underlying120
  a212 := Tryd.isAgg120
  z212 := Tryd.sizeOf120
  v212 := Tryd.zeroValue120
  g17 := by kernel_rfl
  i0 := by kernel_rfl
  i3 := by kernel_rfl
  i4 := by kernel_rfl
  i5 := by kernel_rfl
  i9 := by kernel_rfl
  i46 := by kernel_rfl
  i53 := by kernel_rfl
  i212 := by kernel_rfl
  m17 := by kernel_rfl }
theorem Tryd.internal_strconv_numDigits (u : Nat) (h1 : 1 ≤ u) (h2 : u < 18446744073709551616) (w : World) (htab : Lib.TabIs Tryd.prog w "internal/strconv.uint64pow10" .u64 Lib.pow10Tab) :
    Calls Tryd.prog 81 #[.int .u64 u] w fun e w' => e = .returned (.int .i64 (Lib.nDigits u)) ∧ w' = w := Any.internal_strconv_numDigits Tryd.laysM284 u h1 h2 w htab
def Tryd.lays285_ren : Go.Shelf.Ren := ⟨fun | 285 => 82 | n => n, fun | 37 => 39 | 53 => 97 | 3 => 3 | 4 => 4 | 51 => 121 | 9 => 9 | 5 => 5 | 0 => 0 | n => n, fun | n => n⟩
theorem Tryd.lays285 : Go.Proofs.Lays.n285 Tryd.prog Tryd.lays285_ren := {
  mixed := by kernel_rfl
  f285 := Tryd.func82.trans (congrArg some (by kernel_rfl))
  t0 := Tryd.underlying0
  a0 := Tryd.isAgg0
  z0 := Tryd.sizeOf0
  v0 := Tryd.zeroValue0
  t3 := Tryd.underlying3
  a3 := Tryd.isAgg3
  z3 := Tryd.sizeOf3
  v3 := Tryd.zeroValue3
  t4 := Tryd.underlying4
  a4 := Tryd.isAgg4
  z4 := Tryd.sizeOf4
  v4 := Tryd.zeroValue4
  t5 := Tryd.underlying5
  a5 := Tryd.isAgg5
  z5 := Tryd.sizeOf5
  v5 := Tryd.zeroValue5
  t9 := Tryd.underlying9
  a9 := Tryd.isAgg9
  z9 := Tryd.sizeOf9
  v9 := Tryd.zeroValue9
  t37 := Tryd.underlying39
  a37 := Tryd.isAgg39
  z37 := Tryd.sizeOf39
  v37 := Tryd.zeroValue39
  t51 := Tryd.underlying121
  a51 := Tryd.isAgg121
  z51 := Tryd.sizeOf121
  v51 := Tryd.zeroValue121
  t53 := Tryd.underlying97
  a53 := Tryd.isAgg97
  z53 := Tryd.sizeOf97
  v53 := Tryd.zeroValue97 }
theorem Tryd.internal_strconv_formatBase10 (blk off cap : Nat) (u : Nat) (d : Array UInt8) (w : World) (hH : Holds (fun (b : UInt8) => Value.int .u8 (b.toNat : Int)) w blk off d) (hu : u < 10 ^ d.size) (hu64 : u < 18446744073709551616) (hsz : d.size < 4611686018427387904) :
    Calls Tryd.prog 82 #[.slice (some ⟨blk, off, none⟩) d.size cap, .int .u64 u] w fun e w' =>
      e = .returned (.tuple #[]) ∧ ∃ (n v' : Nat) (dk : Array UInt8), w' = (putRow (fun (b : UInt8) => Value.int .u8 (b.toNat : Int)) w blk off dk).drewN n ∧ FmtInv d.size u 0 v' dk := Any.internal_strconv_formatBase10 Tryd.lays285 blk off cap u d w hH hu hu64 hsz
end Go.Proofs

namespace Go.Proofs.YtccnomomdfjpmaaDoor
open Go.RowKit Go.Sort

theorem many_ext {w : World} {B : Nat} {v : Value} {l : List UInt8} (h : Bytes w B v l) (hB : B ≤ w.heap.size) (ds : List UInt8) (ad : Addr) (n c : Nat) (hn : ds.length = n) (hc : ∀ j u, (ds.map bc)[j]? = some u → w.cell? (ad.add j) = some u) (hl : l.length + n ≤ 100000000) (ty : TypeId) :
    ∃ v' w', (Builtin.append_ #[39, 39] ty #[v, .slice (some ad) n c]).run Tryd.prog w = .ok v' w' ∧ Bytes w' B v' (l ++ ds) ∧ Ext w w' v v' := by
  have hinf := info_u8
  cases hi : Tryd.prog.info? 5 with
  | none => simp [hi] at hinf
  | some i0 =>
    simp only [hi, Option.map_some, Option.some.injEq, Prod.mk.injEq] at hinf
    obtain ⟨hz0, hz1, hz2⟩ := hinf
    obtain ⟨v', w', hr, h2, h3, -, h5⟩ := run_append_own_at (P := Tryd.prog) w B 39 ty 5 i0 (.int .u8 0) 1 1 Tryd.underlying39 hi hz0 hz1 hz2 rfl (by decide) v l.length (l.map bc) h ad n c (ds.map bc) (by rw [List.length_map]; omega) hc (by intro u hu; obtain ⟨b, -, rfl⟩ := List.mem_map.1 hu; rfl) (by unfold maxLen; omega) (by omega) hB
    refine ⟨v', w', hr, ?_, h3, ?_⟩
    · unfold Bytes
      rw [List.length_append, List.map_append, hn]
      exact h2
    · rcases h5 with e | e
      · exact .inl e
      · exact .inr fun k hk => by rw [e] at hk; cases hk; exact Nat.le_refl _
theorem wpx_many {w : World} {ops : Array Oper} {rest : List Oper} {o : Oper} {a : Act} {Q : Exit → Act → World → Prop} (hgd : o.guard = none) (sl x : Operand)
    (ho : o.op = .call { callee := .builtin .append, args := #[sl, x], argTypes := #[39, 39] })
    (B : Nat) (v : Value) (l ds : List UInt8) (ad : Addr) (n c : Nat) (hs : a.eval sl = v) (hx : a.eval x = .slice (some ad) n c) (h : Bytes w B v l) (hB : B ≤ w.heap.size) (hn : ds.length = n) (hc : ∀ j u, (ds.map bc)[j]? = some u → w.cell? (ad.add j) = some u) (hl : l.length + n ≤ 100000000)
    (hK : ∀ v' w', Bytes w' B v' (l ++ ds) → Ext w w' v v' → wpList Tryd.prog ops Q rest (a.put o.dst v') w') : wpList Tryd.prog ops Q (o :: rest) a w := by
  refine wpList_plain hgd fun K hK' => ?_
  obtain ⟨v', w', hr, h1, h2⟩ := many_ext h hB ds ad n c hn hc hl o.type
  unfold Oper.wp execOp
  simp only [ho, resolve, invoke, builtin, Sem.run_bind, Sem.run_pure, Result.andThen_ok, List.map_toArray, List.map_cons, List.map_nil, hs, hx, hr]
  exact hK' _ _ (hK v' w' h1 h2)
def DigPost (B : Nat) (w : World) (v : Value) (l ds : List UInt8) (e : Ending) (w' : World) : Prop := ∃ v', e = .returned v' ∧ Bytes w' B v' (l ++ ds) ∧ Ext w w' v v'
set_option maxRecDepth 100000 in
set_option maxHeartbeats 1000000 in
theorem uint_small (u : Nat) (hu : u < 100) {w : World} {B : Nat} {v : Value} {l : List UInt8} (h : Bytes w B v l) (hB : B ≤ w.heap.size) (hl : l.length + 20 ≤ 100000000) :
    Calls Tryd.prog 68 #[v, .int .u64 (u : Int), .int .i64 10] w (DigPost B w v l (Lib.decDigits u)) := by
  have h1 : (u : Int) < 100 := by omega
  have hcv : wrap64 (u : Int) = (u : Int) := IntWalk.wrap64_in _ (by omega)
  have hcv2 : IntKind.i64.wrap (u : Int) = (u : Int) := (IntWalk.i64_left _).trans hcv
  have hds : (⟨(Lib.decDigits u).toArray⟩ : ByteArray).size ≤ 20 := by
    show (Lib.decDigits u).toArray.size ≤ 20
    rw [List.size_toArray, Lib.decDigits_length]
    have : Lib.nDigits u ≤ 20 := by
      rcases Nat.eq_zero_or_pos u with rfl | hp
      · rw [Lib.nDigits]; decide
      · have := Lib.numDigits_eq u hp (by omega)
        split at this <;> omega
    exact this
  have HS := hide (Tryd.internal_strconv_small u hu)
  have HB := hide (And.intro h (And.intro hB hds))
  clear h hB hds
  go_enter Tryd.func68, Tryd.ntmps68
  go_wp2_with (first | (go_at_call 80; refine (unhide HS _).mono ?_; rintro e w' ⟨rfl, rfl⟩) | (at_builtin; refine wpx_str rfl _ _ rfl B _ l _ rfl rfl (unhide HB).1 (unhide HB).2.1 (by have := (unhide HB).2.2; omega) ?_; intro v' w2 hv' he'))
  go_ret
  exact ⟨_, rfl, hv', he'⟩
set_option maxRecDepth 100000 in
set_option maxHeartbeats 2000000 in
theorem uint_big (u : Nat) (hu : 100 ≤ u) (hu2 : u ≤ 65536) {w : World} {B : Nat} {v : Value} {l : List UInt8} (h : Bytes w B v l) (hB : B ≤ w.heap.size) (hl : l.length + 20 ≤ 100000000) (htab : Lib.TabIs Tryd.prog w "internal/strconv.uint64pow10" .u64 Lib.pow10Tab) :
    Calls Tryd.prog 68 #[v, .int .u64 (u : Int), .int .i64 10] w (DigPost B w v l (Lib.decDigits u)) := by
  have hnd : Lib.nDigits u ≤ 20 := by have := Lib.numDigits_eq u (by omega) (by omega); split at this <;> omega
  have hal : Tryd.prog.arrayLen 105 = 24 := by kernel_rfl
  have hsl : ∀ W, (Instr.sliceAt 105 (.pointer (some ⟨w.heap.size, 0, none⟩)) none (some (.int .i64 (Lib.nDigits u : Int))) none).run Tryd.prog W = .ok (.slice (some ⟨w.heap.size, 0, none⟩) (Lib.nDigits u) 24) W := fun W => by
    rw [run_sliceAt_array_h W 105 ⟨w.heap.size, 0, none⟩ (by kernel_rfl) .i64 (Lib.nDigits u : Int) (by omega) (by rw [hal]; omega)]
    have he : Tryd.prog.elem 105 = 5 := by kernel_rfl
    rw [hal, he]
    go_simp
  have hz := Lib.holds_zero0 w 105 (Lib.nDigits u) (by omega)
  have hf := Tryd.internal_strconv_formatBase10 w.heap.size 0 24 u (Array.replicate (Lib.nDigits u) 0) (w.alloc (.cells Lib.zeros24 105)) hz (by rw [Array.size_replicate]; exact Lib.lt_pow_nDigits u) (by omega) (by rw [Array.size_replicate]; omega)
  rw [Array.size_replicate] at hf
  have HZ := hide hz
  have HF := hide hf
  have HD := hide (Tryd.internal_strconv_numDigits u (by omega) (by omega) (w.alloc (.cells Lib.zeros24 105)) (Lib.tabIs_alloc htab _))
  have HB := hide (And.intro h (And.intro hB hl))
  have h1 : ¬ (u : Int) < 100 := by omega
  clear hz hf h hB hl htab hal
  go_enter Tryd.func68, Tryd.ntmps68
  go_wp2_with (first | (go_at_call 81; refine (unhide HD).mono ?_; rintro e w' ⟨rfl, rfl⟩))
  go_at_call 82
  refine (unhide HF).mono ?_
  rintro e w' ⟨rfl, k, v', dk, rfl, hF⟩
  have hcells : ∀ j x, ((Lib.decDigits u).map bc)[j]? = some x → ((putRow (fun (b : UInt8) => Value.int .u8 (b.toNat : Int)) (w.alloc (.cells Lib.zeros24 105)) w.heap.size 0 dk).drewN k).cell? ((⟨w.heap.size, 0, none⟩ : Addr).add j) = some x := fun j x hj => by
    have hjl : j < (Lib.decDigits u).length := by have := (List.getElem?_eq_some_iff.1 hj).1; rwa [List.length_map] at this
    rw [List.getElem?_map, List.getElem?_eq_getElem hjl] at hj
    rw [← Option.some.inj hj, Lib.add_plain, World.cell?_drewN]
    show _ = some (Value.int .u8 ((Lib.decDigits u)[j].toNat : Int))
    rw [Lib.row_is_numeral hF j hjl]
    exact cell?_putRow (fun (b : UInt8) => Value.int .u8 (b.toNat : Int)) _ w.heap.size 0 _ dk (unhide HZ) (by rw [hF.size, Array.size_replicate]) j (by rw [hF.size]; rw [Lib.decDigits_length] at hjl; exact hjl)
  obtain ⟨os, eo⟩ := Lib.fin_at w (.cells Lib.zeros24 105) dk k 0
  have hbel : Below w.heap.size w ((putRow (fun (b : UInt8) => Value.int .u8 (b.toNat : Int)) (w.alloc (.cells Lib.zeros24 105)) w.heap.size 0 dk).drewN k) := by rw [eo]; exact Lib.below_grow w.heap.size w (Nat.le_refl _) k os
  generalize (putRow (fun (b : UInt8) => Value.int .u8 (b.toNat : Int)) (w.alloc (.cells Lib.zeros24 105)) w.heap.size 0 dk).drewN k = W2 at hcells hbel ⊢
  have HC := hide hcells
  have HL := hide hbel
  have HN := hide hnd
  clear hcells hbel eo hF HF HZ HD hnd
  go_wp2_with (at_builtin; refine wpx_many rfl _ _ rfl B _ l (Lib.decDigits u) ⟨w.heap.size, 0, none⟩ (Lib.nDigits u) 24 rfl rfl ((unhide HB).1.later (unhide HL)) (Nat.le_trans (unhide HB).2.1 (unhide HL).size) (Lib.decDigits_length u) (unhide HC) (by have := (unhide HB).2.2; have := unhide HN; omega) ?_; intro v2 w3 hv2 he2)
  go_ret
  exact ⟨_, rfl, hv2, (Ext.below v (unhide HL)).trans he2⟩
theorem uint_any (u : Nat) (hu : u ≤ 65536) {w : World} {B : Nat} {v : Value} {l : List UInt8} (h : Bytes w B v l) (hB : B ≤ w.heap.size) (hl : l.length + 20 ≤ 100000000) (htab : Lib.TabIs Tryd.prog w "internal/strconv.uint64pow10" .u64 Lib.pow10Tab) :
    Calls Tryd.prog 68 #[v, .int .u64 (u : Int), .int .i64 10] w (DigPost B w v l (Lib.decDigits u)) := by
  rcases Nat.lt_or_ge u 100 with q | q
  · exact uint_small u q h hB hl
  · exact uint_big u q hu h hB hl htab
set_option maxRecDepth 100000 in
set_option maxHeartbeats 1000000 in
theorem int_any (u : Nat) (hu : u ≤ 65536) {w : World} {B : Nat} {v : Value} {l : List UInt8} (h : Bytes w B v l) (hB : B ≤ w.heap.size) (hl : l.length + 20 ≤ 100000000) (htab : Lib.TabIs Tryd.prog w "internal/strconv.uint64pow10" .u64 Lib.pow10Tab) :
    Calls Tryd.prog 54 #[v, .int .i64 (u : Int), .int .i64 10] w (DigPost B w v l (Lib.decDigits u)) := by
  have HU := hide (uint_any u hu h hB hl htab)
  have h1 : ¬ (u : Int) < 0 := by omega
  have hcv : IntKind.u64.wrap (u : Int) = (u : Int) := by
    have e : IntKind.u64.bits = 64 := rfl
    have s : IntKind.u64.signed = false := rfl
    unfold IntKind.wrap
    simp only [e, s]
    simp
    omega
  clear h hB hl htab
  go_enter Tryd.func54, Tryd.ntmps54
  go_wp2_with fail
  refine (unhide HU).mono ?_
  rintro e w2 ⟨v', rfl, hv', he'⟩
  go_wp2_with fail
  go_ret
  exact ⟨_, rfl, hv', he'⟩
set_option maxRecDepth 100000 in
set_option maxHeartbeats 1000000 in
theorem appendInt_any (u : Nat) (hu : u ≤ 65536) {w : World} {B : Nat} {v : Value} {l : List UInt8} (h : Bytes w B v l) (hB : B ≤ w.heap.size) (hl : l.length + 20 ≤ 100000000) (htab : Lib.TabIs Tryd.prog w "internal/strconv.uint64pow10" .u64 Lib.pow10Tab) :
    Calls Tryd.prog 45 #[v, .int .i64 (u : Int), .int .i64 10] w (DigPost B w v l (Lib.decDigits u)) := by
  have HU := hide (int_any u hu h hB hl htab)
  clear h hB hl htab
  go_enter Tryd.func45, Tryd.ntmps45
  go_wp2_with fail
  refine (unhide HU).mono ?_
  rintro e w2 ⟨v', rfl, hv', he'⟩
  go_wp2_with fail
  go_ret
  exact ⟨_, rfl, hv', he'⟩
end Go.Proofs.YtccnomomdfjpmaaDoor
