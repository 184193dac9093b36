/- What strconv.ParseInt answers, laid from the library. The reader of lines: numbers, patterns, signs that stand between. -/
import Derived.Below
import Derived.Shelf.LaysC
import Derived.Shelf.Strconv.ParseIntPublic10
import Derived.Test.YtpkmamgleofimaaGreatDoorProg
import Derived.Test.YtpkmamgleofimaaGreatDoorLexLibM
import Derived.Test.YtpkmamgleofimaaGreatDoorSyNM
import Derived.Test.YtpkmamgleofimaaGreatDoorStBM
namespace Go.Proofs
open Go.Shelf Go.RowKit Go.Lib
def Tryz.laysC174_ren : Go.Shelf.Ren := ⟨fun | 174 => 141 | 247 => 147 | 245 => 148 | 287 => 153 | 279 => 154 | 280 => 155 | 281 => 156 | 282 => 157 | 321 => 158 | 322 => 159 | 316 => 90 | 171 => 161 | 205 => 160 | 243 => 162 | 246 => 163 | 283 => 164 | 284 => 165 | 285 => 166 | 286 => 167 | 129 => 169 | 317 => 168 | 318 => 170 | 319 => 171 | 320 => 172 | 337 => 173 | 338 => 174 | n => n, fun | 9 => 9 | 3 => 3 | 2 => 2 | 75 => 140 | 85 => 170 | 4 => 4 | 167 => 174 | 5 => 5 | 53 => 175 | 175 => 176 | 46 => 133 | 168 => 178 | 37 => 135 | 0 => 0 | 210 => 183 | 21 => 21 | 127 => 143 | 145 => 188 | 143 => 186 | 171 => 190 | 173 => 193 | 212 => 196 | 51 => 152 | 20 => 20 | 213 => 197 | 232 => 200 | 233 => 201 | 80 => 82 | n => n, fun | 15 => 5 | 16 => 6 | 17 => 7 | 18 => 8 | 19 => 9 | n => n⟩
theorem Tryz.laysC174 : Go.Proofs.LaysC.n174 Tryz.prog Tryz.laysC174_ren := {
  mixed := by kernel_rfl
  f129 := Tryz.func169.trans (congrArg some (by kernel_rfl))
  f171 := Tryz.func161.trans (congrArg some (by kernel_rfl))
  f174 := Tryz.func141.trans (congrArg some (by kernel_rfl))
  f205 := Tryz.func160.trans (congrArg some (by kernel_rfl))
  f243 := Tryz.func162.trans (congrArg some (by kernel_rfl))
  f245 := Tryz.func148.trans (congrArg some (by kernel_rfl))
  f246 := Tryz.func163.trans (congrArg some (by kernel_rfl))
  f247 := Tryz.func147.trans (congrArg some (by kernel_rfl))
  f279 := Tryz.func154.trans (congrArg some (by kernel_rfl))
  f280 := Tryz.func155.trans (congrArg some (by kernel_rfl))
  f281 := Tryz.func156.trans (congrArg some (by kernel_rfl))
  f282 := Tryz.func157.trans (congrArg some (by kernel_rfl))
  f283 := Tryz.func164.trans (congrArg some (by kernel_rfl))
  f284 := Tryz.func165.trans (congrArg some (by kernel_rfl))
  f285 := Tryz.func166.trans (congrArg some (by kernel_rfl))
  f286 := Tryz.func167.trans (congrArg some (by kernel_rfl))
  f287 := Tryz.func153.trans (congrArg some (by kernel_rfl))
  f316 := Tryz.func90.trans (congrArg some (by kernel_rfl))
  f317 := Tryz.func168.trans (congrArg some (by kernel_rfl))
  f318 := Tryz.func170.trans (congrArg some (by kernel_rfl))
  f319 := Tryz.func171.trans (congrArg some (by kernel_rfl))
  f320 := Tryz.func172.trans (congrArg some (by kernel_rfl))
  f321 := Tryz.func158.trans (congrArg some (by kernel_rfl))
  f322 := Tryz.func159.trans (congrArg some (by kernel_rfl))
  f337 := Tryz.func173.trans (congrArg some (by kernel_rfl))
  f338 := Tryz.func174.trans (congrArg some (by kernel_rfl))
  t0 := Tryz.underlying0
  a0 := Tryz.isAgg0
  z0 := Tryz.sizeOf0
  v0 := Tryz.zeroValue0
  t2 := Tryz.underlying2
  a2 := Tryz.isAgg2
  z2 := Tryz.sizeOf2
  v2 := Tryz.zeroValue2
  t3 := Tryz.underlying3
  a3 := Tryz.isAgg3
  z3 := Tryz.sizeOf3
  v3 := Tryz.zeroValue3
  t4 := Tryz.underlying4
  a4 := Tryz.isAgg4
  z4 := Tryz.sizeOf4
  v4 := Tryz.zeroValue4
  t5 := Tryz.underlying5
  a5 := Tryz.isAgg5
  z5 := Tryz.sizeOf5
  v5 := Tryz.zeroValue5
  t9 := Tryz.underlying9
  a9 := Tryz.isAgg9
  z9 := Tryz.sizeOf9
  v9 := Tryz.zeroValue9
  t20 := Tryz.underlying20
  a20 := Tryz.isAgg20
  z20 := Tryz.sizeOf20
  v20 := Tryz.zeroValue20
  t21 := Tryz.underlying21
  a21 := Tryz.isAgg21
  z21 := Tryz.sizeOf21
  v21 := Tryz.zeroValue21
  t37 := Tryz.underlying135
  a37 := Tryz.isAgg135
  z37 := Tryz.sizeOf135
  v37 := Tryz.zeroValue135
  t46 := Tryz.underlying133
  a46 := Tryz.isAgg133
  z46 := Tryz.sizeOf133
  v46 := Tryz.zeroValue133
  t51 := Tryz.underlying152
  a51 := Tryz.isAgg152
  z51 := Tryz.sizeOf152
  v51 := Tryz.zeroValue152
  t53 := Tryz.underlying175
  a53 := Tryz.isAgg175
  z53 := Tryz.sizeOf175
  v53 := Tryz.zeroValue175
  t75 := Tryz.underlying140
  a75 := Tryz.isAgg140
  z75 := Tryz.sizeOf140
  v75 := Tryz.zeroValue140
  t85 := Tryz.underlying170
  a85 := Tryz.isAgg170
  z85 := Tryz.sizeOf170
  v85 := Tryz.zeroValue170
  t127 := Tryz.underlying143
  a127 := Tryz.isAgg143
  z127 := Tryz.sizeOf143
  v127 := Tryz.zeroValue143
  t143 := Tryz.underlying186
  a143 := Tryz.isAgg186
  z143 := Tryz.sizeOf186
  v143 := Tryz.zeroValue186
  t145 := Tryz.underlying188
  a145 := Tryz.isAgg188
  z145 := Tryz.sizeOf188
  v145 := Tryz.zeroValue188
  t167 := Tryz.underlying174
  a167 := Tryz.isAgg174
  z167 := Tryz.sizeOf174
  v167 := Tryz.zeroValue174
  t168 := Tryz.underlying178
  a168 := Tryz.isAgg178
  z168 := Tryz.sizeOf178
  v168 := Tryz.zeroValue178
  t171 := Tryz.underlying190
  a171 := Tryz.isAgg190
  z171 := Tryz.sizeOf190
  v171 := Tryz.zeroValue190
  t173 := Tryz.underlying193
  a173 := Tryz.isAgg193
  z173 := Tryz.sizeOf193
  v173 := Tryz.zeroValue193
  t175 := Tryz.underlying176
  a175 := Tryz.isAgg176
  z175 := Tryz.sizeOf176
  v175 := Tryz.zeroValue176
  t210 := Tryz.underlying183
  a210 := Tryz.isAgg183
  z210 := Tryz.sizeOf183
  v210 := Tryz.zeroValue183
  t212 := Tryz.underlying196
  a212 := Tryz.isAgg196
  z212 := Tryz.sizeOf196
  v212 := Tryz.zeroValue196
  t213 := Tryz.underlying197
  a213 := Tryz.isAgg197
  z213 := Tryz.sizeOf197
  t232 := Tryz.underlying200
  a232 := Tryz.isAgg200
  z232 := Tryz.sizeOf200
  v232 := Tryz.zeroValue200
  t233 := Tryz.underlying201
  a233 := Tryz.isAgg201
  z233 := Tryz.sizeOf201
  v233 := Tryz.zeroValue201
  g15 := by kernel_rfl
  g16 := by kernel_rfl
  g17 := by kernel_rfl
  g18 := by kernel_rfl
  g19 := by kernel_rfl
  t80 := Tryz.underlying82
  a80 := Tryz.isAgg82
  z80 := Tryz.sizeOf82
  v80 := Tryz.zeroValue82
  i0 := by kernel_rfl
  i2 := by kernel_rfl
  i3 := by kernel_rfl
  i4 := by kernel_rfl
  i5 := by kernel_rfl
  i9 := by kernel_rfl
  i20 := by kernel_rfl
  i21 := by kernel_rfl
  i37 := by kernel_rfl
  i46 := by kernel_rfl
  i51 := by kernel_rfl
  i53 := by kernel_rfl
  i75 := by kernel_rfl
  i80 := by kernel_rfl
  i85 := by kernel_rfl
  i127 := by kernel_rfl
  i143 := by kernel_rfl
  i145 := by kernel_rfl
  i167 := by kernel_rfl
  i168 := by kernel_rfl
  i171 := by kernel_rfl
  i173 := by kernel_rfl
  i175 := by kernel_rfl
  i210 := by kernel_rfl
  i212 := by kernel_rfl
  i232 := by kernel_rfl
  i233 := by kernel_rfl
  m15 := by kernel_rfl
  m16 := by kernel_rfl
  m17 := by kernel_rfl
  m18 := by kernel_rfl
  m19 := by kernel_rfl
  c0 := by kernel_rfl
  c2 := by kernel_rfl
  c3 := by kernel_rfl
  c4 := by kernel_rfl
  c5 := by kernel_rfl
  c9 := by kernel_rfl
  c20 := by kernel_rfl
  c21 := by kernel_rfl
  c37 := by kernel_rfl
  c46 := by kernel_rfl
  c51 := by kernel_rfl
  c53 := by kernel_rfl
  c75 := by kernel_rfl
  c80 := by kernel_rfl
  c85 := by kernel_rfl
  c127 := by kernel_rfl
  c143 := by kernel_rfl
  c145 := by kernel_rfl
  c167 := by kernel_rfl
  c168 := by kernel_rfl
  c171 := by kernel_rfl
  c173 := by kernel_rfl
  c175 := by kernel_rfl
  c210 := by kernel_rfl
  c212 := by kernel_rfl
  c213 := by kernel_rfl
  c232 := by kernel_rfl
  c233 := by kernel_rfl }
theorem Tryz.strconv_ParseInt_10_at64_ok (s : ByteArray) (hmax : s.size ≤ 9223372036854775806) (v : Int) (h : Lib.parseIntB 64 s.data.toList = .ok v) (w : World) :
    Calls Tryz.prog 141 #[.string s, .int .i64 10, .int .i64 64] w fun e w' => e = .returned (.tuple #[.int .i64 v, .nilIface]) ∧ (w' = w ∨ ∃ t, w' = Lib.bytesWorld w 5 t) := Any.strconv_ParseInt_10_at64_ok Tryz.laysC174 s hmax v h w
theorem Tryz.strconv_ParseInt_10_at64_range (s : ByteArray) (hlim : s.size ≤ 281474976710656) (h : Lib.parseIntB 64 s.data.toList = .range) (ev : Value) (w : World) (hv : w.cell? ⟨6, 0, none⟩ = some ev) (hev : ev = .nilIface ∨ ∃ te pe, ev = .iface te pe) :
    Calls Tryz.prog 141 #[.string s, .int .i64 10, .int .i64 64] w fun e w' => ∃ N, e = .returned (.tuple #[.int .i64 (Lib.intSat 64 s.data.toList), .iface 178 (.pointer (some ⟨N, 0, none⟩))]) ∧ w.heap.size ≤ N ∧ w'.heap[N]? = some (.cells #[.string ⟨#[80, 97, 114, 115, 101, 73, 110, 116]⟩, .string s, ev] 183 (0, 0)) ∧ Below w.heap.size w w' := Any.strconv_ParseInt_10_at64_range Tryz.laysC174 s hlim h ev w hv hev
end Go.Proofs

namespace Go.Proofs.YtpkmamgleofimaaGreatDoor
open Go.RowKit

structure SyEnv (C : SyC) (w : World) : Prop where
  sh : Shapes w
  shx : ShapesX w
  sh0 : w.cell? ⟨0, 1, none⟩ = some (.int .i64 0)
  er : ∃ te pe, w.cell? ⟨6, 0, none⟩ = some (.iface te pe)
  z1 : C.z ≠ 4
  z2 : C.z ≠ 0
  z3 : C.z ≠ 6
theorem cell_but {z g o : Nat} {w w' : World} {v : Value} (hb : But z w w') (h : w.cell? ⟨g, o, none⟩ = some v) (hz : z ≠ g) : w'.cell? ⟨g, o, none⟩ = some v := by
  have hg := hb.block g (World.block_lt_of_cell? _ _ h) (fun e => hz e.symm)
  rw [← h]; unfold World.cell?; rw [hg]
theorem SyEnv.but {C : SyC} {w w' : World} (h : SyEnv C w) (hb : But C.z w w') : SyEnv C w' := by
  refine ⟨h.sh.but hb h.z1, fun K h1 h2 => ?_, cell_but hb h.sh0 h.z2, ?_, h.z1, h.z2, h.z3⟩
  · obtain ⟨a, b, c, d, e⟩ := h.shx K h1 h2
    exact ⟨cell_but hb a h.z2, cell_but hb b h.z2, cell_but hb c h.z2, cell_but hb d h.z2, cell_but hb e h.z2⟩
  · obtain ⟨te, pe, q⟩ := h.er
    exact ⟨te, pe, cell_but hb q h.z3⟩
theorem SyEnv.below {C : SyC} {w w' : World} (h : SyEnv C w) (hb : Below w.heap.size w w') : SyEnv C w' := h.but (But.of_below hb)
theorem uintM_digits : ∀ (l : List UInt8) (acc : Nat), (∀ b ∈ l, 48 ≤ b.toNat ∧ b.toNat ≤ 57) → acc ≤ 18446744073709551615 → ∃ v, v = l.foldl (fun n (b : UInt8) => 10 * n + (b.toNat - 48)) acc ∧ ((v ≤ 18446744073709551615 ∧ Lib.parseUintM 18446744073709551615 acc l = .ok v) ∨ (18446744073709551615 < v ∧ Lib.parseUintM 18446744073709551615 acc l = .range))
  | [], acc, _, ha => ⟨acc, rfl, .inl ⟨ha, rfl⟩⟩
  | c :: r, acc, h, ha => by
    have hc := h c List.mem_cons_self
    have grow : ∀ (l : List UInt8) (a : Nat), a ≤ l.foldl (fun n (b : UInt8) => 10 * n + (b.toNat - 48)) a := fun l => by
      induction l with
      | nil => exact fun a => Nat.le_refl _
      | cons x l ih => exact fun a => Nat.le_trans (by omega) (ih (10 * a + (x.toNat - 48)))
    refine ⟨_, rfl, ?_⟩
    rw [Lib.parseUintM, if_pos hc, List.foldl_cons, show 10 * acc + (c.toNat - 48) = acc * 10 + (c.toNat - 48) by omega]
    have hg := grow r (acc * 10 + (c.toNat - 48))
    by_cases h1 : 1844674407370955162 ≤ acc
    · rw [if_pos h1]
      exact .inr ⟨by omega, rfl⟩
    · rw [if_neg h1]
      by_cases h2 : 18446744073709551615 < acc * 10 + (c.toNat - 48)
      · rw [if_pos h2]
        exact .inr ⟨by omega, rfl⟩
      · rw [if_neg h2]
        obtain ⟨v, rfl, hv⟩ := uintM_digits r (acc * 10 + (c.toNat - 48)) (fun b hb => h b (List.mem_cons_of_mem _ hb)) (by omega)
        exact hv
theorem int_digits {t : ByteArray} (h0 : t.size ≠ 0) (hd : ∀ b ∈ t.data.toList, 48 ≤ b.toNat ∧ b.toNat ≤ 57) : (dgV t ≤ 9223372036854775807 → Lib.parseIntB 64 t.data.toList = .ok (dgV t : Int)) ∧ (9223372036854775807 < dgV t → Lib.parseIntB 64 t.data.toList = .range) := by
  have hl : t.data.toList ≠ [] := fun e => h0 (by have := congrArg List.length e; simpa using this)
  obtain ⟨c, r, hcr⟩ : ∃ c r, t.data.toList = c :: r := by
    cases hq : t.data.toList with
    | nil => exact absurd hq hl
    | cons c r => exact ⟨c, r, rfl⟩
  have hc := hd c (by rw [hcr]; exact List.mem_cons_self)
  obtain ⟨v, hv, hu⟩ := uintM_digits t.data.toList 0 hd (by decide)
  have hdv : dgV t = v := by unfold dgV; rw [ByteArray.toList_eq]; exact hv.symm
  rw [hdv]
  have e : Lib.parseIntB 64 t.data.toList = match Lib.parseUintM 18446744073709551615 0 t.data.toList with | .syntax => .syntax | .range => .range | .ok u => if 9223372036854775808 ≤ u then .range else .ok (u : Int) := by
    rw [hcr, Lib.parseIntB]
    have n1 : ¬ c.toNat = 43 := by omega
    have n2 : ¬ c.toNat = 45 := by omega
    simp only [n1, n2, or_self, if_false, Lib.parseUintB, reduceCtorEq, not_false_eq_true, true_and, false_and]
    rfl
  rw [e]
  rcases hu with ⟨h1, h2⟩ | ⟨h1, h2⟩
  · rw [h2]
    refine ⟨fun q => ?_, fun q => ?_⟩
    · show (if 9223372036854775808 ≤ v then _ else _) = _
      rw [if_neg (by omega)]
    · show (if 9223372036854775808 ≤ v then _ else _) = _
      rw [if_pos (by omega)]
  · rw [h2]
    exact ⟨fun q => by omega, fun _ => rfl⟩
set_option maxRecDepth 100000 in
theorem look_run {w : World} {b n : Nat} {f : ByteArray → Option Int} (hM : MI w b n f) (s : ByteArray) (hs : s.size ≤ maxLen) : (Instr.lookup 52 (.map (some b)) (.string s) false).run Tryz.prog w = .ok (.int .i64 ((f s).getD 0)) w := by
  obtain ⟨D, hown, h5⟩ := hM
  obtain ⟨c, hrun, hat, -⟩ := hown.lookup_int (Maps.string_keyed Tryz.underlying9) Tryz.underlying52 Tryz.underlying3 (zero_int _) (keyS_key hs)
  have e : c = (f s).getD 0 := by
    cases hf : f s with
    | none =>
      have h := (h5 s).1
      rw [hf] at h
      rw [Maps.atKey_of_not_has h] at hat
      injection hat with hat; injection hat with _ hat
      exact hat.symm
    | some x =>
      rw [(h5 s).2 x hf] at hat
      injection hat with hat; injection hat with _ hat
      exact hat.symm
  rw [← e]; exact hrun
theorem btwF_get (t : ByteArray) : (btwF t).getD 0 = (btw t : Int) := by
  unfold btwF
  split
  · rename_i h; rw [h]; rfl
  · rfl
theorem btw_le (t : ByteArray) : btw t = 0 ∨ (8 ≤ btw t ∧ btw t ≤ 13) := by
  unfold btw
  (repeat' split) <;> omega
theorem lvl_at {C : SyC} {w : World} (h : SyEnv C w) (t : ByteArray) : w.cell? ⟨0, btw t * 5 + 1, none⟩ = some (.int .i64 (lvl0 (btw t) : Int)) := by
  rcases btw_le t with q | ⟨q1, q2⟩
  · rw [q]; exact h.sh0
  · have := (h.shx (btw t) (by omega) q2).2.1
    rw [this]
    have e : levelX (btw t : Int) = (lvl0 (btw t) : Int) := by
      obtain ⟨k, hk⟩ : ∃ k, k = btw t := ⟨_, rfl⟩
      rw [← hk] at q1 q2 ⊢
      have : k = 8 ∨ k = 9 ∨ k = 10 ∨ k = 11 ∨ k = 12 ∨ k = 13 := by omega
      rcases this with rfl | rfl | rfl | rfl | rfl | rfl <;> decide
    rw [e]
set_option maxRecDepth 100000 in
set_option maxHeartbeats 2000000 in
theorem skind_any {C : SyC} {l : List Tk} {o : Nat} (lv : Nat) (w : World) (hR : Syr C w l o) (hE : SyEnv C w) : Calls Tryz.prog 124 #[.pointer (some ⟨C.z, 0, none⟩), .int .i64 (lv : Int)] w fun e w' => e = .returned (.int .i64 (kbS lv (ahd C.E 0 l) : Int)) ∧ Below w.heap.size w w' := by
  have HA := hide (stoken_any w hR)
  have hsm := ahd_sm hR 0
  have HR := hide hR
  have HE := hide hE
  clear hR hE
  generalize ahd C.E 0 l = t at *
  have HKR : Hid (kbS lv t = if t.k = 5 ∧ lvl0 (btw t.t) = lv then btw t.t else 0) := hide (rfl)
  generalize kbS lv t = kr at *
  unfold tokV at HA
  go_enter Tryz.func124, Tryz.ntmps124
  go_wp2_with fail
  refine (unhide HA).mono ?_
  rintro e w2 ⟨rfl, hb2⟩
  have hb3 := bnext hb2 ((Below.refl _ _).alloc (Nat.le_refl _) (.cells #[.int .i64 (t.k : Int), .string t.t, .int .i64 (t.a : Int)] 78))
  have hR3 := (unhide HR).below hb3
  have hM3 := hR3.map
  have c3 : (w2.alloc (.cells #[.int .i64 (t.k : Int), .string t.t, .int .i64 (t.a : Int)] 78)).cell? ⟨C.z, 3, none⟩ = some (.map (some C.bb)) := by obtain ⟨xa, cap, off, h1, -⟩ := hR3.blk; rw [cell_of_row _ _ _ _ _ _ h1]; rfl
  have hlk := fun k => look_run (hM3.below (show ((w2.alloc (.cells #[.int .i64 (t.k : Int), .string t.t, .int .i64 (t.a : Int)] 78)).drewN k).heap[C.bb]? = _ from by rw [World.heap_drewN])) t.t (by have := hsm.2.1; unfold maxLen; omega)
  rw [btwF_get] at hlk
  have hlv := lvl_at ((unhide HE).below hb3) t.t
  have hle := btw_le t.t
  have HB3 := hide hb3
  have hgl : (0 : Nat) < w2.heap.size := by
    have := World.block_lt_of_cell? _ _ (unhide HE).sh0
    have := hb2.size
    omega
  have hzl : C.z < w2.heap.size := by have := (unhide HR).lt; have := hb2.size; omega
  clear hR3 hM3 hb2 hb3 hsm HA
  generalize btw t.t = kb at *
  have hk14 : (kb : Int) < 14 := by omega
  have hk0 : ¬ (kb : Int) < 0 := by omega
  clear hle
  by_cases h5 : t.k = 5
  · have q5 : ((t.k : Int) != 5) = false := by rw [bne, Bool.not_eq_false', beq_iff_eq]; omega
    by_cases hv : lvl0 kb = lv
    · have HK2 : Hid (kr = kb) := hide (by rw [unhide HKR, if_pos ⟨h5, hv⟩])
      have qv : ((lvl0 kb : Int) != (lv : Int)) = false := by rw [bne, Bool.not_eq_false', beq_iff_eq]; omega
      clear h5 hv HKR
      generalize lvl0 kb = lk at *
      go_wp2_with fail
      go_quiet (fail)
      have HB4 := hide (below_drewN (unhide HB3) nq)
      go_wp2_with fail
      go_ret
      exact ⟨by rw [unhide HK2]; rfl, unhide HB4⟩
    · have HK2 : Hid (kr = 0) := hide (by rw [unhide HKR, if_neg (fun q => hv q.2)])
      have qv : ((lvl0 kb : Int) != (lv : Int)) = true := by rw [bne, Bool.not_eq_true', beq_eq_false_iff_ne]; omega
      clear h5 hv HKR
      generalize lvl0 kb = lk at *
      go_wp2_with fail
      go_quiet (fail)
      have HB4 := hide (below_drewN (unhide HB3) nq)
      go_wp2_with fail
      go_ret
      exact ⟨by rw [unhide HK2]; rfl, unhide HB4⟩
  · have HK2 : Hid (kr = 0) := hide (by rw [unhide HKR, if_neg (fun q => h5 q.1)])
    have q5 : ((t.k : Int) != 5) = true := by rw [bne, Bool.not_eq_true', beq_eq_false_iff_ne]; omega
    clear h5 HKR
    go_wp2_with fail
    go_quiet (fail)
    have HB4 := hide (below_drewN (unhide HB3) nq)
    go_wp2_with fail
    go_ret
    exact ⟨by rw [unhide HK2]; rfl, unhide HB4⟩
def intV (n : Int) (e : Ending) (_ : World) : Prop := e = .returned (.int .i64 n)
theorem bytes_below {w w' : World} (h : w' = w ∨ ∃ t, w' = Lib.bytesWorld w 5 t) : Below w.heap.size w w' := by
  rcases h with rfl | ⟨t, rfl⟩
  · exact Below.refl _ _
  · exact Lib.bytesWorld_below w _ t
set_option maxRecDepth 100000 in
set_option maxHeartbeats 2000000 in
theorem snumber_any {C : SyC} {l : List Tk} {o : Nat} (w : World) (hR : Syr C w l o) (hE : SyEnv C w) (h2 : (ahd C.E 0 l).k = 2) : Calls Tryz.prog 136 #[.pointer (some ⟨C.z, 0, none⟩)] w fun e w' => SyPost intV C o w (nuS C.E l) e w' := by
  have HA := hide (stoken_any w hR)
  have HR := hide hR
  have HE := hide hE
  have hsm := ahd_sm hR 0
  obtain ⟨hd0, hdg⟩ := hsm.2.2.2 h2
  have HS := hide (fun w h => sstop_any (C := C) (l := l) (o := o) w h)
  have HT := hide (fun w => sthrow_any 3 (ahd C.E 0 l).a w)
  have HP := hide (fun w h => spass_any (l := l) (o := o) (C := C) w h (ahd_ne (E := C.E) (by rw [h2]; decide)))
  obtain ⟨RR, hRR⟩ : ∃ RR, RR = nuS C.E l := ⟨_, rfl⟩
  rw [← hRR]
  unfold nuS at hRR
  have HQ := hide hRR
  clear hR hE h2 hRR
  generalize ahd C.E 0 l = t at *
  have hpi := int_digits hd0 hdg
  have hsz := hsm.2.1
  clear hdg hsm
  unfold tokV at HA
  have hAl := fun (W : World) => (Below.refl W.heap.size W).alloc (Nat.le_refl _) (.cells #[.int .i64 (t.k : Int), .string t.t, .int .i64 (t.a : Int)] 78)
  by_cases h0 : 1 < t.t.size ∧ bat t.t 0 = 48
  · have HQ2 : Hid (RR = .error (2, t.a)) := hide (by rw [unhide HQ, if_pos h0])
    obtain ⟨h01, h02⟩ := h0
    have q1 : (1 : Int) < (t.t.size : Int) := by omega
    have hl1 : 0 < t.t.size := by omega
    have hb := bat_at t.t 0 hl1
    rw [h02] at hb
    clear HQ hpi HT HP h01 h02
    go_enter Tryz.func136, Tryz.ntmps136
    go_wp2_with fail
    refine (unhide HA).mono ?_
    rintro e w2 ⟨rfl, hb2⟩
    have HB2 := hide (bnext hb2 (hAl w2))
    have HX2 : Hid ((w2.alloc (.cells #[.int .i64 (t.k : Int), .string t.t, .int .i64 (t.a : Int)] 78)).heap[w2.heap.size]? = some (.cells #[.int .i64 (t.k : Int), .string t.t, .int .i64 (t.a : Int)] 78 (0, 0))) := hide (at_new rfl)
    have HZ2 : Hid (w2.heap.size ≠ C.z) := hide (by have := (unhide HR).lt; have := hb2.size; omega)
    clear hb2
    go_wp2_with fail
    refine (unhide HS _ ((unhide HR).below (unhide HB2))).mono ?_
    rintro e w3 ⟨rfl, hb3⟩
    have HB3 := hide (bnext (unhide HB2) hb3)
    clear hb3
    unfold thr
    go_wp2_with fail
    exact ⟨rfl, spost_err (unhide HQ2) (But.of_below (unhide HB3)) rfl⟩
  · have HQ1 : Hid (RR = if 9223372036854775807 < dgV t.t then .error (3, t.a) else .ok ((dgV t.t : Int), l.tail)) := hide (by rw [unhide HQ, if_neg h0])
    have HPI := hide hpi
    clear HQ hpi
    generalize dgV t.t = dv at *
    rcases Nat.lt_or_ge 9223372036854775807 dv with hv | hv
    · have HQ2 : Hid (RR = .error (3, t.a)) := hide (by rw [unhide HQ1, if_pos hv])
      have HRG := hide ((unhide HPI).2 hv)
      clear HQ1 HPI hv HS HP
      by_cases h1 : 1 < t.t.size
      · have q1 : (1 : Int) < (t.t.size : Int) := by omega
        have hl1 : 0 < t.t.size := by omega
        have hb := bat_at t.t 0 hl1
        have q48 : ((bat t.t 0 : Int) == 48) = false := by rw [beq_eq_false_iff_ne]; intro e; exact h0 ⟨h1, by omega⟩
        clear h0
        generalize bat t.t 0 = b0 at *
        go_enter Tryz.func136, Tryz.ntmps136
        go_wp2_with fail
        refine (unhide HA).mono ?_
        rintro e w2 ⟨rfl, hb2⟩
        have HB2 := hide (bnext hb2 (hAl w2))
        have HX2 : Hid ((w2.alloc (.cells #[.int .i64 (t.k : Int), .string t.t, .int .i64 (t.a : Int)] 78)).heap[w2.heap.size]? = some (.cells #[.int .i64 (t.k : Int), .string t.t, .int .i64 (t.a : Int)] 78 (0, 0))) := hide (at_new rfl)
        have HZ2 : Hid (w2.heap.size ≠ C.z) := hide (by have := (unhide HR).lt; have := hb2.size; omega)
        clear hb2
        go_wp2_with fail
        obtain ⟨te, pe, hev⟩ := ((unhide HE).below (unhide HB2)).er
        refine (Tryz.strconv_ParseInt_10_at64_range t.t (by omega) (unhide HRG) _ _ hev (.inr ⟨te, pe, rfl⟩)).mono ?_
        rintro e w3 ⟨NN, rfl, -, -, hb3⟩
        have HB3 := hide (bnext (unhide HB2) hb3)
        have hx3 := row_below (unhide HX2) hb3
        have d2 : w3.cell? ⟨w2.heap.size, 2, none⟩ = some (.int .i64 (t.a : Int)) := cr hx3
        clear hb3 hx3 hev
        generalize Lib.intSat 64 t.t.data.toList = sat at *
        go_wp2_with fail
        refine (unhide HT _).mono ?_
        rintro e w4 ⟨rfl, rfl⟩
        unfold thr
        go_wp2_with fail
        exact ⟨rfl, spost_err (unhide HQ2) (But.of_below (unhide HB3)) rfl⟩
      · have q1 : ¬ (1 : Int) < (t.t.size : Int) := by omega
        clear h0
        go_enter Tryz.func136, Tryz.ntmps136
        go_wp2_with fail
        refine (unhide HA).mono ?_
        rintro e w2 ⟨rfl, hb2⟩
        have HB2 := hide (bnext hb2 (hAl w2))
        have HX2 : Hid ((w2.alloc (.cells #[.int .i64 (t.k : Int), .string t.t, .int .i64 (t.a : Int)] 78)).heap[w2.heap.size]? = some (.cells #[.int .i64 (t.k : Int), .string t.t, .int .i64 (t.a : Int)] 78 (0, 0))) := hide (at_new rfl)
        have HZ2 : Hid (w2.heap.size ≠ C.z) := hide (by have := (unhide HR).lt; have := hb2.size; omega)
        clear hb2
        go_wp2_with fail
        obtain ⟨te, pe, hev⟩ := ((unhide HE).below (unhide HB2)).er
        refine (Tryz.strconv_ParseInt_10_at64_range t.t (by omega) (unhide HRG) _ _ hev (.inr ⟨te, pe, rfl⟩)).mono ?_
        rintro e w3 ⟨NN, rfl, -, -, hb3⟩
        have HB3 := hide (bnext (unhide HB2) hb3)
        have hx3 := row_below (unhide HX2) hb3
        have d2 : w3.cell? ⟨w2.heap.size, 2, none⟩ = some (.int .i64 (t.a : Int)) := cr hx3
        clear hb3 hx3 hev
        generalize Lib.intSat 64 t.t.data.toList = sat at *
        go_wp2_with fail
        refine (unhide HT _).mono ?_
        rintro e w4 ⟨rfl, rfl⟩
        unfold thr
        go_wp2_with fail
        exact ⟨rfl, spost_err (unhide HQ2) (But.of_below (unhide HB3)) rfl⟩
    · have HQ2 : Hid (RR = .ok ((dv : Int), l.tail)) := hide (by rw [unhide HQ1, if_neg (by omega)])
      have HOK := hide (fun w => Tryz.strconv_ParseInt_10_at64_ok t.t (by omega) _ ((unhide HPI).1 hv) w)
      have hdv : (dv : Int) ≤ 9223372036854775807 := by omega
      clear HQ1 HPI hv HS HT
      by_cases h1 : 1 < t.t.size
      · have q1 : (1 : Int) < (t.t.size : Int) := by omega
        have hl1 : 0 < t.t.size := by omega
        have hb := bat_at t.t 0 hl1
        have q48 : ((bat t.t 0 : Int) == 48) = false := by rw [beq_eq_false_iff_ne]; intro e; exact h0 ⟨h1, by omega⟩
        clear h0
        generalize bat t.t 0 = b0 at *
        go_enter Tryz.func136, Tryz.ntmps136
        go_wp2_with fail
        refine (unhide HA).mono ?_
        rintro e w2 ⟨rfl, hb2⟩
        have HB2 := hide (bnext hb2 (hAl w2))
        have HX2 : Hid ((w2.alloc (.cells #[.int .i64 (t.k : Int), .string t.t, .int .i64 (t.a : Int)] 78)).heap[w2.heap.size]? = some (.cells #[.int .i64 (t.k : Int), .string t.t, .int .i64 (t.a : Int)] 78 (0, 0))) := hide (at_new rfl)
        have HZ2 : Hid (w2.heap.size ≠ C.z) := hide (by have := (unhide HR).lt; have := hb2.size; omega)
        clear hb2
        go_wp2_with fail
        refine (unhide HOK _).mono ?_
        rintro e w3 ⟨rfl, hw3⟩
        have hb3 := bytes_below hw3
        have HB3 := hide (bnext (unhide HB2) hb3)
        clear hw3 hb3
        go_wp2_with fail
        refine (unhide HP _ ((unhide HR).below (unhide HB3))).mono ?_
        rintro e w4 ⟨rfl, hb4, hR4⟩
        have HZ := hide (And.intro ((But.of_below (unhide HB3)).trans hb4) hR4)
        clear hb4 hR4
        go_wp2_with fail
        go_ret
        exact spost_ok (unhide HQ2) (unhide HZ).1 rfl (unhide HZ).2
      · have q1 : ¬ (1 : Int) < (t.t.size : Int) := by omega
        clear h0
        go_enter Tryz.func136, Tryz.ntmps136
        go_wp2_with fail
        refine (unhide HA).mono ?_
        rintro e w2 ⟨rfl, hb2⟩
        have HB2 := hide (bnext hb2 (hAl w2))
        have HX2 : Hid ((w2.alloc (.cells #[.int .i64 (t.k : Int), .string t.t, .int .i64 (t.a : Int)] 78)).heap[w2.heap.size]? = some (.cells #[.int .i64 (t.k : Int), .string t.t, .int .i64 (t.a : Int)] 78 (0, 0))) := hide (at_new rfl)
        have HZ2 : Hid (w2.heap.size ≠ C.z) := hide (by have := (unhide HR).lt; have := hb2.size; omega)
        clear hb2
        go_wp2_with fail
        refine (unhide HOK _).mono ?_
        rintro e w3 ⟨rfl, hw3⟩
        have hb3 := bytes_below hw3
        have HB3 := hide (bnext (unhide HB2) hb3)
        clear hw3 hb3
        go_wp2_with fail
        refine (unhide HP _ ((unhide HR).below (unhide HB3))).mono ?_
        rintro e w4 ⟨rfl, hb4, hR4⟩
        have HZ := hide (And.intro ((But.of_below (unhide HB3)).trans hb4) hR4)
        clear hb4 hR4
        go_wp2_with fail
        go_ret
        exact spost_ok (unhide HQ2) (unhide HZ).1 rfl (unhide HZ).2
end Go.Proofs.YtpkmamgleofimaaGreatDoor
