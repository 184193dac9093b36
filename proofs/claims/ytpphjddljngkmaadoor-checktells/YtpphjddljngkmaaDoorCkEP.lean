/- The checker: whether a function's names clash. -/
import Derived.Test.YtpphjddljngkmaaDoorCkAP
import Derived.Test.YtpphjddljngkmaaDoorCkDM
import Derived.Test.YtpphjddljngkmaaDoorStBM
namespace Go.Proofs.YtpphjddljngkmaaDoor
open Go.RowKit

/-- An entry of a map's literal. -/
theorem wpl_insert {w : World} {ops : Array Oper} {rest : List Oper} {o : Oper} {a : Act} {Q : Exit → Act → World → Prop} (hg : o.guard = none) (m x v : Operand) (hop : o.op = Op.insert 34 m x v ∨ o.op = Op.mapUpdate 34 m x v)
    {b n : Nat} {f : ByteArray → Option Int} (hm : a.eval m = .map (some b)) (hM : MI w b n f) (hn : n < 100000) (s : ByteArray) (c : Int) (hx : a.eval x = .string s) (hv : a.eval v = .int .i64 c) (hs : s.size ≤ maxLen) (hc : (Lit.int .i64 c).wf = true)
    (hK : ∀ w', MI w' b (n + 1) (fun t => if t = s then some c else f t) → w.grownBy w' (some b) → wpList Tryd.prog ops Q rest (a.put o.dst undef) w') : wpList Tryd.prog ops Q (o :: rest) a w := by
  obtain ⟨D, hown, h5⟩ := hM
  refine wpList_plain hg fun K' hK' => ?_
  obtain ⟨w', hrun, r1, r2⟩ := hown.update (Maps.string_keyed Tryd.underlying9) Tryd.underlying34 (by unfold maxLen; omega) (keyS_key hs) (plainElem_int Tryd.underlying3 hc)
  have hk := hK w' (MI.put h5 hown.isMap r1) r2
  unfold Oper.wp
  rcases hop with hop | hop
  · simp [execOp, hop, hm, hx, hv, hrun, Result.andThen]
    exact hK' _ _ hk
  · simp [execOp, hop, hm, hx, hv, hrun, Result.andThen]
    exact hK' _ _ hk
/-- What a map has of a text, or 0. -/
theorem wpl_look {w : World} {ops : Array Oper} {rest : List Oper} {o : Oper} {a : Act} {Q : Exit → Act → World → Prop} (hg : o.guard = none) (m x : Operand) (hop : o.op = Op.lookup 34 m x false)
    {b n : Nat} {f : ByteArray → Option Int} (hm : a.eval m = .map (some b)) (hM : MI w b n f) (s : ByteArray) (hx : a.eval x = .string s) (hs : s.size ≤ maxLen)
    (hK : wpList Tryd.prog ops Q rest (a.put o.dst (.int .i64 ((f s).getD 0))) w) : wpList Tryd.prog ops Q (o :: rest) a w := by
  obtain ⟨D, hown, h5⟩ := hM
  refine wpList_lookup_own_int _ hg m x 34 hop 9 3 .i64 (Maps.string_keyed Tryd.underlying9) Tryd.underlying34 Tryd.underlying3 (zero_int _) b n D hm hown _ _ hx (keyS_key hs) ?_
  intro c hat _
  have e : c = (f s).getD 0 := by
    cases hf : f s with
    | none =>
      have h := (h5 s).1
      rw [hf] at h
      rw [Maps.atKey_of_not_has h] at hat
      injection hat with hat; injection hat with _ hat
      exact hat.symm
    | some x =>
      rw [(h5 s).2 x hf] at hat
      injection hat with hat; injection hat with _ hat
      exact hat.symm
  rw [e]
  exact hK
def tIn : ByteArray := ⟨#[73, 78, 80, 85, 84]⟩
def tOut : ByteArray := ⟨#[79, 85, 84, 80, 85, 84]⟩
def hasT (T : List ByteArray) (s : ByteArray) : Bool := T.any fun y => decide (s = y)
/-- Is one of some texts taken, or there twice? -/
def clU : List ByteArray → List ByteArray → Bool
  | _, [] => false
  | T, x :: l => hasT T x || clU (x :: T) l
def tk1 (T : List ByteArray) (s : ByteArray) : Option Int := if hasT T s = true then some 1 else none
theorem tk1_put (T : List ByteArray) (x : ByteArray) : (fun t => if t = x then some 1 else tk1 T t) = tk1 (x :: T) := by
  funext t
  unfold tk1 hasT
  by_cases h : t = x
  · simp [h]
  · have e : ∀ d : Decidable (t = x), @decide _ d = false := fun d => @decide_eq_false _ d h
    rw [List.any_cons, e, if_neg h, Bool.false_or]
theorem tk1_get (T : List ByteArray) (s : ByteArray) : (tk1 T s).getD 0 = if hasT T s = true then 1 else 0 := by unfold tk1; split <;> rfl
def SV.clE (S : SV) : Bool := clU [tOut, tIn] (S.nm :: (S.ps.l ++ S.ls.l))
theorem clU_drop {L : List ByteArray} {k : Nat} {T : List ByteArray} {R : Bool} {x : ByteArray} (h : R = clU T (L.drop k)) (hx : L[k]? = some x) : (hasT T x = true → R = true) ∧ (hasT T x = false → R = clU (x :: T) (L.drop (k + 1))) := by
  have hk : k < L.length := (List.getElem?_eq_some_iff.1 hx).1
  have e : L.drop k = x :: L.drop (k + 1) := by
    rw [List.drop_eq_getElem_cons hk]
    congr 1
    rw [List.getElem?_eq_getElem hk] at hx
    exact Option.some.inj hx
  rw [h, e]
  exact ⟨fun q => by rw [clU, q]; rfl, fun q => by rw [clU, q]; rfl⟩
theorem grown2 {w1 w2 w3 : World} {b k : Nat} (h2 : w1.grownBy w2 (some b)) (h3 : w2.grownBy w3 (some b)) (hk : k < w1.heap.size) (hb : k ≠ b) : w3.heap[k]? = w1.heap[k]? :=
  (h3.block k (Nat.lt_of_lt_of_le hk h2.size) (fun e => hb (by injection e))).trans (h2.block k hk (fun e => hb (by injection e)))
theorem grown2_below {w w1 w2 w3 : World} {b : Nat} (h : Below w.heap.size w w1) (hb : w.heap.size ≤ b) (h2 : w1.grownBy w2 (some b)) (h3 : w2.grownBy w3 (some b)) : Below w.heap.size w w3 :=
  ⟨h3.os.trans (h2.os.trans h.os), h3.tape.trans (h2.tape.trans h.tape), h3.output.trans (h2.output.trans h.output), Nat.le_trans h.size (Nat.le_trans h2.size h3.size), fun k hk => (grown2 h2 h3 (Nat.lt_of_lt_of_le hk h.size) (by omega)).trans (h.block k hk)⟩
set_option maxRecDepth 100000 in
set_option maxHeartbeats 4000000 in
theorem clash_any (S : SV) (w : World) (hS : S.In w) (hp : S.ps.l.length ≤ 8) (hl : S.ls.l.length ≤ 8) :
    Calls Tryd.prog 36 #[S.v] w fun e w' => e = .returned (.bool S.clE) ∧ Below w.heap.size w w' := by
  have HI := hide hS
  clear hS
  have HCL : Hid (S.clE = clU [tOut, tIn] (S.nm :: (S.ps.l ++ S.ls.l))) := hide (rfl)
  generalize S.clE = R at *
  unfold SV.v SV.cells NL.v
  have hmm := @run_makeMap Tryd.prog
  obtain ⟨w1, hw1⟩ : ∃ w1, w1 = (w.alloc (.cells #[.string S.lab, .int .i64 S.k, .int .i64 S.tg.k, .string S.tg.t, .int .i64 S.tg.n, .string S.tg.nm, .slice S.tg.xa S.tg.len S.tg.cap, .int .i64 S.va.k, .string S.va.t, .int .i64 S.va.n, .string S.va.nm, .slice S.va.xa S.va.len S.va.cap, .int .i64 S.pa.k, .string S.pa.t, .int .i64 S.pa.n, .string S.pa.nm, .slice S.pa.xa S.pa.len S.pa.cap, .string S.nm, .string S.en, .slice S.ps.xa S.ps.l.length S.ps.cap, .slice S.ls.xa S.ls.l.length S.ls.cap, .string S.al, .string S.ye, .string S.no] 49)).alloc (.map #[] 0) := ⟨_, rfl⟩
  have hM1 : MI w1 (w.heap.size + 1) 0 (tk1 []) := by
    have h := MI.new (w := w.alloc (.cells #[.string S.lab, .int .i64 S.k, .int .i64 S.tg.k, .string S.tg.t, .int .i64 S.tg.n, .string S.tg.nm, .slice S.tg.xa S.tg.len S.tg.cap, .int .i64 S.va.k, .string S.va.t, .int .i64 S.va.n, .string S.va.nm, .slice S.va.xa S.va.len S.va.cap, .int .i64 S.pa.k, .string S.pa.t, .int .i64 S.pa.n, .string S.pa.nm, .slice S.pa.xa S.pa.len S.pa.cap, .string S.nm, .string S.en, .slice S.ps.xa S.ps.l.length S.ps.cap, .slice S.ls.xa S.ls.l.length S.ls.cap, .string S.al, .string S.ye, .string S.no] 49))
    rw [World.size_alloc] at h
    rw [hw1]
    exact h
  have hr1 : w1.heap[w.heap.size]? = some (.cells #[.string S.lab, .int .i64 S.k, .int .i64 S.tg.k, .string S.tg.t, .int .i64 S.tg.n, .string S.tg.nm, .slice S.tg.xa S.tg.len S.tg.cap, .int .i64 S.va.k, .string S.va.t, .int .i64 S.va.n, .string S.va.nm, .slice S.va.xa S.va.len S.va.cap, .int .i64 S.pa.k, .string S.pa.t, .int .i64 S.pa.n, .string S.pa.nm, .slice S.pa.xa S.pa.len S.pa.cap, .string S.nm, .string S.en, .slice S.ps.xa S.ps.l.length S.ps.cap, .slice S.ls.xa S.ls.l.length S.ls.cap, .string S.al, .string S.ye, .string S.no] 49 (0, 0)) := by rw [hw1]; exact at_old (by rw [World.size_alloc]; omega) (at_new rfl)
  have hb1 : Below w.heap.size w w1 := by rw [hw1]; exact (ba _).alloc (by rw [World.size_alloc]; omega) _
  have hsz1 : w1.heap.size = w.heap.size + 1 + 1 := by rw [hw1, World.size_alloc, World.size_alloc]
  have HM1 := hide hM1
  have HR1 := hide hr1
  have HB1 := hide hb1
  have HSZ1 := hide hsz1
  have HW1 := hide hw1
  clear hM1 hr1 hb1 hsz1 hw1
  go_enter Tryd.func36, Tryd.ntmps36
  go_wp2_with (first
    | (refine wpl_insert rfl _ _ _ (.inl rfl) rfl (by rw [← unhide HW1]; exact unhide HM1) (by decide) tIn 1 rfl rfl (by unfold maxLen; decide) (by decide) ?_; intro w2 hM2 hg2)
    | (refine wpl_insert rfl _ _ _ (.inl rfl) rfl hM2 (by decide) tOut 1 rfl rfl (by unfold maxLen; decide) (by decide) ?_; intro w3 hM3 hg3; rw [← unhide HW1] at hg2; have hr3 := (grown2 hg2 hg3 (by rw [unhide HSZ1]; omega) (by omega)).trans (unhide HR1); have c17 : w3.cell? ⟨w.heap.size, 17, none⟩ = some (.string S.nm) := (cr hr3); have c19 : w3.cell? ⟨w.heap.size, 19, none⟩ = some (.slice S.ps.xa S.ps.l.length S.ps.cap) := (cr hr3); have c20 : w3.cell? ⟨w.heap.size, 20, none⟩ = some (.slice S.ls.xa S.ls.l.length S.ls.cap) := (cr hr3); have HB3 := hide (grown2_below (unhide HB1) (by omega) hg2 hg3); have HM3 : Hid (MI w3 (w.heap.size + 1) 2 (tk1 [tOut, tIn])) := hide ((by rw [← tk1_put, ← tk1_put]; exact hM3)); have hl3 : w.heap.size + 1 < w3.heap.size := (by have h1 := unhide HSZ1; have h2 := hg2.size; have h3 := hg3.size; omega); have hl4 : w.heap.size < w3.heap.size := (by omega); clear hM3 hg3 hM2 hg2 hr3)
    | fail)
  obtain ⟨w4, hw4⟩ : ∃ w4, w4 = (w3.alloc (.cells #[.string S.nm] 9)).alloc (.cells #[.slice (some ⟨w3.heap.size, 0, none⟩) 1 1, .slice S.ps.xa S.ps.l.length S.ps.cap, .slice S.ls.xa S.ls.l.length S.ls.cap] 47) := ⟨_, rfl⟩
  rw [← hw4]
  have hb4 : Below w3.heap.size w3 w4 := by rw [hw4]; exact (ba _).alloc (by rw [World.size_alloc]; omega) _
  have hn4 : w4.heap[w3.heap.size]? = some (.cells #[.string S.nm] 9 (0, 0)) := by rw [hw4]; exact at_old (by rw [World.size_alloc]; omega) (at_new rfl)
  have ho4 : w4.heap[w3.heap.size + 1]? = some (.cells #[.slice (some ⟨w3.heap.size, 0, none⟩) 1 1, .slice S.ps.xa S.ps.l.length S.ps.cap, .slice S.ls.xa S.ls.l.length S.ls.cap] 47 (0, 0)) := by rw [hw4]; exact at_new (by rw [World.size_alloc])
  have hsz4 : w4.heap.size = w3.heap.size + 2 := by rw [hw4, World.size_alloc, World.size_alloc]
  have hall4 := bnext (unhide HB3) hb4
  have HIN := hide ((unhide HI).later hall4)
  have HCC := hide (concat_any [⟨some ⟨w3.heap.size, 0, none⟩, w3.heap.size, 0, 1, [S.nm]⟩, S.ps, S.ls] (w3.heap.size + 1) w4 (by simp) (fun i N hi => by
    rw [cell_of_row _ _ _ _ _ _ ho4]
    match i, hi with
    | 0, hi =>
      obtain rfl : (⟨some ⟨w3.heap.size, 0, none⟩, w3.heap.size, 0, 1, [S.nm]⟩ : NL) = N := by simpa using hi
      refine ⟨rfl, ⟨Nat.le_refl _, by show 1 ≤ maxLen; unfold maxLen; decide, fun _ => rfl, fun i t ht => ?_⟩, by show 1 ≤ 100; decide⟩
      have ht : [S.nm][i]? = some t := ht
      match i, ht with
      | 0, ht =>
        obtain rfl : S.nm = t := by simpa using ht
        exact ⟨by show w4.cell? ⟨w3.heap.size, 0, none⟩ = _; rw [cell_of_row _ _ _ _ _ _ hn4]; rfl, (unhide HI).txt.2.1⟩
      | i + 1, ht => simp at ht
    | 1, hi =>
      obtain rfl : S.ps = N := by simpa using hi
      exact ⟨rfl, (unhide HIN).ps, by omega⟩
    | 2, hi =>
      obtain rfl : S.ls = N := by simpa using hi
      exact ⟨rfl, (unhide HIN).ls, by omega⟩
    | i + 3, hi => simp at hi))
  have HM4 := hide ((unhide HM3).below (hb4.block _ hl3))
  have HB4 := hide hall4
  have HTX : Hid (∀ (i : Nat) (t : ByteArray), (S.nm :: (S.ps.l ++ S.ls.l))[i]? = some t → t.size ≤ maxLen) := hide (fun i t ht => by
    have hm := List.mem_of_getElem? ht
    simp only [List.mem_cons, List.mem_append] at hm
    rcases hm with rfl | hm | hm
    · exact (unhide HI).txt.2.1
    · obtain ⟨k, hk⟩ := List.getElem?_of_mem hm; exact ((unhide HI).ps.cell k t hk).2
    · obtain ⟨k, hk⟩ := List.getElem?_of_mem hm; exact ((unhide HI).ls.cell k t hk).2)
  have HLEN : Hid ((S.nm :: (S.ps.l ++ S.ls.l)).length ≤ 17) := hide (by simp; omega)
  have HCT : Hid (catL [⟨some ⟨w3.heap.size, 0, none⟩, w3.heap.size, 0, 1, [S.nm]⟩, S.ps, S.ls] = S.nm :: (S.ps.l ++ S.ls.l)) := hide (by simp [catL])
  have hlt4 : w.heap.size + 1 < w4.heap.size := by omega
  clear hw4 hb4 hn4 ho4 hall4 c17 c19 c20 hl3 hl4
  have HSZ4 := hide hsz4
  clear hsz4
  refine (unhide HCC).mono ?_
  rintro e w5 ⟨⟨v5, rfl, hrow5⟩, hb5⟩
  rw [unhide HCT] at hrow5
  have HROW := hide hrow5
  have HM5 := hide ((unhide HM4).below (hb5.block _ hlt4))
  have HB5 := hide (bnext (unhide HB4) hb5)
  generalize S.nm :: (S.ps.l ++ S.ls.l) = L at *
  have hlen := unhide HLEN
  obtain ⟨g5, cap5, hv5, hc5⟩ : ∃ (g5 : Option Addr) (cap5 : Nat), v5 = .slice g5 L.length cap5 ∧ L.length ≤ cap5 := by
    obtain ⟨a, c, h1, -, h2⟩ := hrow5.len
    exact ⟨a, c, h1, h2⟩
  have hmx := hrow5.max
  unfold maxLen at hmx
  subst hv5
  clear hrow5 hb5
  have HLN := hide (Eq.refl L.length)
  obtain ⟨n, hn⟩ : ∃ n, n = L.length := ⟨_, rfl⟩
  have HN := hide hn
  rw [← hn] at hlen hc5 hmx
  rw [← hn]
  clear hn
  go_wp2_with fail
  go_loopw [18] (fun i wr => ∃ (k : Nat) (T : List ByteArray), k ≤ n ∧ i = .int .i64 (k : Int) ∧ Hid (MI wr (w.heap.size + 1) (2 + k) (tk1 T)) ∧ Hid (TRow wr w4.heap.size (.slice g5 n cap5) L) ∧ Hid (Below w.heap.size w wr) ∧ Hid (R = clU T (L.drop k))) (fun i _ => n - (intOf i).toNat)
  case atStart => exact ⟨0, [tOut, tIn], by omega, rfl, unhide HM5, by have h := unhide HROW; rw [← unhide HN] at h; exact h, unhide HB5, unhide HCL⟩
  case round =>
    obtain ⟨k, T, hk, rfl, HM, HR, HB, HC⟩ := hrel
    rcases Nat.lt_or_ge k n with hlt | hge
    · obtain ⟨x, hx⟩ : ∃ x, L[k]? = some x := ⟨L[k]'(by have := unhide HN; omega), List.getElem?_eq_getElem _⟩
      have hxs := unhide HTX k x hx
      have HD := hide (clU_drop (unhide HC) hx)
      obtain ⟨gg, cc, hvv, -, -⟩ := (unhide HR).form (by intro e; rw [e] at hx; cases hx)
      obtain ⟨rfl, -, rfl⟩ : g5 = some ⟨gg, 0, none⟩ ∧ True ∧ cap5 = cc := by
        injection hvv with h1 h2 h3
        exact ⟨h1, trivial, h3⟩
      have cx : wr.cell? ⟨gg, k, none⟩ = some (.string x) := by
        have h := (unhide HR).cell strF_len (i := k) (k := 0) (x := x) hvv hx rfl
        rw [Nat.mul_one, Nat.add_zero] at h
        exact h
      have hlow := ((unhide HR).low (k := gg) rfl).1
      have hix := sl_idx (g := gg) (o := 0) (cap := cap5) (i := k) (n := n) Tryd.underlying47 size_strS hlt
      rw [Nat.zero_add] at hix
      have hgt : (k : Int) < (n : Int) := by omega
      have hget := tk1_get T x
      clear hvv hx
      cases hh : hasT T x
      · have HE := hide ((unhide HD).2 hh)
        rw [hh, if_neg (by decide)] at hget
        clear HD hh
        have hM := unhide HM
        go_wp2_with (first
          | (at_lookup; refine wpl_look rfl _ _ rfl rfl hM x rfl hxs ?_; rw [hget])
          | (refine wpl_insert rfl _ _ _ (.inr rfl) rfl hM (by omega) x 1 rfl rfl hxs (by decide) ?_; intro w6 hM6 hg6; rw [tk1_put] at hM6)
          | fail)
        have HK : Hid (MI w6 (w.heap.size + 1) (2 + (k + 1)) (tk1 (x :: T)) ∧ TRow w6 w4.heap.size (.slice (some ⟨gg, 0, none⟩) n cap5) L ∧ Below w.heap.size w w6) := hide (⟨hM6, (unhide HR).same fun q hq => hg6.block q ((unhide HR).low hq).2 (fun e => by have h1 := ((unhide HR).low hq).1; injection e with e; omega), grown2_below (unhide HB) (by omega) hg6 ⟨rfl, rfl, rfl, Nat.le_refl _, fun _ _ _ => rfl⟩⟩)
        clear hM6 hg6 hM
        go_wp2_with fail
        exact ⟨⟨k + 1, x :: T, by omega, rfl, (unhide HK).1, (unhide HK).2.1, (unhide HK).2.2, unhide HE⟩, by simp [intOf]; omega⟩
      · have HE := hide ((unhide HD).1 hh)
        rw [hh, if_pos rfl] at hget
        clear HD hh
        have hM := unhide HM
        go_wp2_with (first
          | (at_lookup; refine wpl_look rfl _ _ rfl rfl hM x rfl hxs ?_; rw [hget])
          | fail)
        go_ret
        exact ⟨by rw [unhide HE]; rfl, unhide HB⟩
    · obtain rfl : k = n := by omega
      have HE : Hid (R = false) := hide (by
        have h := unhide HC
        rw [unhide HN, List.drop_length] at h
        exact h)
      go_wp2_with fail
      go_ret
      exact ⟨by rw [unhide HE]; rfl, unhide HB⟩
end Go.Proofs.YtpphjddljngkmaaDoor
