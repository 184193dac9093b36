/- The reader of patterns: what is thrown is caught. What is wrong with a text is always something. -/
import Derived.Test.YtpkmamgleofimaaGreatDoorRdLM
import Derived.Defers
import Derived.Test.YtpkmamgleofimaaGreatDoorRdPlainM
namespace Go.Proofs.YtpkmamgleofimaaGreatDoor
open Go.RowKit

theorem alts_says : ∀ d, d ≤ 200 → Says 121 d (fun s => alD s d)
  | 0, h => by
    have hB : ∀ s : ByteArray, Adv s (fun j => (.error (0, j) : Rd PT)) := fun s i x j _ h => by cases h
    exact alts_any hB (pieces_any hB (piece_any hB (bare_any (bracketed_any h hB (fun h => absurd h (by decide))))))
  | d + 1, h => by
    have hB : ∀ s : ByteArray, Adv s (alD s d) := fun s => alD_adv s d
    exact alts_any hB (pieces_any hB (piece_any hB (bare_any (bracketed_any h hB (fun _ => alts_says d (by omega))))))
theorem size_fault : (Tryz.prog.info? 30).map (·.size) = some 2 := by kernel_rfl
set_option maxRecDepth 100000 in
theorem catch_panicking (g : Nat) (er : Int) (i : Nat) (old : Array Value) (older : List PanicEntry) (w : World) (hg : w.heap[g]? = some (.cells old 30 (0, 0))) (ho : old.size = 2) :
    CallsD Tryz.prog 120 #[.pointer (some ⟨g, 0, none⟩)] (.panicking ({ v := .iface 30 (fauV er i), recovered := false } :: older)) w fun e u' w' =>
      e = .returned (.tuple #[]) ∧ u' = .panicking ({ v := .iface 30 (fauV er i), recovered := true } :: older) ∧ w' = w.setRow g #[.int .i64 er, .int .i64 (i : Int)] := by
  refine callsD_of_wpS Tryz.func120 rfl fun c₀ cs hu => ?_
  apply wpS_seq
  apply wpS_region
  simp [wpOpsS, go_sem, recoverD, hu, Tryz.ntmps120, Exit.thenS]
  refine wpS_of_wp ?_
  rw [show (#[Value.pointer (some ⟨g, 0, none⟩)] ++ ((Array.replicate 6 undef).setIfInBounds 1 (Value.iface 30 (fauV er i))).setIfInBounds 0 (Value.iface 30 (fauV er i)) : Array Value) = #[.pointer (some ⟨g, 0, none⟩), .iface 30 (fauV er i), .iface 30 (fauV er i), undef, undef, undef, undef] from rfl]
  have HG := hide hg
  clear hg
  have hta : ∀ (v : Value) (x : TypeId) (w : World), (Instr.typeAssert (.iface 30 v) x 30 false).run Tryz.prog w = .ok v w := fun v x w => by
    simp [Instr.typeAssert, run_underlying Tryz.underlying30, go_sem, Result.andThen]
  unfold fauV
  go_wp2_with (first
    | (refine wpList_store_row rfl 30 _ _ rfl g #[.int .i64 er, .int .i64 (i : Int)] rfl rfl 30 old (unhide HG) size_fault ho (by simp [Value.oneCell']) ?_)
    | fail)
  exact ⟨rfl, _, rfl, _, results_none rfl _ _ _, rfl, rfl, rfl⟩
theorem catch_idle (p : Addr) (w : World) :
    CallsD Tryz.prog 120 #[.pointer (some p)] .returning w fun e u' w' => e = .returned (.tuple #[]) ∧ u' = .returning ∧ w' = w := by
  refine callsD_of_wpS Tryz.func120 rfl fun c₀ cs hu => ?_
  apply wpS_seq
  apply wpS_region
  simp [wpOpsS, go_sem, recoverD, hu, Tryz.ntmps120, Exit.thenS]
  refine wpS_of_wp ?_
  rw [show (#[Value.pointer (some p)] ++ ((Array.replicate 6 undef).setIfInBounds 1 Value.nilIface).setIfInBounds 0 Value.nilIface : Array Value) = #[.pointer (some p), .nilIface, .nilIface, undef, undef, undef, undef] from rfl]
  go_wp2_with fail
  exact ⟨rfl, _, by cases c₀; simp_all, _, results_none rfl _ _ _, rfl, rfl, rfl⟩
theorem res_two (tmps : Array Value) (W : World) (gp gf : Nat) (cs fs : Array Value) (h2 : tmps.getD 2 undef = .pointer (some ⟨gp, 0, none⟩)) (h3 : tmps.getD 3 undef = .pointer (some ⟨gf, 0, none⟩)) (hp : W.heap[gp]? = some (.cells cs 45 (0, 0))) (hf : W.heap[gf]? = some (.cells fs 30 (0, 0))) (hcs : cs.size = 5) (hfs : fs.size = 2) :
    (results Tryz.f110 tmps).run Tryz.prog W = .ok (.tuple #[.agg cs, .agg fs]) W := by
  have h2' : tmps[2]?.getD undef = .pointer (some ⟨gp, 0, none⟩) := by simpa using h2
  have h3' : tmps[3]?.getD undef = .pointer (some ⟨gf, 0, none⟩) := by simpa using h3
  have e1 := run_loadVar_row (P := Tryz.prog) W gp 45 45 cs (0, 0) _ hp Tryz.underlying45 rfl (by rw [hcs]; exact size_pat)
  have e2 := run_loadVar_row (P := Tryz.prog) W gf 30 30 fs (0, 0) _ hf Tryz.underlying30 rfl (by rw [hfs]; exact size_fault)
  simp [results, Tryz.results110, h2', h3', asAddr, e1, e2]
set_option maxRecDepth 100000 in
set_option maxHeartbeats 4000000 in
theorem readAll_any (s : ByteArray) (w : World) (hs : s.size ≤ 65536) (hS : Shapes w) : Calls Tryz.prog 110 #[.string s] w fun e w' => Below w.heap.size w w' ∧
    (∀ p j, rdA s = .ok (p, j) → ∃ U : PT, e = .returned (.tuple #[pv U, fauV 0 0]) ∧ U.can = p ∧ Lies w.heap.size w' U) ∧ (∀ er a, rdA s = .error (er, a) → ∃ V : PT, e = .returned (.tuple #[pv V, fauV er a])) := by
  have hmf : ∀ (fn : Fn) (first cap : Array Value) (w : World), (Instr.makeFunc fn first cap).run Tryz.prog w = .ok (.func fn first cap) w := fun _ _ _ _ => rfl
  have hG := hS.lt
  obtain ⟨w0, hw0⟩ : ∃ w0, w0 = ((w.alloc (.cells zeroP 45)).alloc (.cells #[.int .i64 0, .int .i64 0] 30)).alloc (.cells #[.string s, .int .i64 0, .int .i64 0] 156) := ⟨_, rfl⟩
  have hb0 : Below w.heap.size w w0 := by rw [hw0]; exact ((ba _).alloc (by simp) _).alloc (by simp; omega) _
  have hsz : w0.heap.size = w.heap.size + 1 + 1 + 1 := by rw [hw0]; simp
  have hz0 : Rdr w0 (w.heap.size + 1 + 1) s 0 0 := by rw [hw0]; exact at_new (by simp)
  have hf0 : w0.heap[w.heap.size + 1]? = some (.cells #[.int .i64 0, .int .i64 0] 30 (0, 0)) := by rw [hw0]; exact at_old (by simp) (at_new (by simp))
  have hp0 : w0.heap[w.heap.size]? = some (.cells zeroP 45 (0, 0)) := by rw [hw0]; exact at_old (by simp; omega) (at_old (by simp) zbox)
  obtain ⟨D, hD⟩ : ∃ D, D = 200 := ⟨_, rfl⟩
  have ho : ((200 - D : Nat) : Int) = 0 := by omega
  have hA : Calls Tryz.prog 121 #[.pointer (some ⟨w.heap.size + 1 + 1, 0, none⟩)] w0 fun e w' => RdPost (patL w0.heap.size) (w.heap.size + 1 + 1) s ((200 - D : Nat) : Int) w0 (alD s D 0) e w' :=
    alts_says D (by omega) s 0 (w.heap.size + 1 + 1) w0 hs (Nat.zero_le _) (by rw [ho]; exact hz0) (hS.later hb0) (by omega)
  rw [ho] at hA
  have HA := hide hA
  have HW := hide hw0
  have H0 := hide (And.intro hb0 (And.intro hf0 hp0))
  have HRD : Hid (rdA s = bnd (alD s D 0) fun p j => if j < s.size then .error (2, j) else .ok (p, j)) := hide (by rw [hD]; rfl)
  have HAD := hide (fun p j => alD_adv s D 0 p j (Nat.zero_le _))
  generalize rdA s = RA at *
  generalize alD s D 0 = R at *
  clear hw0 hb0 hz0 hf0 hp0 hS hA ho hD D
  have key : ∀ (er : Int) (a : Nat) (W : World), But (w.heap.size + 1 + 1) w0 W ∨ True → RA = .error (er, a) → Below w.heap.size w W → W.heap[w.heap.size + 1]? = some (.cells #[.int .i64 0, .int .i64 0] 30 (0, 0)) → (∃ V : PT, W.heap[w.heap.size]? = some (.cells (patO V) 45 (0, 0))) → ∀ tmps : Array Value, tmps.getD 2 undef = .pointer (some ⟨w.heap.size, 0, none⟩) → tmps.getD 3 undef = .pointer (some ⟨w.heap.size + 1, 0, none⟩) →
      bodyPostD Tryz.prog Tryz.f110 (fun e w' => Below w.heap.size w w' ∧ (∀ p j, RA = .ok (p, j) → ∃ U : PT, e = .returned (.tuple #[pv U, fauV 0 0]) ∧ U.can = p ∧ Lies w.heap.size w' U) ∧ (∀ er a, RA = .error (er, a) → ∃ V : PT, e = .returned (.tuple #[pv V, fauV er a])))
        (Exit.panic [{ v := .iface 30 (fauV er a), recovered := false }]) { tmps := tmps, defers := [{ target := Target.fn (Fn.func 120) #[.pointer (some ⟨w.heap.size + 1, 0, none⟩)], args := #[] }] } W := by
    intro er a W _ hRA hbW hfW hpW tmps ht2 ht3
    obtain ⟨V, hcs⟩ := hpW
    refine leaves_cons (f := 120) (args := #[.pointer (some ⟨w.heap.size + 1, 0, none⟩)]) (by simp) (by simp [go_sem]) ?_
    refine (catch_panicking (w.heap.size + 1) er a _ [] _ hfW rfl).mono ?_
    rintro e u' w'' ⟨rfl, rfl, rfl⟩
    have hn1 : w.heap.size ≠ w.heap.size + 1 := by omega
    refine ⟨_, res_two tmps _ w.heap.size (w.heap.size + 1) (patO V) #[.int .i64 er, .int .i64 (a : Int)] ht2 ht3 ((setRow_other W _ _ _ hn1).trans hcs) (setRow_heap _ _ _ _ _ _ hfW) rfl rfl, below_setRow hbW _ (by omega) _, fun p j h => ?_, fun er' a' h => ?_⟩
    · rw [hRA] at h; cases h
    · rw [hRA] at h
      injection h with h; injection h with h1 h2
      subst h1 h2
      exact ⟨V, rfl⟩
  have HKEY := hide key
  clear key
  rcases R with ⟨er, a⟩ | ⟨p, j⟩
  · have HRE : Hid (RA = .error (er, a)) := hide (by rw [unhide HRD, bnd_err])
    go_enter_defers Tryz.func110, Tryz.ntmps110
    go_wp2_with fail
    rw [show ((w.alloc (.cells #[.int .i64 0, .string ⟨#[]⟩, .int .i64 0, .string ⟨#[]⟩, .slice none 0 0] 45)).alloc (.cells #[.int .i64 0, .int .i64 0] 30)).alloc (.cells #[.string s, .int .i64 0, .int .i64 0] 156) = w0 from (unhide HW).symm]
    refine (unhide HA).mono ?_
    intro e w1 hP
    obtain ⟨hb1, rfl⟩ := of_err hP rfl
    unfold thr
    exact unhide HKEY er a w1 (.inr trivial) (unhide HRE) (But.below (unhide H0).1 hb1 (by omega)) (but_z hb1 (unhide H0).2.1 (by omega)) ⟨mkP 0 ⟨#[]⟩ 0 ⟨#[]⟩ [], but_z hb1 (unhide H0).2.2 (by omega)⟩ _ rfl rfl
  · have hadv := unhide HAD p j rfl
    have HR1 : Hid (RA = if j < s.size then .error (2, j) else .ok (p, j)) := hide (by rw [unhide HRD, bnd_ok])
    go_enter_defers Tryz.func110, Tryz.ntmps110
    go_wp2_with fail
    rw [show ((w.alloc (.cells #[.int .i64 0, .string ⟨#[]⟩, .int .i64 0, .string ⟨#[]⟩, .slice none 0 0] 45)).alloc (.cells #[.int .i64 0, .int .i64 0] 30)).alloc (.cells #[.string s, .int .i64 0, .int .i64 0] 156) = w0 from (unhide HW).symm]
    refine (unhide HA).mono ?_
    intro e w1 hP
    obtain ⟨hb1, ⟨U, rfl, hU, hL⟩, hR1⟩ := of_ok hP rfl
    have HF1 := hide (but_z hb1 (unhide H0).2.1 (by omega))
    have HP1 := hide (but_z hb1 (unhide H0).2.2 (by omega))
    have HB1 := hide (But.below (unhide H0).1 hb1 (by omega))
    have HU := hide (And.intro hU hL)
    have HP2 := hide (setRow_heap w1 w.heap.size zeroP (patO U) _ _ (unhide HP1))
    have HF2 := hide ((setRow_other w1 w.heap.size (w.heap.size + 1) (patO U) (by omega)).trans (unhide HF1))
    have HB2 := hide (below_setRow (unhide HB1) w.heap.size (Nat.le_refl _) (patO U))
    have HL2 := hide (hL.setRow (g := w.heap.size) (by omega) (patO U))
    have h2R := hR1.setRow (g := w.heap.size) (by omega) (patO U)
    have c1 := h2R.c1
    have H2 := hide h2R
    clear hP hb1 hU hL hR1 HA HAD HRD h2R
    unfold pv
    have HSTO := hide (unhide HP1)
    by_cases hj : j < s.size
    · have HRE : Hid (RA = .error (2, j)) := hide (by rw [unhide HR1, if_pos hj])
      have hg : (j : Int) < (s.size : Int) := by omega
      have HST := hide (stop_any _ (unhide H2))
      clear hj
      go_wp2_with (first
        | (refine wpList_store_row rfl 45 _ _ rfl w.heap.size (patO U) rfl rfl 45 zeroP (unhide HSTO) size_pat rfl (patO_oneC _) ?_)
        | (refine (unhide HST).mono ?_; rintro e w ⟨rfl, rfl⟩; unfold thr))
      exact unhide HKEY 2 j _ (.inr trivial) (unhide HRE) (unhide HB2) (unhide HF2) ⟨U, unhide HP2⟩ _ rfl rfl
    · have HRE : Hid (RA = .ok (p, j)) := hide (by rw [unhide HR1, if_neg hj])
      have hg : ¬ (j : Int) < (s.size : Int) := by omega
      clear hj
      obtain ⟨x0, x1, x2, x3, x4⟩ := pats5s (unhide HP2)
      have HP3 := hide (setRow_heap (w1.setRow w.heap.size (patO U)) w.heap.size (patO U) (patO U) _ _ (unhide HP2))
      have HF3 := hide ((setRow_other (w1.setRow w.heap.size (patO U)) w.heap.size (w.heap.size + 1) (patO U) (by omega)).trans (unhide HF2))
      have HB3 := hide (below_setRow (unhide HB2) w.heap.size (Nat.le_refl _) (patO U))
      have HL3 := hide ((unhide HL2).setRow (g := w.heap.size) (by omega) (patO U))
      have HF4 := hide (setRow_heap _ (w.heap.size + 1) _ #[.int .i64 0, .int .i64 0] _ _ (unhide HF3))
      have HP4 := hide ((setRow_other _ (w.heap.size + 1) w.heap.size #[.int .i64 0, .int .i64 0] (by omega)).trans (unhide HP3))
      have HB4 := hide (below_setRow (unhide HB3) (w.heap.size + 1) (by omega) #[.int .i64 0, .int .i64 0])
      have HL4 := hide ((unhide HL3).setRow (g := w.heap.size + 1) (by omega) #[.int .i64 0, .int .i64 0])
      go_wp2_with (first
        | (refine wpList_store_row rfl 45 _ _ rfl w.heap.size (patO U) rfl rfl 45 zeroP (by with_reducible exact unhide HSTO) size_pat rfl (patO_oneC _) ?_)
        | (refine wpList_store_row rfl 45 _ _ rfl w.heap.size (patO U) rfl rfl 45 (patO U) (by with_reducible exact unhide HP2) size_pat rfl (patO_oneC _) ?_)
        | (refine wpList_store_row rfl 30 _ _ rfl (w.heap.size + 1) #[.int .i64 0, .int .i64 0] rfl rfl 30 #[.int .i64 0, .int .i64 0] (by with_reducible exact unhide HF3) size_fault rfl (by simp [Value.oneCell']) ?_)
        | fail)
      (try go_frame)
      refine leaves_cons (f := 120) (args := #[.pointer (some ⟨w.heap.size + 1, 0, none⟩)]) (by simp) (by simp [go_sem]) ?_
      refine (catch_idle _ _).mono ?_
      rintro e u' w'' ⟨rfl, rfl, rfl⟩
      refine ⟨_, res_two _ _ w.heap.size (w.heap.size + 1) (patO U) #[.int .i64 0, .int .i64 0] rfl rfl (unhide HP4) (unhide HF4) rfl rfl, unhide HB4, fun p' j' h => ?_, fun er' a' h => ?_⟩
      · rw [unhide HRE] at h
        injection h with h; injection h with h1 h2
        subst h1
        exact ⟨U, rfl, (unhide HU).1, (unhide HL4).mono (by omega)⟩
      · rw [unhide HRE] at h; cases h
end Go.Proofs.YtpkmamgleofimaaGreatDoor

namespace Go.Proofs.YtpkmamgleofimaaGreatDoor
open Go.RowKit

theorem bnd_bad {α β : Type} {r : Rd α} {f : α → Nat → Rd β} {x : Int × Nat} (h : bnd r f = .error x) : r = .error x ∨ ∃ a j, r = .ok (a, j) ∧ f a j = .error x := by
  cases r with
  | ok v => exact .inr ⟨v.1, v.2, rfl, h⟩
  | error e => rw [bnd_err] at h; injection h with h; exact .inl (by rw [h])
def Nz {α : Type} (s : ByteArray) (P : Nat → Rd α) : Prop := ∀ i er a, i ≤ s.size → P i = .error (er, a) → er ≠ 0
theorem takP_nz (s : ByteArray) (c : Nat) : Nz s (takP s c) := fun i er a _ h => by
  unfold takP at h
  split at h
  · cases h
  · injection h with h; injection h with h _; omega
theorem nmP_nz (s : ByteArray) : Nz s (nmP s) := fun i er a _ h => by
  unfold nmP at h
  split at h
  · split at h
    · injection h with h; injection h with h _; omega
    · cases h
  · injection h with h; injection h with h _; omega
theorem nuP_nz (s : ByteArray) : Nz s (nuP s) := fun i er a _ h => by
  unfold nuP at h
  split at h
  · split at h
    · injection h with h; injection h with h _; omega
    · split at h
      · injection h with h; injection h with h _; omega
      · cases h
  · injection h with h; injection h with h _; omega
theorem qtP_nz (s : ByteArray) : Nz s (fun i => qtP s i) := fun i er a _ h => by
  have h' : qtP s i = .error (er, a) := h
  unfold qtP at h'
  split at h'
  · cases h'
  · injection h' with h'; injection h' with h' _; omega
theorem fiP_nz (s : ByteArray) : Nz s (fiP s) := fun i er a hi h => by
  unfold fiP at h
  split at h
  · rcases bnd_bad h with h | ⟨t, j, h1, h⟩
    · exact qtP_nz s _ _ _ (sk_le s i hi).2 h
    · split at h
      · injection h with h; injection h with h _; omega
      · cases h
  · injection h with h; injection h with h _; omega
theorem parP_nz {d : Nat} {B : Nat → Rd PT} {s : ByteArray} (hB : Adv s B) (hN : 0 < d → Nz s B) : Nz s (parP d B s) := fun i er a hi h => by
  unfold parP at h
  rcases bnd_bad h with h | ⟨u, j, h1, h⟩
  · exact takP_nz s 40 i er a hi h
  · have k1 := takP_adv s 40 (by decide) i u j hi h1
    split at h
    · injection h with h; injection h with h _; omega
    · rcases bnd_bad h with h | ⟨p, k, h2, h⟩
      · exact hN (by omega) j er a k1.2 h
      · have k2 := hB j p k k1.2 h2
        rcases bnd_bad h with h | ⟨u, m, h3, h⟩
        · exact takP_nz s 41 k er a k2.2 h
        · cases h
theorem woP_nz {d : Nat} {B : Nat → Rd PT} {s : ByteArray} (hB : Adv s B) (hN : 0 < d → Nz s B) {i : Nat} {er : Int} {a : Nat} (hl : letterN (bat s i) = true) (h : woP d B s i = .error (er, a)) : er ≠ 0 := by
  have h0 := wdE_adv hl
  unfold woP at h
  split at h
  · injection h with h; injection h with h _; omega
  · split at h
    · rcases bnd_bad h with h | ⟨u, j, h1, h⟩
      · exact parP_nz hB hN _ _ _ h0.2 h
      · cases h
    · split at h
      · rcases bnd_bad h with h | ⟨u, j, h1, h⟩
        · exact takP_nz s 40 _ _ _ h0.2 h
        · have k1 := takP_adv s 40 (by decide) _ u j h0.2 h1
          rcases bnd_bad h with h | ⟨n, k, h2, h⟩
          · exact nuP_nz s _ _ _ k1.2 h
          · have k2 := nuP_adv s j n k k1.2 h2
            rcases bnd_bad h with h | ⟨u, m, h3, h⟩
            · exact takP_nz s 41 _ _ _ k2.2 h
            · cases h
      · split at h
        · rcases bnd_bad h with h | ⟨u, j, h1, h⟩
          · exact takP_nz s 40 _ _ _ h0.2 h
          · have k1 := takP_adv s 40 (by decide) _ u j h0.2 h1
            rcases bnd_bad h with h | ⟨n, k, h2, h⟩
            · exact fiP_nz s _ _ _ k1.2 h
            · have k2 := fiP_adv s j n k k1.2 h2
              rcases bnd_bad h with h | ⟨u, m, h3, h⟩
              · exact takP_nz s 41 _ _ _ k2.2 h
              · cases h
        · cases h
theorem baP_nz {d : Nat} {B : Nat → Rd PT} {s : ByteArray} (hB : Adv s B) (hN : 0 < d → Nz s B) : Nz s (baP d B s) := fun i er a hi h => by
  have h0 := sk_le s i hi
  unfold baP at h
  split at h
  · rcases bnd_bad h with h | ⟨u, j, h1, h⟩
    · exact qtP_nz s _ _ _ h0.2 h
    · cases h
  · split at h
    · exact parP_nz hB hN _ _ _ h0.2 h
    · have key : ∀ k, nx s i ≠ 0 → (bnd (nmP s (sk s i + 1)) fun t e => (.ok (mkP k ⟨#[]⟩ 0 t [], e) : Rd PT)) = .error (er, a) → er ≠ 0 := fun k hn h => by
        have h3 := nx_in hn
        rcases bnd_bad h with h | ⟨u, j, h1, h⟩
        · exact nmP_nz s _ _ _ (by omega) h
        · cases h
      split at h
      · exact key 23 (by omega) h
      · split at h
        · exact key 24 (by omega) h
        · split at h
          · rename_i hl
            exact woP_nz hB hN hl h
          · injection h with h; injection h with h _; omega
theorem gvF_nz (s : ByteArray) : ∀ f p i er a, i ≤ s.size → s.size < i + f → gvF s f p i = .error (er, a) → er ≠ 0
  | 0, p, i, er, a, hi, hf, h => by omega
  | f + 1, p, i, er, a, hi, hf, h => by
    have h0 := sk_le s i hi
    rw [gvF] at h
    by_cases q : gvK (nx s i) = 0
    · rw [if_pos q] at h; cases h
    · rw [if_neg q] at h
      have hn : nx s i ≠ 0 := fun z => q (by rw [z]; rfl)
      have h3 := nx_in hn
      rcases bnd_bad h with h | ⟨t, e, h1, h⟩
      · exact nmP_nz s _ _ _ (by omega) h
      · have h4 := nmP_adv s (sk s i + 1) t e (by omega) h1
        exact gvF_nz s f _ e er a h4.2 (by omega) h
theorem piP_nz {d : Nat} {B : Nat → Rd PT} {s : ByteArray} (hB : Adv s B) (hN : 0 < d → Nz s B) : Nz s (piP d B s) := fun i er a hi h => by
  unfold piP at h
  rcases bnd_bad h with h | ⟨p, j, h1, h⟩
  · exact baP_nz hB hN _ _ _ hi h
  · have k1 := baP_adv hB i p j hi h1
    exact gvF_nz s _ _ _ _ _ k1.2 (by omega) h
theorem pcF_nz {d : Nat} {B : Nat → Rd PT} {s : ByteArray} (hB : Adv s B) (hN : 0 < d → Nz s B) : ∀ f l i er a, i ≤ s.size → s.size < i + f → pcF d B s f l i = .error (er, a) → er ≠ 0
  | 0, l, i, er, a, hi, hf, h => by omega
  | f + 1, l, i, er, a, hi, hf, h => by
    have h0 := sk_le s i hi
    rw [pcF] at h
    by_cases q : begN (nx s i) = true
    · rw [if_pos q] at h
      rcases bnd_bad h with h | ⟨t, e, h1, h⟩
      · exact piP_nz hB hN _ _ _ h0.2 h
      · have h3 := piP_adv hB _ t e h0.2 h1
        exact pcF_nz hB hN f _ e er a h3.2 (by omega) h
    · rw [if_neg q] at h; cases h
theorem pcP_nz {d : Nat} {B : Nat → Rd PT} {s : ByteArray} (hB : Adv s B) (hN : 0 < d → Nz s B) : Nz s (pcP d B s) := fun i er a hi h => by
  unfold pcP at h
  rcases bnd_bad h with h | ⟨p, j, h1, h⟩
  · exact piP_nz hB hN _ _ _ hi h
  · have k1 := piP_adv hB i p j hi h1
    rcases bnd_bad h with h | ⟨l, e, h2, h⟩
    · exact pcF_nz hB hN _ _ _ _ _ k1.2 (by omega) h
    · cases h
theorem alF_nz {d : Nat} {B : Nat → Rd PT} {s : ByteArray} (hB : Adv s B) (hN : 0 < d → Nz s B) : ∀ f l i er a, i ≤ s.size → s.size < i + f → alF d B s f l i = .error (er, a) → er ≠ 0
  | 0, l, i, er, a, hi, hf, h => by omega
  | f + 1, l, i, er, a, hi, hf, h => by
    have h0 := sk_le s i hi
    rw [alF] at h
    by_cases q : nx s i = 124
    · rw [if_pos q] at h
      have hn := nx_in (s := s) (i := i) (by omega)
      rcases bnd_bad h with h | ⟨t, e, h1, h⟩
      · exact pcP_nz hB hN _ _ _ (by omega) h
      · have h3 := pcP_adv hB _ t e (by omega) h1
        exact alF_nz hB hN f _ e er a h3.2 (by omega) h
    · rw [if_neg q] at h; cases h
theorem alP_nz {d : Nat} {B : Nat → Rd PT} {s : ByteArray} (hB : Adv s B) (hN : 0 < d → Nz s B) : Nz s (alP d B s) := fun i er a hi h => by
  unfold alP at h
  rcases bnd_bad h with h | ⟨p, j, h1, h⟩
  · exact pcP_nz hB hN _ _ _ hi h
  · have k1 := pcP_adv hB i p j hi h1
    rcases bnd_bad h with h | ⟨l, e, h2, h⟩
    · exact alF_nz hB hN _ _ _ _ _ k1.2 (by omega) h
    · cases h
theorem alD_nz (s : ByteArray) : ∀ d, Nz s (alD s d)
  | 0 => fun i er a hi h => alP_nz (d := 0) (B := fun j => .error (0, j)) (fun i x j _ h => by cases h) (fun h => absurd h (by decide)) i er a hi (by rw [alD] at h; exact h)
  | d + 1 => fun i er a hi h => alP_nz (alD_adv s d) (fun _ => alD_nz s d) i er a hi (by rw [alD] at h; exact h)
theorem rdA_nz {s : ByteArray} {er : Int} {a : Nat} (h : rdA s = .error (er, a)) : er ≠ 0 := by
  unfold rdA at h
  rcases bnd_bad h with h | ⟨p, j, h1, h⟩
  · exact alD_nz s _ _ _ _ (Nat.zero_le _) h
  · split at h
    · injection h with h; injection h with h _; omega
    · cases h
end Go.Proofs.YtpkmamgleofimaaGreatDoor
