/- What pats.Names and the document's SameTexts do. -/
import Derived.Test.YtffapdilojbagaaDoorRising4
namespace Go.Proofs.YtffapdilojbagaaDoor
open Go.RowKit

theorem wrong_zero {T : PT} (h : T.wrong = 0) : T.bad = 0 ∧ T.cnt ≤ 4096 := by
  unfold PT.wrong at h
  cases hf : T.fits with
  | false => rw [hf] at h; simp at h
  | true =>
    rw [hf] at h
    refine ⟨by simpa using h, ?_⟩
    unfold PT.fits at hf
    simp at hf
    exact hf.1

def NamesRes (T : PT) (w : World) (e : Ending) (w' : World) : Prop :=
  ∃ v u, e = .returned (.tuple #[v, u, .int .i64 T.wrong]) ∧ StrsAt w' v (if T.wrong = 0 then namesOf T.giv else []) ∧ StrsAt w' u (if T.wrong = 0 then namesOf T.cal else []) ∧ Below w.heap.size w w'
theorem strs_nil (w : World) : StrsAt w (.slice none 0 0) [] := ⟨none, 0, 0, rfl, fun h => absurd h (Nat.lt_irrefl 0), fun j hj => absurd hj (Nat.not_lt_zero j)⟩
theorem own_nil (w : World) (B : Nat) : Own w B (.slice none 0 0) [] := World.ownsRow_nil w B 9 1

set_option maxRecDepth 100000 in
set_option maxHeartbeats 1000000 in
theorem codeNames_any (T : PT) (w : World) (hT : T.In w) (hS : Shapes w) :
    Calls Tryd.prog 13 #[pv T] w fun e w' => NamesRes T w e w' := by
  have HW := hide (fun W (h : Below w.heap.size w W) => wrong_any T W (PT.In.later h hT) (hS.later h))
  have HN := hide (names_any T w)
  have HT := hide hT
  clear hT hS
  unfold pv at HW
  unfold pv
  have hk0 := (Below.refl w.heap.size w).alloc (Nat.le_refl _) (.cells #[.int .i64 T.k, .string T.t, .int .i64 T.n, .string T.nm, .slice T.xa T.len T.cap] 24)
  go_enter Tryd.func13, Tryd.ntmps13
  go_wp2_with fail
  refine (unhide HW _ hk0).mono ?_
  rintro e w1 ⟨rfl, hb1⟩
  have H1 := hide (bnext hk0 hb1)
  have hrow := row_below (at_new (w := w) (o := .cells #[.int .i64 T.k, .string T.t, .int .i64 T.n, .string T.nm, .slice T.xa T.len T.cap] 24) rfl) hb1
  have c0 : w1.cell? ⟨w.heap.size, 0, none⟩ = some (.int .i64 T.k) := by rw [cell_of_row _ _ _ _ _ _ hrow]; rfl
  have c1 : w1.cell? ⟨w.heap.size, 1, none⟩ = some (.string T.t) := by rw [cell_of_row _ _ _ _ _ _ hrow]; rfl
  have c2 : w1.cell? ⟨w.heap.size, 2, none⟩ = some (.int .i64 T.n) := by rw [cell_of_row _ _ _ _ _ _ hrow]; rfl
  have c3 : w1.cell? ⟨w.heap.size, 3, none⟩ = some (.string T.nm) := by rw [cell_of_row _ _ _ _ _ _ hrow]; rfl
  have c4 : w1.cell? ⟨w.heap.size, 4, none⟩ = some (.slice T.xa T.len T.cap) := by rw [cell_of_row _ _ _ _ _ _ hrow]; rfl
  clear hk0 hb1 hrow HW
  by_cases hz : T.wrong = 0
  · have HZ := hide hz
    have HC := hide (wrong_zero hz)
    rw [hz]
    clear hz
    go_wp2_with fail
    refine (unhide HN _ _ _ [] [] (unhide HT) (unhide H1) (unhide HC).1 (own_nil _ _) (own_nil _ _) (.inl rfl) (by have := (unhide HC).2; simp; omega) (by have := (unhide HC).2; simp; omega)).mono ?_
    rintro e w2 ⟨v, u, rfl, hv, hu, hap, hb2⟩
    rw [List.nil_append] at hv hu
    have HR := hide (And.intro hv (And.intro hu (And.intro hap hb2)))
    have HL := hide (giv_len T)
    clear hv hu hap hb2 c0 c1 c2 c3 c4
    go_wp2_with fail
    refine (rising_any _ v T.giv _ (unhide HR).1 (by have := (unhide HL).1; have := (unhide HC).2; omega)).mono ?_
    rintro e w3 ⟨v3, rfl, hvb, hv3, hg3⟩
    have HR3 := hide (And.intro hvb (And.intro hv3 hg3))
    clear hvb hv3 hg3
    go_wp2_with fail
    refine (rising_any _ u T.cal _ ((unhide HR).2.1.other (unhide HR3).2.2 (unhide HR).2.2.1) (by have := (unhide HL).2; have := (unhide HC).2; omega)).mono ?_
    rintro e w4 ⟨u4, rfl, hub, hu4, hg4⟩
    have HR4 := hide (And.intro hub (And.intro hu4 hg4))
    clear hub hu4 hg4
    go_wp2_with fail
    go_ret3
    obtain ⟨hv, hu, hap, hb2⟩ := unhide HR
    obtain ⟨hvb, hv3, hg3⟩ := unhide HR3
    obtain ⟨hub, hu4, hg4⟩ := unhide HR4
    have hb3 := hb2.grown hg3 hb2.size (fun i hi => (World.ownsRow.lt hv i hi).1)
    refine ⟨v3, u4, by rw [unhide HZ]; rfl, ?_, ?_, hb3.grown hg4 hb3.size (fun i hi => (World.ownsRow.lt hu i hi).1)⟩
    · rw [if_pos (unhide HZ)]
      refine hv3.kept hg4 ?_
      rw [hvb]
      rcases hap with h | h | h
      · exact .inl h
      · exact .inr (.inl h)
      · exact .inr (.inr h)
    · rw [if_pos (unhide HZ)]; exact hu4
  · have HZ := hide hz
    have hne : (T.wrong != 0) = true := by rw [bne_iff_ne]; exact hz
    clear hz
    go_wp2_with fail
    go_ret3
    exact ⟨_, _, rfl, by rw [if_neg (unhide HZ)]; exact strs_nil _, by rw [if_neg (unhide HZ)]; exact strs_nil _, unhide H1⟩

theorem size_str4 : (Tryd.prog.info? 9).map (·.size) = some 1 := by kernel_rfl
theorem strs_at {v : Value} {xs : List ByteArray} {w : World} (h : StrsAt w v xs) : ∃ a cap, v = .slice a xs.length cap ∧ ∀ k, k < xs.length → ∃ p, (∀ W, (Instr.indexAt 32 (.slice a xs.length cap) (.int .i64 (k : Int))).run Tryd.prog W = .ok (.pointer (some p)) W) ∧ w.cell? p = some (.string (xs.getD k ByteArray.empty)) := by
  obtain ⟨a, cap, g, h1, h2, h3⟩ := h
  refine ⟨a, cap, h1, fun k hk => ⟨⟨g, k, none⟩, fun W => ?_, h3 k hk⟩⟩
  rw [(h2 (by omega)).1]
  have h0 : (0 : Int) ≤ (k : Int) ∧ (k : Int) < (xs.length : Int) := by omega
  have hs := size_str4
  cases hq : Tryd.prog.info? 9 with
  | none => simp [hq] at hs
  | some i =>
    have hz : i.size = 1 := by simpa [hq] using hs
    simp [Instr.indexAt, asIntOf, run_underlying Tryd.underlying32, h0, sizeOf, typeInfo, hq, hz, Addr.add_lit]
    intro h
    omega

set_option maxRecDepth 100000 in
set_option maxHeartbeats 1000000 in
theorem same_texts (v u : Value) (xs : List ByteArray) (w : World) (hv : StrsAt w v xs) (hu : StrsAt w u xs) (hx : xs.length ≤ 1000000) :
    Calls Tryd.prog 15 #[v, u] w fun e w' => e = .returned (.bool true) ∧ Below w.heap.size w w' := by
  obtain ⟨a, cap, rfl, ha⟩ := strs_at hv
  obtain ⟨b, cab, rfl, hb⟩ := strs_at hu
  have HA := hide ha
  have HB := hide hb
  clear ha hb hv hu
  go_enter Tryd.func15, Tryd.ntmps15
  go_wp2_with fail
  go_loopw [13] (fun i wr => ∃ k : Nat, k ≤ xs.length ∧ i = .int .i64 (k : Int) ∧ ∃ n, wr = w.drewN n) (fun i _ => xs.length - (intOf i).toNat)
  case atStart => exact ⟨0, by omega, rfl, 0, rfl⟩
  case round =>
    obtain ⟨k, hk, rfl, n, rfl⟩ := hrel
    rcases Nat.lt_or_ge k xs.length with hkt | hkt
    · obtain ⟨p, hp, hpc⟩ := unhide HA k hkt
      obtain ⟨q, hq, hqc⟩ := unhide HB k hkt
      have hkt' : (k : Int) < (xs.length : Int) := by omega
      generalize xs.getD k ByteArray.empty = s at *
      go_wp2_with fail
      go_quiet (fail)
      go_wp2_with fail
      exact ⟨⟨k + 1, by omega, by go_num, _, rfl⟩, by simp [intOf]; omega⟩
    · go_wp2_with fail
      go_ret
      exact ⟨rfl, below_drewN (Below.refl _ _) _⟩
end Go.Proofs.YtffapdilojbagaaDoor
