/- What pats.namesBelow does, for every right pattern. -/
import Derived.Test.YtffapdilojbagaaDoorPatBelow
import Derived.Test.YtffapdilojbagaaDoorClone4
import Derived.Maps.AppendAt
namespace Go.Proofs.YtffapdilojbagaaDoor
open Go.RowKit

theorem info_str : (Tryd.prog.info? 9).map (fun i => (i.zero, i.size, i.bytes)) = some (some (.string ⟨#[]⟩), 1, 16) := by kernel_rfl
theorem info_parts {P : Program} {t : TypeId} {z : Value} {s b : Nat} (h : (P.info? t).map (fun i => (i.zero, i.size, i.bytes)) = some (some z, s, b)) : ∃ i, P.info? t = some i ∧ i.zero = some z ∧ i.size = s ∧ i.bytes = b := by
  cases hq : P.info? t with
  | none => simp [hq] at h
  | some i =>
    simp only [hq, Option.map_some, Option.some.injEq, Prod.mk.injEq] at h
    exact ⟨i, rfl, h.1, h.2.1, h.2.2⟩
/-- A list of texts in memory of the call's own. -/
def Own (w : World) (B : Nat) (v : Value) (xs : List ByteArray) : Prop := w.ownsRow B 9 1 v xs.length (xs.map Value.string)
def Apart (v u : Value) : Prop := v.ownBlock = none ∨ u.ownBlock = none ∨ v.ownBlock ≠ u.ownBlock
theorem Apart.symm {v u : Value} (h : Apart v u) : Apart u v := by
  rcases h with h | h | h
  · exact .inr (.inl h)
  · exact .inl h
  · exact .inr (.inr fun e => h e.symm)
theorem Own.later {w w' : World} {B : Nat} {v : Value} {xs : List ByteArray} (h : Own w B v xs) (hb : Below w.heap.size w w') : Own w' B v xs := own_below h hb
theorem Own.other {w w' : World} {B : Nat} {v u : Value} {xs : List ByteArray} (h : Own w B u xs) (hg : w.grownBy w' v.ownBlock) (ha : Apart v u) : Own w' B u xs := by
  refine World.ownsRow.kept h hg ?_
  rcases ha with e | e | e
  · rw [e]
    cases u.ownBlock with
    | none => exact .inl rfl
    | some k => exact .inr (by simp)
  · exact .inl e
  · exact .inr fun x => e x.symm
theorem Apart.next {w : World} {B : Nat} {v v' u : Value} {xs : List ByteArray} (ha : Apart v u) (hu : Own w B u xs) (hat : v'.ownBlock = v.ownBlock ∨ v'.ownBlock = some w.heap.size) : Apart v' u := by
  rcases hat with e | e
  · unfold Apart; rw [e]; exact ha
  · right
    cases hq : u.ownBlock with
    | none => exact .inl rfl
    | some k =>
      right
      rw [e]
      have := (World.ownsRow.lt hu k hq).2
      simp; omega

theorem giv_len : ∀ T : PT, T.giv.length ≤ T.cnt ∧ T.cal.length ≤ T.cnt := PT.ind fun T ih => by
  have h1 : ∀ m, m ≤ T.len → (flatTo (fun i => (T.kid i).giv) m).length ≤ sumTo (fun i => (T.kid i).cnt) m ∧ (flatTo (fun i => (T.kid i).cal) m).length ≤ sumTo (fun i => (T.kid i).cnt) m := by
    intro m
    induction m with
    | zero => intro _; exact ⟨Nat.le_refl _, Nat.le_refl _⟩
    | succ m hm => intro h; have := ih m (by omega); have := hm (by omega); simp only [flatTo, sumTo, List.length_append]; omega
  have := h1 T.len (Nat.le_refl _)
  have g1 : (givN T).length ≤ 1 := by unfold givN; split <;> simp
  have g2 : (calN T).length ≤ 1 := by unfold calN; split <;> simp
  rw [T.giv_eq, T.cal_eq, T.cnt_eq, List.length_append, List.length_append]
  omega
theorem firstTo_zero {f : Nat → Int} : ∀ {n : Nat}, firstTo f n = 0 → ∀ i, i < n → f i = 0
  | 0, _, i, hi => absurd hi (Nat.not_lt_zero i)
  | n + 1, h, i, hi => by
    unfold firstTo at h
    split at h
    · rename_i h0
      rcases Nat.lt_or_ge i n with h1 | h1
      · exact firstTo_zero h0 i h1
      · rw [show i = n by omega]; exact h
    · rename_i h0
      exact absurd h h0
theorem bad_zero {T : PT} (h : T.bad = 0) : errN T = 0 ∧ ∀ i, i < T.len → (T.kid i).bad = 0 := by
  rw [T.bad_eq] at h
  split at h
  · rename_i h0
    exact ⟨h0, firstTo_zero h⟩
  · rename_i h0
    exact absurd h h0
theorem named_zero {T : PT} (h : errN T = 0) (hk : 21 ≤ T.k ∧ T.k ≤ 24) : T.nm.size ≤ 16 := by
  have hn : named T.nm = true := by
    cases hq : named T.nm with
    | true => rfl
    | false =>
      have : errN T = 7 := by
        have e : hasK T.k = 3 := by unfold hasK; rw [if_neg (by omega), if_neg (by omega), if_pos hk]
        unfold errN; rw [if_neg (by omega), if_neg (by omega), if_neg (by omega), if_neg (by omega), if_pos ⟨e, hq⟩]
      omega
  unfold named at hn
  simp at hn
  exact hn.1

def NamesPost (T : PT) (W : World) (gs cs : List ByteArray) (e : Ending) (w' : World) : Prop := ∃ v' u', e = .returned (.tuple #[v', u']) ∧ Own w' W.heap.size v' (gs ++ T.giv) ∧ Own w' W.heap.size u' (cs ++ T.cal) ∧ Apart v' u' ∧ Below W.heap.size W w'
def NamesSays (T : PT) : Prop := ∀ (W w : World) (v u : Value) (gs cs : List ByteArray), T.In W → Below W.heap.size W w → T.bad = 0 → Own w W.heap.size v gs → Own w W.heap.size u cs → Apart v u → gs.length + T.cnt ≤ 5000 → cs.length + T.cnt ≤ 5000 →
  Calls Tryd.prog 29 #[.agg #[.int .i64 T.k, .string T.t, .int .i64 T.n, .string T.nm, .slice T.xa T.len T.cap], v, u] w fun e w' => NamesPost T W gs cs e w'

theorem names_room (T : PT) {k : Nat} (hk : k < T.len) {gs cs : List ByteArray} (h : gs.length + T.cnt ≤ 5000 ∧ cs.length + T.cnt ≤ 5000) :
    (gs ++ givN T ++ flatTo (fun i => (T.kid i).giv) k).length + (T.kid k).cnt ≤ 5000 ∧ (cs ++ calN T ++ flatTo (fun i => (T.kid i).cal) k).length + (T.kid k).cnt ≤ 5000 := by
  have h1 : ∀ m, (flatTo (fun i => (T.kid i).giv) m).length ≤ sumTo (fun i => (T.kid i).cnt) m ∧ (flatTo (fun i => (T.kid i).cal) m).length ≤ sumTo (fun i => (T.kid i).cnt) m := by
    intro m
    induction m with
    | zero => exact ⟨Nat.le_refl _, Nat.le_refl _⟩
    | succ m hm => have := giv_len (T.kid m); simp only [flatTo, sumTo, List.length_append]; omega
  have h2 := h1 k
  have h3 := sumTo_le (fun i => (T.kid i).cnt) (show k + 1 ≤ T.len from hk)
  have h4 := T.cnt_eq
  have g1 : (givN T).length ≤ 1 := by unfold givN; split <;> simp
  have g2 : (calN T).length ≤ 1 := by unfold calN; split <;> simp
  simp only [sumTo] at h3
  simp only [List.length_append]
  omega

theorem kept_row {w0 w1 w2 : World} {B : Nat} {v : Value} {xs : List ByteArray} (hg : w1.grownBy w2 v.ownBlock) (hv : Own w0 B v xs) {n : Nat} {x : Obj} (hn : w0.heap.size ≤ n) (hx : w1.heap[n]? = some x) : w2.heap[n]? = some x := by
  refine (hg.block n (Array.getElem?_eq_some_iff.1 hx).1 fun e => ?_).trans hx
  have := (World.ownsRow.lt hv n e.symm).2
  omega
theorem cells5b {W : World} {g : Nat} {a b c d e : Value} {t : TypeId} (h : W.heap[g]? = some (.cells #[a, b, c, d, e] t (0, 0))) : W.cell? ⟨g, 4, none⟩ = some e := by
  rw [cell_of_row _ _ _ _ _ _ h]; rfl

set_option maxRecDepth 100000 in
set_option maxHeartbeats 1000000 in
theorem names_21 (T : PT) (ih : ∀ i, i < T.len → NamesSays (T.kid i)) (hk : T.k = 21) : NamesSays T := by
  intro W w v u gs cs hT hbel hbad hv hu hap hn1 hn2
  have hmax := hT.max
  unfold maxLen at hmax
  have HN := hide (And.intro hn1 hn2)
  have HD := hide (And.intro hT (And.intro ih hbad))
  have e21 : (T.k == 21) = true := by rw [beq_iff_eq]; omega
  have HG := hide (show givN T = [T.nm] by unfold givN; rw [if_pos (by omega)])
  have HC := hide (show calN T = [] by unfold calN; rw [if_neg (by omega)])
  have hk0 := (Below.refl w.heap.size w).alloc (Nat.le_refl _) (.cells #[.int .i64 T.k, .string T.t, .int .i64 T.n, .string T.nm, .slice T.xa T.len T.cap] 24)
  obtain ⟨i0, hi, hz0, hz1, hz2⟩ := info_parts info_str
  have HI := hide (And.intro hi (And.intro hz0 (And.intro hz1 hz2)))
  have HM := hide (named_zero (bad_zero hbad).1 (by omega))
  have HR := hide (And.intro hv (And.intro hu (And.intro hap hbel)))
  have HK := hide hk0
  have hr0 := at_new (w := w) (o := .cells #[.int .i64 T.k, .string T.t, .int .i64 T.n, .string T.nm, .slice T.xa T.len T.cap] 24) rfl
  have HR0 := hide hr0
  clear hi hz0 hz1 hz2 hr0
  clear hT ih hbad hv hu hap hn1 hn2 hbel hk0
  clear hk
  go_enter Tryd.func29, Tryd.ntmps29
  go_wp2_with fail
  refine (clone_any T.nm _ (by have := unhide HM; omega)).mono ?_
  rintro e w1 ⟨rfl, hb1⟩
  have hbw := bnext (unhide HK) hb1
  have HV1 := hide ((unhide HR).1.later hbw)
  have HU1 := hide ((unhide HR).2.1.later hbw)
  have HB1 := hide (bnext (unhide HR).2.2.2 hbw)
  have hr1 := row_below (unhide HR0) hb1
  have hlt : w.heap.size < w1.heap.size := (Array.getElem?_eq_some_iff.1 hr1).1
  have c4 : w1.cell? ⟨w.heap.size, 4, none⟩ = some (.slice T.xa T.len T.cap) := (cells5b hr1)
  have HR1 := hide hr1
  clear hb1 hbw hr1
  have hal := (Below.refl w1.heap.size w1).alloc (Nat.le_refl _) (.cells #[.string T.nm] 9)
  have HAL := hide hal
  clear hal
  go_wp2_with (at_builtin; refine wpList_append_own_at _ rfl _ _ 32 rfl W.heap.size 9 i0 (.string ⟨#[]⟩) 1 16 Tryd.underlying32 (unhide HI).1 (unhide HI).2.1 (unhide HI).2.2.1 (unhide HI).2.2.2 rfl (by decide) _ _ _ rfl (by exact ((unhide HV1).later (unhide HAL))) ⟨w1.heap.size, 0, none⟩ 1 1 [.string T.nm] rfl rfl (by exact cell_one_new w1 _ _) (by intro x hx; rw [List.mem_singleton] at hx; subst hx; rfl) (by have := (unhide HN); unfold maxLen; omega) (by have := (unhide HN); omega) (Nat.le_trans (unhide HB1).size (unhide HAL).size) ?_; intro v' w2 hown hgrow _ hat; have HOwn := hide hown; have HGr := hide hgrow; have HAt := hide hat; have c5 : w2.cell? ⟨w.heap.size, 4, none⟩ = some (.slice T.xa T.len T.cap) := (cells5b (kept_row (unhide HGr) (unhide HR).1 (Nat.le_refl _) (row_below (unhide HR1) (unhide HAL)))); clear hown hgrow hat)
  have HV := hide (show Own w2 W.heap.size v' (gs ++ givN T) by rw [unhide HG]; have h := unhide HOwn; unfold Own; simpa using h)
  have HU := hide (show Own w2 W.heap.size u (cs ++ calN T) by rw [unhide HC, List.append_nil]; exact ((unhide HU1).later (unhide HAL)).other (unhide HGr) (unhide HR).2.2.1)
  have HAp := hide (show Apart v' u from (unhide HR).2.2.1.next ((unhide HU1).later (unhide HAL)) (unhide HAt))
  have HB := hide ((bnext (unhide HB1) (unhide HAL)).grown (unhide HGr) (Nat.le_trans (unhide HB1).size (unhide HAL).size) (fun g hg => (World.ownsRow.lt (unhide HV1) g hg).1))
  go_loopw [1, 2, 33] (fun v1 u1 i wr => ∃ k : Nat, k ≤ T.len ∧ i = .int .i64 (k : Int) ∧ Own wr W.heap.size v1 (gs ++ givN T ++ flatTo (fun i => (T.kid i).giv) k) ∧ Own wr W.heap.size u1 (cs ++ calN T ++ flatTo (fun i => (T.kid i).cal) k) ∧ Apart v1 u1 ∧ Below W.heap.size W wr) (fun _ _ i _ => T.len - (intOf i).toNat)
  case atStart => exact ⟨0, by omega, rfl, by rw [flatTo, List.append_nil]; exact unhide HV, by rw [flatTo, List.append_nil]; exact unhide HU, unhide HAp, unhide HB⟩
  case round =>
    obtain ⟨k, hk, rfl, hv, hu, hap, hbr⟩ := hrel
    rcases Nat.lt_or_ge k T.len with hkt | hkt
    · obtain ⟨hT, ih, hbad⟩ := unhide HD
      obtain ⟨k0, k1, k2, k3, k4⟩ := hT.cells hkt
      have k0 := cell_later hbr k0
      have k1 := cell_later hbr k1
      have k2 := cell_later hbr k2
      have k3 := cell_later hbr k3
      have k4 := cell_later hbr k4
      unfold PT.kv at k4
      have hia := kid_at hT hkt
      have HX := hide (And.intro (hT.kids hkt) ((bad_zero hbad).2 k hkt))
      have HI := hide (ih k hkt W)
      have HR := hide (And.intro hv (And.intro hu (And.intro hap hbr)))
      clear hT ih hbad hv hu hap hbr
      go_wp2_with fail
      have hn := (Below.refl wr.heap.size wr).alloc (Nat.le_refl _) (.cells #[.int .i64 (T.kid k).k, .string (T.kid k).t, .int .i64 (T.kid k).n, .string (T.kid k).nm, .slice (T.kid k).xa (T.kid k).len (T.kid k).cap] 24)
      obtain ⟨hv, hu, hap, hbr⟩ := unhide HR
      refine (unhide HI _ _ _ _ _ (unhide HX).1 (bnext hbr hn) (unhide HX).2 (hv.later hn) (hu.later hn) hap (names_room T hkt (unhide HN)).1 (names_room T hkt (unhide HN)).2).mono ?_
      rintro e w2 ⟨v2, u2, rfl, hv2, hu2, hap2, hb2⟩
      have HR2 := hide (And.intro hv2 (And.intro hu2 (And.intro hap2 hb2)))
      clear hn hv hu hap hbr hv2 hu2 hap2 hb2
      go_wp2_with fail
      go_roundw
      case rel =>
        obtain ⟨hv2, hu2, hap2, hb2⟩ := unhide HR2
        exact ⟨k + 1, by omega, by go_num, by rw [flatTo, ← List.append_assoc]; exact hv2, by rw [flatTo, ← List.append_assoc]; exact hu2, hap2, hb2⟩
      case measure => simp [intOf]; omega
    · have hk' : k = T.len := by omega
      have HR := hide (And.intro hv (And.intro hu (And.intro hap hbr)))
      clear hv hu hap hbr
      go_wp2_with fail
      go_ret2
      obtain ⟨hv, hu, hap, hbr⟩ := unhide HR
      rw [hk', List.append_assoc, ← T.giv_eq] at hv
      rw [hk', List.append_assoc, ← T.cal_eq] at hu
      exact ⟨_, _, rfl, hv, hu, hap, hbr⟩

set_option maxRecDepth 100000 in
set_option maxHeartbeats 1000000 in
theorem names_22 (T : PT) (ih : ∀ i, i < T.len → NamesSays (T.kid i)) (hk : T.k = 22) : NamesSays T := by
  intro W w v u gs cs hT hbel hbad hv hu hap hn1 hn2
  have hmax := hT.max
  unfold maxLen at hmax
  have HN := hide (And.intro hn1 hn2)
  have HD := hide (And.intro hT (And.intro ih hbad))
  have e21 : (T.k == 21) = false := by rw [beq_eq_false_iff_ne]; omega
  have e22 : (T.k == 22) = true := by rw [beq_iff_eq]; omega
  have HG := hide (show givN T = [T.nm] by unfold givN; rw [if_pos (by omega)])
  have HC := hide (show calN T = [] by unfold calN; rw [if_neg (by omega)])
  have hk0 := (Below.refl w.heap.size w).alloc (Nat.le_refl _) (.cells #[.int .i64 T.k, .string T.t, .int .i64 T.n, .string T.nm, .slice T.xa T.len T.cap] 24)
  obtain ⟨i0, hi, hz0, hz1, hz2⟩ := info_parts info_str
  have HI := hide (And.intro hi (And.intro hz0 (And.intro hz1 hz2)))
  have HM := hide (named_zero (bad_zero hbad).1 (by omega))
  have HR := hide (And.intro hv (And.intro hu (And.intro hap hbel)))
  have HK := hide hk0
  have hr0 := at_new (w := w) (o := .cells #[.int .i64 T.k, .string T.t, .int .i64 T.n, .string T.nm, .slice T.xa T.len T.cap] 24) rfl
  have HR0 := hide hr0
  clear hi hz0 hz1 hz2 hr0
  clear hT ih hbad hv hu hap hn1 hn2 hbel hk0
  clear hk
  go_enter Tryd.func29, Tryd.ntmps29
  go_wp2_with fail
  refine (clone_any T.nm _ (by have := unhide HM; omega)).mono ?_
  rintro e w1 ⟨rfl, hb1⟩
  have hbw := bnext (unhide HK) hb1
  have HV1 := hide ((unhide HR).1.later hbw)
  have HU1 := hide ((unhide HR).2.1.later hbw)
  have HB1 := hide (bnext (unhide HR).2.2.2 hbw)
  have hr1 := row_below (unhide HR0) hb1
  have hlt : w.heap.size < w1.heap.size := (Array.getElem?_eq_some_iff.1 hr1).1
  have c4 : w1.cell? ⟨w.heap.size, 4, none⟩ = some (.slice T.xa T.len T.cap) := (cells5b hr1)
  have HR1 := hide hr1
  clear hb1 hbw hr1
  have hal := (Below.refl w1.heap.size w1).alloc (Nat.le_refl _) (.cells #[.string T.nm] 9)
  have HAL := hide hal
  clear hal
  go_wp2_with (at_builtin; refine wpList_append_own_at _ rfl _ _ 32 rfl W.heap.size 9 i0 (.string ⟨#[]⟩) 1 16 Tryd.underlying32 (unhide HI).1 (unhide HI).2.1 (unhide HI).2.2.1 (unhide HI).2.2.2 rfl (by decide) _ _ _ rfl (by exact ((unhide HV1).later (unhide HAL))) ⟨w1.heap.size, 0, none⟩ 1 1 [.string T.nm] rfl rfl (by exact cell_one_new w1 _ _) (by intro x hx; rw [List.mem_singleton] at hx; subst hx; rfl) (by have := (unhide HN); unfold maxLen; omega) (by have := (unhide HN); omega) (Nat.le_trans (unhide HB1).size (unhide HAL).size) ?_; intro v' w2 hown hgrow _ hat; have HOwn := hide hown; have HGr := hide hgrow; have HAt := hide hat; have c5 : w2.cell? ⟨w.heap.size, 4, none⟩ = some (.slice T.xa T.len T.cap) := (cells5b (kept_row (unhide HGr) (unhide HR).1 (Nat.le_refl _) (row_below (unhide HR1) (unhide HAL)))); clear hown hgrow hat)
  have HV := hide (show Own w2 W.heap.size v' (gs ++ givN T) by rw [unhide HG]; have h := unhide HOwn; unfold Own; simpa using h)
  have HU := hide (show Own w2 W.heap.size u (cs ++ calN T) by rw [unhide HC, List.append_nil]; exact ((unhide HU1).later (unhide HAL)).other (unhide HGr) (unhide HR).2.2.1)
  have HAp := hide (show Apart v' u from (unhide HR).2.2.1.next ((unhide HU1).later (unhide HAL)) (unhide HAt))
  have HB := hide ((bnext (unhide HB1) (unhide HAL)).grown (unhide HGr) (Nat.le_trans (unhide HB1).size (unhide HAL).size) (fun g hg => (World.ownsRow.lt (unhide HV1) g hg).1))
  go_loopw [1, 2, 33] (fun v1 u1 i wr => ∃ k : Nat, k ≤ T.len ∧ i = .int .i64 (k : Int) ∧ Own wr W.heap.size v1 (gs ++ givN T ++ flatTo (fun i => (T.kid i).giv) k) ∧ Own wr W.heap.size u1 (cs ++ calN T ++ flatTo (fun i => (T.kid i).cal) k) ∧ Apart v1 u1 ∧ Below W.heap.size W wr) (fun _ _ i _ => T.len - (intOf i).toNat)
  case atStart => exact ⟨0, by omega, rfl, by rw [flatTo, List.append_nil]; exact unhide HV, by rw [flatTo, List.append_nil]; exact unhide HU, unhide HAp, unhide HB⟩
  case round =>
    obtain ⟨k, hk, rfl, hv, hu, hap, hbr⟩ := hrel
    rcases Nat.lt_or_ge k T.len with hkt | hkt
    · obtain ⟨hT, ih, hbad⟩ := unhide HD
      obtain ⟨k0, k1, k2, k3, k4⟩ := hT.cells hkt
      have k0 := cell_later hbr k0
      have k1 := cell_later hbr k1
      have k2 := cell_later hbr k2
      have k3 := cell_later hbr k3
      have k4 := cell_later hbr k4
      unfold PT.kv at k4
      have hia := kid_at hT hkt
      have HX := hide (And.intro (hT.kids hkt) ((bad_zero hbad).2 k hkt))
      have HI := hide (ih k hkt W)
      have HR := hide (And.intro hv (And.intro hu (And.intro hap hbr)))
      clear hT ih hbad hv hu hap hbr
      go_wp2_with fail
      have hn := (Below.refl wr.heap.size wr).alloc (Nat.le_refl _) (.cells #[.int .i64 (T.kid k).k, .string (T.kid k).t, .int .i64 (T.kid k).n, .string (T.kid k).nm, .slice (T.kid k).xa (T.kid k).len (T.kid k).cap] 24)
      obtain ⟨hv, hu, hap, hbr⟩ := unhide HR
      refine (unhide HI _ _ _ _ _ (unhide HX).1 (bnext hbr hn) (unhide HX).2 (hv.later hn) (hu.later hn) hap (names_room T hkt (unhide HN)).1 (names_room T hkt (unhide HN)).2).mono ?_
      rintro e w2 ⟨v2, u2, rfl, hv2, hu2, hap2, hb2⟩
      have HR2 := hide (And.intro hv2 (And.intro hu2 (And.intro hap2 hb2)))
      clear hn hv hu hap hbr hv2 hu2 hap2 hb2
      go_wp2_with fail
      go_roundw
      case rel =>
        obtain ⟨hv2, hu2, hap2, hb2⟩ := unhide HR2
        exact ⟨k + 1, by omega, by go_num, by rw [flatTo, ← List.append_assoc]; exact hv2, by rw [flatTo, ← List.append_assoc]; exact hu2, hap2, hb2⟩
      case measure => simp [intOf]; omega
    · have hk' : k = T.len := by omega
      have HR := hide (And.intro hv (And.intro hu (And.intro hap hbr)))
      clear hv hu hap hbr
      go_wp2_with fail
      go_ret2
      obtain ⟨hv, hu, hap, hbr⟩ := unhide HR
      rw [hk', List.append_assoc, ← T.giv_eq] at hv
      rw [hk', List.append_assoc, ← T.cal_eq] at hu
      exact ⟨_, _, rfl, hv, hu, hap, hbr⟩

set_option maxRecDepth 100000 in
set_option maxHeartbeats 1000000 in
theorem names_23 (T : PT) (ih : ∀ i, i < T.len → NamesSays (T.kid i)) (hk : T.k = 23) : NamesSays T := by
  intro W w v u gs cs hT hbel hbad hv hu hap hn1 hn2
  have hmax := hT.max
  unfold maxLen at hmax
  have HN := hide (And.intro hn1 hn2)
  have HD := hide (And.intro hT (And.intro ih hbad))
  have e21 : (T.k == 21) = false := by rw [beq_eq_false_iff_ne]; omega
  have e22 : (T.k == 22) = false := by rw [beq_eq_false_iff_ne]; omega
  have e23 : (T.k == 23) = true := by rw [beq_iff_eq]; omega
  have HG := hide (show givN T = [T.nm] by unfold givN; rw [if_pos (by omega)])
  have HC := hide (show calN T = [] by unfold calN; rw [if_neg (by omega)])
  have hk0 := (Below.refl w.heap.size w).alloc (Nat.le_refl _) (.cells #[.int .i64 T.k, .string T.t, .int .i64 T.n, .string T.nm, .slice T.xa T.len T.cap] 24)
  obtain ⟨i0, hi, hz0, hz1, hz2⟩ := info_parts info_str
  have HI := hide (And.intro hi (And.intro hz0 (And.intro hz1 hz2)))
  have HM := hide (named_zero (bad_zero hbad).1 (by omega))
  have HR := hide (And.intro hv (And.intro hu (And.intro hap hbel)))
  have HK := hide hk0
  have hr0 := at_new (w := w) (o := .cells #[.int .i64 T.k, .string T.t, .int .i64 T.n, .string T.nm, .slice T.xa T.len T.cap] 24) rfl
  have HR0 := hide hr0
  clear hi hz0 hz1 hz2 hr0
  clear hT ih hbad hv hu hap hn1 hn2 hbel hk0
  clear hk
  go_enter Tryd.func29, Tryd.ntmps29
  go_wp2_with fail
  refine (clone_any T.nm _ (by have := unhide HM; omega)).mono ?_
  rintro e w1 ⟨rfl, hb1⟩
  have hbw := bnext (unhide HK) hb1
  have HV1 := hide ((unhide HR).1.later hbw)
  have HU1 := hide ((unhide HR).2.1.later hbw)
  have HB1 := hide (bnext (unhide HR).2.2.2 hbw)
  have hr1 := row_below (unhide HR0) hb1
  have hlt : w.heap.size < w1.heap.size := (Array.getElem?_eq_some_iff.1 hr1).1
  have c4 : w1.cell? ⟨w.heap.size, 4, none⟩ = some (.slice T.xa T.len T.cap) := (cells5b hr1)
  have HR1 := hide hr1
  clear hb1 hbw hr1
  have hal := (Below.refl w1.heap.size w1).alloc (Nat.le_refl _) (.cells #[.string T.nm] 9)
  have HAL := hide hal
  clear hal
  go_wp2_with (at_builtin; refine wpList_append_own_at _ rfl _ _ 32 rfl W.heap.size 9 i0 (.string ⟨#[]⟩) 1 16 Tryd.underlying32 (unhide HI).1 (unhide HI).2.1 (unhide HI).2.2.1 (unhide HI).2.2.2 rfl (by decide) _ _ _ rfl (by exact ((unhide HV1).later (unhide HAL))) ⟨w1.heap.size, 0, none⟩ 1 1 [.string T.nm] rfl rfl (by exact cell_one_new w1 _ _) (by intro x hx; rw [List.mem_singleton] at hx; subst hx; rfl) (by have := (unhide HN); unfold maxLen; omega) (by have := (unhide HN); omega) (Nat.le_trans (unhide HB1).size (unhide HAL).size) ?_; intro v' w2 hown hgrow _ hat; have HOwn := hide hown; have HGr := hide hgrow; have HAt := hide hat; have c5 : w2.cell? ⟨w.heap.size, 4, none⟩ = some (.slice T.xa T.len T.cap) := (cells5b (kept_row (unhide HGr) (unhide HR).1 (Nat.le_refl _) (row_below (unhide HR1) (unhide HAL)))); clear hown hgrow hat)
  have HV := hide (show Own w2 W.heap.size v' (gs ++ givN T) by rw [unhide HG]; have h := unhide HOwn; unfold Own; simpa using h)
  have HU := hide (show Own w2 W.heap.size u (cs ++ calN T) by rw [unhide HC, List.append_nil]; exact ((unhide HU1).later (unhide HAL)).other (unhide HGr) (unhide HR).2.2.1)
  have HAp := hide (show Apart v' u from (unhide HR).2.2.1.next ((unhide HU1).later (unhide HAL)) (unhide HAt))
  have HB := hide ((bnext (unhide HB1) (unhide HAL)).grown (unhide HGr) (Nat.le_trans (unhide HB1).size (unhide HAL).size) (fun g hg => (World.ownsRow.lt (unhide HV1) g hg).1))
  go_loopw [1, 2, 33] (fun v1 u1 i wr => ∃ k : Nat, k ≤ T.len ∧ i = .int .i64 (k : Int) ∧ Own wr W.heap.size v1 (gs ++ givN T ++ flatTo (fun i => (T.kid i).giv) k) ∧ Own wr W.heap.size u1 (cs ++ calN T ++ flatTo (fun i => (T.kid i).cal) k) ∧ Apart v1 u1 ∧ Below W.heap.size W wr) (fun _ _ i _ => T.len - (intOf i).toNat)
  case atStart => exact ⟨0, by omega, rfl, by rw [flatTo, List.append_nil]; exact unhide HV, by rw [flatTo, List.append_nil]; exact unhide HU, unhide HAp, unhide HB⟩
  case round =>
    obtain ⟨k, hk, rfl, hv, hu, hap, hbr⟩ := hrel
    rcases Nat.lt_or_ge k T.len with hkt | hkt
    · obtain ⟨hT, ih, hbad⟩ := unhide HD
      obtain ⟨k0, k1, k2, k3, k4⟩ := hT.cells hkt
      have k0 := cell_later hbr k0
      have k1 := cell_later hbr k1
      have k2 := cell_later hbr k2
      have k3 := cell_later hbr k3
      have k4 := cell_later hbr k4
      unfold PT.kv at k4
      have hia := kid_at hT hkt
      have HX := hide (And.intro (hT.kids hkt) ((bad_zero hbad).2 k hkt))
      have HI := hide (ih k hkt W)
      have HR := hide (And.intro hv (And.intro hu (And.intro hap hbr)))
      clear hT ih hbad hv hu hap hbr
      go_wp2_with fail
      have hn := (Below.refl wr.heap.size wr).alloc (Nat.le_refl _) (.cells #[.int .i64 (T.kid k).k, .string (T.kid k).t, .int .i64 (T.kid k).n, .string (T.kid k).nm, .slice (T.kid k).xa (T.kid k).len (T.kid k).cap] 24)
      obtain ⟨hv, hu, hap, hbr⟩ := unhide HR
      refine (unhide HI _ _ _ _ _ (unhide HX).1 (bnext hbr hn) (unhide HX).2 (hv.later hn) (hu.later hn) hap (names_room T hkt (unhide HN)).1 (names_room T hkt (unhide HN)).2).mono ?_
      rintro e w2 ⟨v2, u2, rfl, hv2, hu2, hap2, hb2⟩
      have HR2 := hide (And.intro hv2 (And.intro hu2 (And.intro hap2 hb2)))
      clear hn hv hu hap hbr hv2 hu2 hap2 hb2
      go_wp2_with fail
      go_roundw
      case rel =>
        obtain ⟨hv2, hu2, hap2, hb2⟩ := unhide HR2
        exact ⟨k + 1, by omega, by go_num, by rw [flatTo, ← List.append_assoc]; exact hv2, by rw [flatTo, ← List.append_assoc]; exact hu2, hap2, hb2⟩
      case measure => simp [intOf]; omega
    · have hk' : k = T.len := by omega
      have HR := hide (And.intro hv (And.intro hu (And.intro hap hbr)))
      clear hv hu hap hbr
      go_wp2_with fail
      go_ret2
      obtain ⟨hv, hu, hap, hbr⟩ := unhide HR
      rw [hk', List.append_assoc, ← T.giv_eq] at hv
      rw [hk', List.append_assoc, ← T.cal_eq] at hu
      exact ⟨_, _, rfl, hv, hu, hap, hbr⟩

set_option maxRecDepth 100000 in
set_option maxHeartbeats 1000000 in
theorem names_24 (T : PT) (ih : ∀ i, i < T.len → NamesSays (T.kid i)) (hk : T.k = 24) : NamesSays T := by
  intro W w v u gs cs hT hbel hbad hv hu hap hn1 hn2
  have hmax := hT.max
  unfold maxLen at hmax
  have HN := hide (And.intro hn1 hn2)
  have HD := hide (And.intro hT (And.intro ih hbad))
  have e21 : (T.k == 21) = false := by rw [beq_eq_false_iff_ne]; omega
  have e22 : (T.k == 22) = false := by rw [beq_eq_false_iff_ne]; omega
  have e23 : (T.k == 23) = false := by rw [beq_eq_false_iff_ne]; omega
  have e24 : (T.k == 24) = true := by rw [beq_iff_eq]; omega
  have HG := hide (show givN T = [] by unfold givN; rw [if_neg (by omega)])
  have HC := hide (show calN T = [T.nm] by unfold calN; rw [if_pos (by omega)])
  have hk0 := (Below.refl w.heap.size w).alloc (Nat.le_refl _) (.cells #[.int .i64 T.k, .string T.t, .int .i64 T.n, .string T.nm, .slice T.xa T.len T.cap] 24)
  obtain ⟨i0, hi, hz0, hz1, hz2⟩ := info_parts info_str
  have HI := hide (And.intro hi (And.intro hz0 (And.intro hz1 hz2)))
  have HM := hide (named_zero (bad_zero hbad).1 (by omega))
  have HR := hide (And.intro hv (And.intro hu (And.intro hap hbel)))
  have HK := hide hk0
  have hr0 := at_new (w := w) (o := .cells #[.int .i64 T.k, .string T.t, .int .i64 T.n, .string T.nm, .slice T.xa T.len T.cap] 24) rfl
  have HR0 := hide hr0
  clear hi hz0 hz1 hz2 hr0
  clear hT ih hbad hv hu hap hn1 hn2 hbel hk0
  clear hk
  go_enter Tryd.func29, Tryd.ntmps29
  go_wp2_with fail
  refine (clone_any T.nm _ (by have := unhide HM; omega)).mono ?_
  rintro e w1 ⟨rfl, hb1⟩
  have hbw := bnext (unhide HK) hb1
  have HV1 := hide ((unhide HR).1.later hbw)
  have HU1 := hide ((unhide HR).2.1.later hbw)
  have HB1 := hide (bnext (unhide HR).2.2.2 hbw)
  have hr1 := row_below (unhide HR0) hb1
  have hlt : w.heap.size < w1.heap.size := (Array.getElem?_eq_some_iff.1 hr1).1
  have c4 : w1.cell? ⟨w.heap.size, 4, none⟩ = some (.slice T.xa T.len T.cap) := (cells5b hr1)
  have HR1 := hide hr1
  clear hb1 hbw hr1
  have hal := (Below.refl w1.heap.size w1).alloc (Nat.le_refl _) (.cells #[.string T.nm] 9)
  have HAL := hide hal
  clear hal
  go_wp2_with (at_builtin; refine wpList_append_own_at _ rfl _ _ 32 rfl W.heap.size 9 i0 (.string ⟨#[]⟩) 1 16 Tryd.underlying32 (unhide HI).1 (unhide HI).2.1 (unhide HI).2.2.1 (unhide HI).2.2.2 rfl (by decide) _ _ _ rfl (by exact ((unhide HU1).later (unhide HAL))) ⟨w1.heap.size, 0, none⟩ 1 1 [.string T.nm] rfl rfl (by exact cell_one_new w1 _ _) (by intro x hx; rw [List.mem_singleton] at hx; subst hx; rfl) (by have := (unhide HN); unfold maxLen; omega) (by have := (unhide HN); omega) (Nat.le_trans (unhide HB1).size (unhide HAL).size) ?_; intro v' w2 hown hgrow _ hat; have HOwn := hide hown; have HGr := hide hgrow; have HAt := hide hat; have c5 : w2.cell? ⟨w.heap.size, 4, none⟩ = some (.slice T.xa T.len T.cap) := (cells5b (kept_row (unhide HGr) (unhide HR).2.1 (Nat.le_refl _) (row_below (unhide HR1) (unhide HAL)))); clear hown hgrow hat)
  have HV := hide (show Own w2 W.heap.size v (gs ++ givN T) by rw [unhide HG, List.append_nil]; exact ((unhide HV1).later (unhide HAL)).other (unhide HGr) (unhide HR).2.2.1.symm)
  have HU := hide (show Own w2 W.heap.size v' (cs ++ calN T) by rw [unhide HC]; have h := unhide HOwn; unfold Own; simpa using h)
  have HAp := hide (show Apart v v' from ((unhide HR).2.2.1.symm.next ((unhide HV1).later (unhide HAL)) (unhide HAt)).symm)
  have HB := hide ((bnext (unhide HB1) (unhide HAL)).grown (unhide HGr) (Nat.le_trans (unhide HB1).size (unhide HAL).size) (fun g hg => (World.ownsRow.lt (unhide HU1) g hg).1))
  go_loopw [1, 2, 33] (fun v1 u1 i wr => ∃ k : Nat, k ≤ T.len ∧ i = .int .i64 (k : Int) ∧ Own wr W.heap.size v1 (gs ++ givN T ++ flatTo (fun i => (T.kid i).giv) k) ∧ Own wr W.heap.size u1 (cs ++ calN T ++ flatTo (fun i => (T.kid i).cal) k) ∧ Apart v1 u1 ∧ Below W.heap.size W wr) (fun _ _ i _ => T.len - (intOf i).toNat)
  case atStart => exact ⟨0, by omega, rfl, by rw [flatTo, List.append_nil]; exact unhide HV, by rw [flatTo, List.append_nil]; exact unhide HU, unhide HAp, unhide HB⟩
  case round =>
    obtain ⟨k, hk, rfl, hv, hu, hap, hbr⟩ := hrel
    rcases Nat.lt_or_ge k T.len with hkt | hkt
    · obtain ⟨hT, ih, hbad⟩ := unhide HD
      obtain ⟨k0, k1, k2, k3, k4⟩ := hT.cells hkt
      have k0 := cell_later hbr k0
      have k1 := cell_later hbr k1
      have k2 := cell_later hbr k2
      have k3 := cell_later hbr k3
      have k4 := cell_later hbr k4
      unfold PT.kv at k4
      have hia := kid_at hT hkt
      have HX := hide (And.intro (hT.kids hkt) ((bad_zero hbad).2 k hkt))
      have HI := hide (ih k hkt W)
      have HR := hide (And.intro hv (And.intro hu (And.intro hap hbr)))
      clear hT ih hbad hv hu hap hbr
      go_wp2_with fail
      have hn := (Below.refl wr.heap.size wr).alloc (Nat.le_refl _) (.cells #[.int .i64 (T.kid k).k, .string (T.kid k).t, .int .i64 (T.kid k).n, .string (T.kid k).nm, .slice (T.kid k).xa (T.kid k).len (T.kid k).cap] 24)
      obtain ⟨hv, hu, hap, hbr⟩ := unhide HR
      refine (unhide HI _ _ _ _ _ (unhide HX).1 (bnext hbr hn) (unhide HX).2 (hv.later hn) (hu.later hn) hap (names_room T hkt (unhide HN)).1 (names_room T hkt (unhide HN)).2).mono ?_
      rintro e w2 ⟨v2, u2, rfl, hv2, hu2, hap2, hb2⟩
      have HR2 := hide (And.intro hv2 (And.intro hu2 (And.intro hap2 hb2)))
      clear hn hv hu hap hbr hv2 hu2 hap2 hb2
      go_wp2_with fail
      go_roundw
      case rel =>
        obtain ⟨hv2, hu2, hap2, hb2⟩ := unhide HR2
        exact ⟨k + 1, by omega, by go_num, by rw [flatTo, ← List.append_assoc]; exact hv2, by rw [flatTo, ← List.append_assoc]; exact hu2, hap2, hb2⟩
      case measure => simp [intOf]; omega
    · have hk' : k = T.len := by omega
      have HR := hide (And.intro hv (And.intro hu (And.intro hap hbr)))
      clear hv hu hap hbr
      go_wp2_with fail
      go_ret2
      obtain ⟨hv, hu, hap, hbr⟩ := unhide HR
      rw [hk', List.append_assoc, ← T.giv_eq] at hv
      rw [hk', List.append_assoc, ← T.cal_eq] at hu
      exact ⟨_, _, rfl, hv, hu, hap, hbr⟩

set_option maxRecDepth 100000 in
set_option maxHeartbeats 1000000 in
theorem names_none (T : PT) (ih : ∀ i, i < T.len → NamesSays (T.kid i)) (hk : T.k < 21 ∨ 24 < T.k) : NamesSays T := by
  intro W w v u gs cs hT hbel hbad hv hu hap hn1 hn2
  have hmax := hT.max
  unfold maxLen at hmax
  have HN := hide (And.intro hn1 hn2)
  have HD := hide (And.intro hT (And.intro ih hbad))
  have e21 : (T.k == 21) = false := by rw [beq_eq_false_iff_ne]; omega
  have e22 : (T.k == 22) = false := by rw [beq_eq_false_iff_ne]; omega
  have e23 : (T.k == 23) = false := by rw [beq_eq_false_iff_ne]; omega
  have e24 : (T.k == 24) = false := by rw [beq_eq_false_iff_ne]; omega
  have HG := hide (show givN T = [] by unfold givN; rw [if_neg (by omega)])
  have HC := hide (show calN T = [] by unfold calN; rw [if_neg (by omega)])
  have hk0 := (Below.refl w.heap.size w).alloc (Nat.le_refl _) (.cells #[.int .i64 T.k, .string T.t, .int .i64 T.n, .string T.nm, .slice T.xa T.len T.cap] 24)
  have HV := hide (show Own (w.alloc (.cells #[.int .i64 T.k, .string T.t, .int .i64 T.n, .string T.nm, .slice T.xa T.len T.cap] 24)) W.heap.size v (gs ++ givN T) by rw [unhide HG, List.append_nil]; exact hv.later hk0)
  have HU := hide (show Own (w.alloc (.cells #[.int .i64 T.k, .string T.t, .int .i64 T.n, .string T.nm, .slice T.xa T.len T.cap] 24)) W.heap.size u (cs ++ calN T) by rw [unhide HC, List.append_nil]; exact hu.later hk0)
  have HAp := hide hap
  have HB := hide (bnext hbel hk0)
  clear hT ih hbad hv hu hap hn1 hn2 hbel hk0
  clear hk
  go_enter Tryd.func29, Tryd.ntmps29
  go_wp2_with fail
  go_loopw [1, 2, 33] (fun v1 u1 i wr => ∃ k : Nat, k ≤ T.len ∧ i = .int .i64 (k : Int) ∧ Own wr W.heap.size v1 (gs ++ givN T ++ flatTo (fun i => (T.kid i).giv) k) ∧ Own wr W.heap.size u1 (cs ++ calN T ++ flatTo (fun i => (T.kid i).cal) k) ∧ Apart v1 u1 ∧ Below W.heap.size W wr) (fun _ _ i _ => T.len - (intOf i).toNat)
  case atStart => exact ⟨0, by omega, rfl, by rw [flatTo, List.append_nil]; exact unhide HV, by rw [flatTo, List.append_nil]; exact unhide HU, unhide HAp, unhide HB⟩
  case round =>
    obtain ⟨k, hk, rfl, hv, hu, hap, hbr⟩ := hrel
    rcases Nat.lt_or_ge k T.len with hkt | hkt
    · obtain ⟨hT, ih, hbad⟩ := unhide HD
      obtain ⟨k0, k1, k2, k3, k4⟩ := hT.cells hkt
      have k0 := cell_later hbr k0
      have k1 := cell_later hbr k1
      have k2 := cell_later hbr k2
      have k3 := cell_later hbr k3
      have k4 := cell_later hbr k4
      unfold PT.kv at k4
      have hia := kid_at hT hkt
      have HX := hide (And.intro (hT.kids hkt) ((bad_zero hbad).2 k hkt))
      have HI := hide (ih k hkt W)
      have HR := hide (And.intro hv (And.intro hu (And.intro hap hbr)))
      clear hT ih hbad hv hu hap hbr
      go_wp2_with fail
      have hn := (Below.refl wr.heap.size wr).alloc (Nat.le_refl _) (.cells #[.int .i64 (T.kid k).k, .string (T.kid k).t, .int .i64 (T.kid k).n, .string (T.kid k).nm, .slice (T.kid k).xa (T.kid k).len (T.kid k).cap] 24)
      obtain ⟨hv, hu, hap, hbr⟩ := unhide HR
      refine (unhide HI _ _ _ _ _ (unhide HX).1 (bnext hbr hn) (unhide HX).2 (hv.later hn) (hu.later hn) hap (names_room T hkt (unhide HN)).1 (names_room T hkt (unhide HN)).2).mono ?_
      rintro e w2 ⟨v2, u2, rfl, hv2, hu2, hap2, hb2⟩
      have HR2 := hide (And.intro hv2 (And.intro hu2 (And.intro hap2 hb2)))
      clear hn hv hu hap hbr hv2 hu2 hap2 hb2
      go_wp2_with fail
      go_roundw
      case rel =>
        obtain ⟨hv2, hu2, hap2, hb2⟩ := unhide HR2
        exact ⟨k + 1, by omega, by go_num, by rw [flatTo, ← List.append_assoc]; exact hv2, by rw [flatTo, ← List.append_assoc]; exact hu2, hap2, hb2⟩
      case measure => simp [intOf]; omega
    · have hk' : k = T.len := by omega
      have HR := hide (And.intro hv (And.intro hu (And.intro hap hbr)))
      clear hv hu hap hbr
      go_wp2_with fail
      go_ret2
      obtain ⟨hv, hu, hap, hbr⟩ := unhide HR
      rw [hk', List.append_assoc, ← T.giv_eq] at hv
      rw [hk', List.append_assoc, ← T.cal_eq] at hu
      exact ⟨_, _, rfl, hv, hu, hap, hbr⟩

theorem names_step (T : PT) (ih : ∀ i, i < T.len → NamesSays (T.kid i)) : NamesSays T := by
  have h : T.k = 21 ∨ T.k = 22 ∨ T.k = 23 ∨ T.k = 24 ∨ (T.k < 21 ∨ 24 < T.k) := by omega
  rcases h with h | h | h | h | h
  · exact names_21 T ih h
  · exact names_22 T ih h
  · exact names_23 T ih h
  · exact names_24 T ih h
  · exact names_none T ih h
theorem names_any : ∀ T : PT, NamesSays T := PT.ind names_step
end Go.Proofs.YtffapdilojbagaaDoor
