/- What spans, breaks and BREAKX tell. -/
import Derived.Test.YtkphpcgmfkhpnaaDoorLaw5Base
import Derived.Test.YtkphpcgmfkhpnaaDoorShapes4
import Derived.Deep.DeepHandedRow
import Derived.Stop.LaidErr
import Derived.Deep.CutBlock
namespace Go.Proofs.YtkphpcgmfkhpnaaDoor
open Go.RowKit

theorem unt_before (s t : ByteArray) (want : Bool) : ∀ (n i x : Nat), s.size - i ≤ n → i ≤ x → x < unt s t want i → inB t (byt s x) = !want
  | 0, i, x, h, h1, h2 => by rw [unt_end s t want (by omega)] at h2; omega
  | n + 1, i, x, h, h1, h2 => by
    rcases Nat.lt_or_ge i s.size with h3 | h3
    · rw [unt_step s t want h3] at h2
      split at h2
      · omega
      · rename_i h4
        rcases Nat.eq_or_lt_of_le h1 with h5 | h5
        · rw [← h5]
          cases hb : inB t (byt s i) <;> cases want <;> simp_all
        · exact unt_before s t want n (i + 1) x (by omega) h5 h2
    · rw [unt_end s t want h3] at h2; omega
theorem unt_hit (s t : ByteArray) (want : Bool) : ∀ (n i : Nat), s.size - i ≤ n → unt s t want i < s.size → inB t (byt s (unt s t want i)) = want
  | 0, i, h, h1 => by rw [unt_end s t want (by omega)] at h1; omega
  | n + 1, i, h, h1 => by
    rcases Nat.lt_or_ge i s.size with h3 | h3
    · rw [unt_step s t want h3] at h1 ⊢
      split
      · assumption
      · rename_i h4
        rw [if_neg h4] at h1
        exact unt_hit s t want n (i + 1) (by omega) h1
    · rw [unt_end s t want h3] at h1; omega
/-- Where a byte of a text stands. -/
def hits (s t : ByteArray) (i : Nat) : List Nat := (List.range' i (s.size - i)).filter fun x => inB t (byt s x)
theorem hits_none {s t : ByteArray} {i : Nat} (h : s.size ≤ unt s t true i) : hits s t i = [] := by
  unfold hits
  rw [List.filter_eq_nil_iff]
  intro x hx
  rw [List.mem_range'_1] at hx
  rw [unt_before s t true _ i x (Nat.le_refl _) hx.1 (by omega)]
  simp
theorem hits_some {s t : ByteArray} {i : Nat} (h : unt s t true i < s.size) : hits s t i = unt s t true i :: hits s t (unt s t true i + 1) := by
  have hge := unt_ge s t true _ i (Nat.le_refl _)
  have hb : ∀ x, i ≤ x → x < unt s t true i → inB t (byt s x) = !true := fun x => unt_before s t true _ i x (Nat.le_refl _)
  have hh := unt_hit s t true _ i (Nat.le_refl _) h
  generalize unt s t true i = u at *
  have hsp : List.range' i (s.size - i) = List.range' i (u - i) ++ (u :: List.range' (u + 1) (s.size - (u + 1))) := by
    have h1 : (u :: List.range' (u + 1) (s.size - (u + 1))) = List.range' u (s.size - (u + 1) + 1) := rfl
    have h2 := List.range'_append_1 (s := i) (m := u - i) (n := s.size - (u + 1) + 1)
    rw [show i + (u - i) = u by omega, show u - i + (s.size - (u + 1) + 1) = s.size - i by omega] at h2
    rw [h1, h2]
  unfold hits
  rw [hsp, List.filter_append, List.filter_cons, if_pos hh]
  have h3 : (List.range' i (u - i)).filter (fun x => inB t (byt s x)) = [] := by
    rw [List.filter_eq_nil_iff]
    intro x hx
    rw [List.mem_range'_1] at hx
    rw [hb x hx.1 (by omega)]
    simp
  rw [h3, List.nil_append]
theorem bxs_prs (s t : ByteArray) (g : List Gft) : ∀ (n i : Nat), s.size - i ≤ n → prsW (bxs s t g n i).1 = (hits s t i).map fun e => (e, g)
  | 0, i, h => by
    rw [bxs, hits_none (by rw [unt_end s t true (by omega)]; omega)]; rfl
  | n + 1, i, h => by
    have hge := unt_ge s t true _ i (Nat.le_refl _)
    rw [bxs]
    split
    · rename_i h1
      rw [hits_some h1, List.map_cons, ← bxs_prs s t g n (unt s t true i + 1) (by omega)]
      show prsW (hs :: wy (unt s t true i) g :: (bxs s t g n (unt s t true i + 1)).1) = _
      rw [prsW_cons, if_neg (by decide), prsW_cons, if_pos (show (wy (unt s t true i) g).w = 3 from rfl)]
      rfl
    · rename_i h1
      rw [hits_none (by omega)]; rfl
theorem bxs_tks (s t : ByteArray) (g : List Gft) : ∀ (n i : Nat), tks (bxs s t g n i).1 = 0
  | 0, i => rfl
  | n + 1, i => by
    rw [bxs]
    split
    · show tks (hs :: wy (unt s t true i) g :: (bxs s t g n (unt s t true i + 1)).1) = 0
      rw [tks_cons, tks_cons, bxs_tks s t g n (unt s t true i + 1), if_neg (by decide), if_neg (show ¬ (wy (unt s t true i) g).w = 0 by show ¬ (3 : Nat) = 0; decide)]
    · rfl
theorem hits_len (s t : ByteArray) (i : Nat) : (hits s t i).length ≤ s.size - i := by
  have := List.length_filter_le (fun x => inB t (byt s x)) (List.range' i (s.size - i))
  rw [List.length_range'] at this
  exact this
theorem told_breakx (dg : Nat → ByteArray) (t s : ByteArray) (i : Nat) (hz : s.size ≤ 3000) : told dg (leaf 7 0 t) s i 4096 20000 = ((hits s t i).map fun e => (e, []), 0) := by
  have h7 : (leaf 7 0 t).k = 7 := rfl
  have hD : D s noRules dg (20000 + 1) (leaf 7 0 t) i [] = put tk (bxs s t [] (s.size + 1 - i) i) := by
    rw [D, if_neg (by rw [h7]; decide), if_neg (by rw [h7]; decide), if_neg (by rw [h7]; decide), if_neg (by rw [h7]; decide), if_neg (by rw [h7]; decide), if_pos h7]; rfl
  have hp : prsW (put tk (bxs s t [] (s.size + 1 - i) i)).1 = (hits s t i).map fun e => (e, []) := by
    show prsW (tk :: _) = _
    rw [prsW_cons, if_neg (by decide), bxs_prs s t [] _ i (by omega)]
  have hl := hits_len s t i
  unfold told
  rw [hD, tld_all, hp]
  · show (_, (bxs _ _ _ _ _).2) = _
    rw [bxs_end]
  · show tks (tk :: _) ≤ _
    rw [tks_tk, bxs_tks]; omega
  · rw [hp, List.length_map]; omega
/-- How many stand ahead of a place. -/
def hup (s t : ByteArray) (i e : Nat) : Nat := ((List.range' i (e - i)).filter fun x => inB t (byt s x)).length
theorem hup_first (s t : ByteArray) (i : Nat) : hup s t i i = 0 := by unfold hup; rw [Nat.sub_self]; rfl
theorem hup_step {s t : ByteArray} {i e : Nat} (h1 : i ≤ e) : hup s t i (e + 1) = hup s t i e + (if inB t (byt s e) = true then 1 else 0) := by
  unfold hup
  have h2 := List.range'_append_1 (s := i) (m := e - i) (n := 1)
  rw [show i + (e - i) = e by omega, show e - i + 1 = e + 1 - i by omega] at h2
  rw [← h2, List.filter_append, List.length_append]
  congr 1
  show (List.filter _ [e]).length = _
  rw [List.filter_cons]
  split <;> rfl
theorem hup_last (s t : ByteArray) (i : Nat) : hup s t i s.size = (hits s t i).length := rfl
theorem hits_at {s t : ByteArray} {i e : Nat} (h1 : i ≤ e) (h2 : e < s.size) (hb : inB t (byt s e) = true) : (hits s t i)[hup s t i e]? = some e := by
  have hsp : List.range' i (s.size - i) = List.range' i (e - i) ++ (e :: List.range' (e + 1) (s.size - (e + 1))) := by
    have h3 : (e :: List.range' (e + 1) (s.size - (e + 1))) = List.range' e (s.size - (e + 1) + 1) := rfl
    have h4 := List.range'_append_1 (s := i) (m := e - i) (n := s.size - (e + 1) + 1)
    rw [show i + (e - i) = e by omega, show e - i + (s.size - (e + 1) + 1) = s.size - i by omega] at h4
    rw [h3, h4]
  unfold hits hup
  rw [hsp, List.filter_append, List.filter_cons, if_pos hb, List.getElem?_append_right (Nat.le_refl _), Nat.sub_self]
  rfl
/-- The first one, if it is ahead of a place. -/
def fstX (s t : ByteArray) (i e : Nat) : Int := if unt s t true i < e then (unt s t true i : Int) else -1
theorem fstX_miss {s t : ByteArray} {i e : Nat} (h2 : e < s.size) (hb : inB t (byt s e) = false) : fstX s t i (e + 1) = fstX s t i e := by
  have hne : unt s t true i ≠ e := fun h => by
    have := unt_hit s t true _ i (Nat.le_refl _) (by omega)
    rw [h, hb] at this
    cases this
  unfold fstX
  by_cases h : unt s t true i < e
  · rw [if_pos h, if_pos (by omega)]
  · rw [if_neg h, if_neg (by omega)]
theorem fstX_hit {s t : ByteArray} {i e : Nat} (h1 : i ≤ e) (hb : inB t (byt s e) = true) : unt s t true i ≤ e := by
  rcases Nat.lt_or_ge e (unt s t true i) with h | h
  · have := unt_before s t true _ i e (Nat.le_refl _) h1 h
    rw [hb] at this
    cases this
  · exact h

theorem text_wrong (k : Int) {t : ByteArray} (hk : k = 5 ∨ k = 6 ∨ k = 7) (ht : 0 < t.size ∧ t.size ≤ 65536) : (leaf k 0 t).wrong = 0 := by
  rw [leaf_wrong]
  unfold errN
  rcases hk with rfl | rfl | rfl
  · rw [if_neg (by show ¬ ((5 : Int) < 1 ∨ (24 : Int) < 5); decide), if_neg (fun h => by have : 65536 < t.size := h.2; omega), if_neg (fun h => by have : t.size = 0 := h.2.2; omega), if_neg (fun h => absurd h.1 (by show ¬ hasK 5 = 2; decide)), if_neg (fun h => absurd h.1 (by show ¬ hasK 5 = 3; decide)), if_neg (by show ¬ (((0 : Nat) : Int) < leastK 5 ∨ mostK 5 < ((0 : Nat) : Int)); decide)]
  · rw [if_neg (by show ¬ ((6 : Int) < 1 ∨ (24 : Int) < 6); decide), if_neg (fun h => by have : 65536 < t.size := h.2; omega), if_neg (fun h => by have : t.size = 0 := h.2.2; omega), if_neg (fun h => absurd h.1 (by show ¬ hasK 6 = 2; decide)), if_neg (fun h => absurd h.1 (by show ¬ hasK 6 = 3; decide)), if_neg (by show ¬ (((0 : Nat) : Int) < leastK 6 ∨ mostK 6 < ((0 : Nat) : Int)); decide)]
  · rw [if_neg (by show ¬ ((7 : Int) < 1 ∨ (24 : Int) < 7); decide), if_neg (fun h => by have : 65536 < t.size := h.2; omega), if_neg (fun h => by have : t.size = 0 := h.2.2; omega), if_neg (fun h => absurd h.1 (by show ¬ hasK 7 = 2; decide)), if_neg (fun h => absurd h.1 (by show ¬ hasK 7 = 3; decide)), if_neg (by show ¬ (((0 : Nat) : Int) < leastK 7 ∨ mostK 7 < ((0 : Nat) : Int)); decide)]
theorem all_text (k : Int) (t s : ByteArray) (i : Int) (W : World) (hS : Shapes W) (hs : s.size ≤ maxLen) (hk : k = 5 ∨ k = 6 ∨ k = 7) (ht : 0 < t.size ∧ t.size ≤ 65536) :
    Calls Tryd.prog 10 #[.slice none 0 0, pv (leaf k 0 t), .string s, .int .i64 i] W (AllPost (waysOf (fun _ => ⟨#[]⟩) (leaf k 0 t) s i 4096 20000) W) :=
  all_none (fun _ => 0) _ _ s i W (leaf_in (by omega) (by omega) (by unfold maxLen; omega)) hS hs (fun _ => ⟨(by show 1 ≤ 100000; omega), leaf_bare (by omega), leaf_fine ⟨by omega, fun _ => ht.2, by omega, by omega, by omega⟩⟩)
theorem nonempty_size {t : ByteArray} (h : t.toList.isEmpty = false) : 0 < t.size := by
  rcases Nat.eq_zero_or_pos t.size with h0 | h0
  · have : t = ⟨#[]⟩ := by
      obtain ⟨a⟩ := t
      congr 1
      exact Array.size_eq_zero_iff.1 h0
    rw [this, ByteArray.toList_eq] at h
    cases h
  · exact h0
theorem shapes_spans {w : World} (h : laidMetH Tryd.prog Rows.scanSpansRow.laid w) : Shapes w := by
  have e : (Rows.scanSpansRow.laid.filter fun x => x.2.handleName?.isSome) = [] := by kernel_rfl
  have h' : laidMet Tryd.prog Rows.scanSpansRow.laid w := by
    have hp := h
    unfold laidMetH at hp
    rw [e] at hp
    exact hp
  exact shapes_of (rest := []) (laidMet.tail (laidMet.tail (laidMet.tail h')))
/-- Is a byte among the first ones of a text? -/
theorem inB_at {t : ByteArray} {b k : Nat} (hk : k < t.size) (h : byt t k = b) : inB t b = true := by
  unfold inB
  rw [List.any_eq_true]
  refine ⟨t.data.toList.getD k 0, ?_, ?_⟩
  · rw [List.getD_eq_getElem?_getD, List.getElem?_eq_getElem (by rw [Array.length_toList]; exact hk)]
    exact List.getElem_mem _
  · rw [beq_iff_eq]; exact h
theorem inB_not {t : ByteArray} {b : Nat} (h : ∀ k, k < t.size → byt t k ≠ b) : inB t b = false := by
  unfold inB
  rw [List.any_eq_false]
  intro x hx
  obtain ⟨k, hk, rfl⟩ := List.getElem_of_mem hx
  have hk' : k < t.size := by rw [Array.length_toList] at hk; exact hk
  have := h k hk'
  unfold byt at this
  rw [List.getD_eq_getElem?_getD, List.getElem?_eq_getElem hk] at this
  simpa using this

set_option maxRecDepth 100000 in
set_option maxHeartbeats 1000000 in
theorem lawHas_any (t : ByteArray) (b : Nat) (_hb : b < 256) (w : World) (ht : t.size ≤ 65536) :
    Calls Tryd.prog 11 #[.string t, .int .u8 (b : Int)] w fun e w' => e = .returned (.bool (inB t b)) ∧ w' = w := by
  obtain ⟨r, hr⟩ : ∃ r, r = inB t b := ⟨_, rfl⟩
  rw [← hr]
  have HR := hide hr
  clear hr
  go_enter Tryd.func11, Tryd.ntmps11
  go_wp2_with fail
  go_loop [5] (fun i => ∃ k : Nat, k ≤ t.size ∧ i = .int .i64 (k : Int) ∧ Hid (∀ j, j < k → byt t j ≠ b)) (fun i => t.size - (intOf i).toNat)
  case atStart => exact ⟨0, Nat.zero_le _, rfl, fun j hj => by omega⟩
  case round =>
    obtain ⟨k, hk, rfl, HK⟩ := hrel
    rcases Nat.lt_or_ge k t.size with hlt | hge
    · have h1 : (k : Int) < (t.size : Int) := by omega
      have HB := hide (byt_at t k hlt)
      have hw : wrap64 ((k : Int) + 1) = (k : Int) + 1 := IntWalk.wrap64_in _ (by omega)
      have HW := hide hw
      clear hw
      by_cases hc : byt t k = b
      · have hc' : ((((t[k]).toNat : Int)) == (b : Int)) = true := by rw [unhide HB, hc]; simp
        have H2 := hide (show r = true by rw [unhide HR]; exact inB_at hlt hc)
        clear hc
        go_wp2_with fail
        go_ret
        exact ⟨(by rw [unhide H2]; rfl), rfl⟩
      · have hc' : ((((t[k]).toNat : Int)) == (b : Int)) = false := by rw [unhide HB, beq_eq_false_iff_ne]; omega
        have H2 := hide (show ∀ j, j < k + 1 → byt t j ≠ b from fun j hj => by
          rcases Nat.lt_or_ge j k with h | h
          · exact unhide HK j h
          · rw [show j = k by omega]; exact hc)
        clear hc HK
        go_wp2_with fail
        exact ⟨⟨k + 1, by omega, by first | rfl | (rw [unhide HW]; rfl) | go_num, H2⟩, by first | (simp [intOf]; omega) | (rw [unhide HW]; simp [intOf]; omega)⟩
    · have h1 : ¬ (k : Int) < (t.size : Int) := by omega
      have H2 := hide (show r = false by rw [unhide HR]; exact inB_not (fun j hj => unhide HK j (by omega)))
      clear HK
      go_wp2_with fail
      go_ret
      exact ⟨(by rw [unhide H2]; rfl), rfl⟩
/-- The walk. -/
theorem spans_words {t s : ByteArray} {j : Nat} (ht : 0 < t.size ∧ t.size ≤ 65536) (hz : s.size ≤ 3000) (hj : j ≤ s.size) :
    waysOf (fun _ => ⟨#[]⟩) (leaf 5 0 t) s (j : Int) 4096 20000 = ((if j < unt s t false j then [(unt s t false j, [])] else []), false, 0) ∧
    waysOf (fun _ => ⟨#[]⟩) (leaf 6 0 t) s (j : Int) 4096 20000 = ((if unt s t true j < s.size then [(unt s t true j, [])] else []), false, 0) ∧
    waysOf (fun _ => ⟨#[]⟩) (leaf 7 0 t) s (j : Int) 4096 20000 = ((hits s t j).map fun e => (e, []), false, 0) := by
  refine ⟨?_, ?_, ?_⟩
  · rw [waysOf_told _ (text_wrong 5 (by omega) ht) (by omega) hj (told_leaf _ s j (by show leafK 5; unfold leafK; decide)) (by decide), show onl s (leaf 5 0 t) j = if j < unt s t false j then some (unt s t false j) else none from rfl]
    by_cases h : j < unt s t false j
    · rw [if_pos h, if_pos h]; rfl
    · rw [if_neg h, if_neg h]; rfl
  · rw [waysOf_told _ (text_wrong 6 (by omega) ht) (by omega) hj (told_leaf _ s j (by show leafK 6; unfold leafK; decide)) (by decide), show onl s (leaf 6 0 t) j = if unt s t true j < s.size then some (unt s t true j) else none from rfl]
    by_cases h : unt s t true j < s.size
    · rw [if_pos h, if_pos h]; rfl
    · rw [if_neg h, if_neg h]; rfl
  · rw [waysOf_told _ (text_wrong 7 (by omega) ht) (by omega) hj (told_breakx _ t s j hz) (by decide)]
    rfl

end Go.Proofs.YtkphpcgmfkhpnaaDoor
