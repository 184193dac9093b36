/- Brackets in pairs: ScanBal is true of any text and place. -/
import Derived.Test.YtohbkmeomphleaaDoorLaw5Base
import Derived.Test.YtohbkmeomphleaaDoorShapes4
import Derived.Deep.DeepHandedRow
import Derived.Stop.LaidErr
namespace Go.Proofs.YtohbkmeomphleaaDoor
open Go.RowKit

def stp (b : Nat) (d : Int) : Int := if b = 40 then d + 1 else if b = 41 then d - 1 else d
/-- So many bytes from a place on, d brackets open ahead of it: are all in pairs? -/
def blc (s : ByteArray) : Nat → Int → Nat → Bool
  | 0, d, _ => d == 0
  | n + 1, d, i => if stp (byt s i) d < 0 then false else blc s n (stp (byt s i) d) (i + 1)
theorem prd_succ (s : ByteArray) (n : Nat) (d : Int) (i : Nat) : prd s (n + 1) d i = if stp (byt s i) d = 0 then some (i + 1) else if stp (byt s i) d < 0 then none else prd s n (stp (byt s i) d) (i + 1) := rfl
theorem prd_some (s : ByteArray) : ∀ (N : Nat) (d : Int) (i t : Nat), prd s N d i = some t → ∀ n, 1 ≤ n → blc s n d i = if i + n < t then false else blc s (i + n - t) 0 t
  | 0, _, _, _, h, _, _ => by cases h
  | N + 1, d, i, t, h, 0, hn => by omega
  | N + 1, d, i, t, h, n + 1, _ => by
    rw [prd_succ] at h
    rw [blc]
    generalize stp (byt s i) d = d' at h ⊢
    split at h
    · rename_i h0
      injection h with h
      subst h h0
      rw [if_neg (by omega), if_neg (by omega), show i + (n + 1) - (i + 1) = n by omega]
    · rename_i h0
      split at h
      · cases h
      · rename_i h1
        have hgt := prd_gt s N _ _ h
        rw [if_neg h1]
        cases n with
        | zero =>
          rw [blc, if_pos (by omega), beq_eq_false_iff_ne]
          exact h0
        | succ n =>
          rw [prd_some s N d' (i + 1) t h (n + 1) (by omega), show i + 1 + (n + 1) = i + (n + 1 + 1) by omega]
theorem prd_none (s : ByteArray) : ∀ (N : Nat) (d : Int) (i : Nat), prd s N d i = none → ∀ n, 1 ≤ n → n ≤ N → blc s n d i = false
  | 0, _, _, _, _, h1, h2 => by omega
  | N + 1, d, i, h, 0, hn, _ => by omega
  | N + 1, d, i, h, n + 1, _, hN => by
    rw [prd_succ] at h
    rw [blc]
    generalize stp (byt s i) d = d' at h ⊢
    split at h
    · cases h
    · rename_i h0
      split at h
      · rename_i h1
        rw [if_pos h1]
      · rename_i h1
        rw [if_neg h1]
        cases n with
        | zero => rw [blc, beq_eq_false_iff_ne]; exact h0
        | succ n => exact prd_none s N d' (i + 1) h (n + 1) (by omega) (by omega)
/-- Where all between are in pairs. -/
def ends (s : ByteArray) (i : Nat) : List Nat := (List.range' (i + 1) (s.size - i)).filter fun e => blc s (e - i) 0 i
theorem ends_none {s : ByteArray} {i : Nat} (h : prs s i = none) : ends s i = [] := by
  unfold ends
  rw [List.filter_eq_nil_iff]
  intro e he
  rw [List.mem_range'_1] at he
  rw [prd_none s _ _ _ h (e - i) (by omega) (by omega)]
  simp
theorem ends_some {s : ByteArray} {i t : Nat} (h : prs s i = some t) : ends s i = t :: ends s t := by
  have hgt := prs_gt h
  have hsp : List.range' (i + 1) (s.size - i) = List.range' (i + 1) (t - i - 1) ++ (t :: List.range' (t + 1) (s.size - t)) := by
    have h1 : (t :: List.range' (t + 1) (s.size - t)) = List.range' t (s.size - t + 1) := rfl
    have h2 := List.range'_append_1 (s := i + 1) (m := t - i - 1) (n := s.size - t + 1)
    rw [show i + 1 + (t - i - 1) = t by omega, show t - i - 1 + (s.size - t + 1) = s.size - i by omega] at h2
    rw [h1, h2]
  have hb := prd_some s _ _ _ _ h
  unfold ends
  rw [hsp, List.filter_append, List.filter_cons]
  have h1 : (List.range' (i + 1) (t - i - 1)).filter (fun e => blc s (e - i) 0 i) = [] := by
    rw [List.filter_eq_nil_iff]
    intro e he
    rw [List.mem_range'_1] at he
    rw [hb (e - i) (by omega), if_pos (by omega)]
    simp
  have h2 : blc s (t - i) 0 i = true := by rw [hb (t - i) (by omega), if_neg (by omega), show i + (t - i) - t = 0 by omega]; rfl
  rw [h1, if_pos h2, List.nil_append]
  congr 1
  refine List.filter_congr fun e he => ?_
  rw [List.mem_range'_1] at he
  rw [hb (e - i) (by omega), if_neg (by omega), show i + (e - i) - t = e - t by omega]
theorem bls_prs (s : ByteArray) (g : List Gft) : ∀ (n i : Nat), s.size - i ≤ n → prsW (bls s g n i).1 = (ends s i).map fun e => (e, g)
  | 0, i, h => by
    have hp : prs s i = none := by unfold prs; rw [show s.size - i = 0 by omega]; rfl
    rw [bls, ends_none hp]; rfl
  | n + 1, i, h => by
    rw [bls]
    cases hp : prs s i with
    | none => rw [ends_none hp]; rfl
    | some t =>
      have hgt := prs_gt hp
      show prsW (put hs (put (wy t g) (bls s g n t))).1 = _
      rw [ends_some hp, List.map_cons, ← bls_prs s g n t (by omega)]
      show prsW (hs :: wy t g :: (bls s g n t).1) = _
      rw [prsW_cons, if_neg (by decide), prsW_cons, if_pos (show (wy t g).w = 3 from rfl)]
      rfl
theorem bls_tks (s : ByteArray) (g : List Gft) : ∀ (n i : Nat), tks (bls s g n i).1 = 0
  | 0, i => rfl
  | n + 1, i => by
    rw [bls]
    cases hp : prs s i with
    | none => rfl
    | some t =>
      show tks (hs :: wy t g :: (bls s g n t).1) = 0
      rw [tks_cons, tks_cons, bls_tks s g n t, if_neg (by decide), if_neg (show ¬ (wy t g).w = 0 by show ¬ (3 : Nat) = 0; decide)]
theorem ends_len (s : ByteArray) (i : Nat) : (ends s i).length ≤ s.size - i := by
  have := List.length_filter_le (fun e => blc s (e - i) 0 i) (List.range' (i + 1) (s.size - i))
  rw [List.length_range'] at this
  exact this
theorem told_bal (dg : Nat → ByteArray) {T : PT} {s : ByteArray} {i : Nat} (h : T.k = 14) (hs : s.size ≤ 1000) : told dg T s i 4096 20000 = ((ends s i).map fun e => (e, []), 0) := by
  have hD : D s noRules dg (20000 + 1) T i [] = put tk (bls s [] (s.size + 1 - i) i) := by
    rw [D, if_neg (by omega), if_neg (by omega), if_neg (by omega), if_neg (by omega), if_neg (by omega), if_neg (by omega), if_pos h]
  have hp : prsW (put tk (bls s [] (s.size + 1 - i) i)).1 = (ends s i).map fun e => (e, []) := by
    show prsW (tk :: _) = _
    rw [prsW_cons, if_neg (by decide), bls_prs s [] _ i (by omega)]
  have hl := ends_len s i
  unfold told
  rw [hD, tld_all, hp]
  · show (_, (bls _ _ _ _).2) = _
    rw [bls_end]
  · show tks (tk :: _) ≤ _
    rw [tks_tk, bls_tks]; omega
  · rw [hp, List.length_map]; omega
/-- Ends ahead of a place. -/
theorem ends_split {s : ByteArray} {i e : Nat} (h1 : i + 1 ≤ e) (h2 : e ≤ s.size) : ends s i = ((List.range' (i + 1) (e - (i + 1))).filter fun e => blc s (e - i) 0 i) ++ (if blc s (e - i) 0 i = true then [e] else []) ++ ((List.range' (e + 1) (s.size - e)).filter fun e => blc s (e - i) 0 i) := by
  have hsp : List.range' (i + 1) (s.size - i) = List.range' (i + 1) (e - (i + 1)) ++ (e :: List.range' (e + 1) (s.size - e)) := by
    have h3 : (e :: List.range' (e + 1) (s.size - e)) = List.range' e (s.size - e + 1) := rfl
    have h4 := List.range'_append_1 (s := i + 1) (m := e - (i + 1)) (n := s.size - e + 1)
    rw [show i + 1 + (e - (i + 1)) = e by omega, show e - (i + 1) + (s.size - e + 1) = s.size - i by omega] at h4
    rw [h3, h4]
  unfold ends
  rw [hsp, List.filter_append, List.filter_cons, List.append_assoc]
  split <;> rfl
/-- How many ends are ahead of a place. -/
def upto (s : ByteArray) (i e : Nat) : Nat := ((List.range' (i + 1) (e - (i + 1))).filter fun e => blc s (e - i) 0 i).length
theorem upto_first (s : ByteArray) (i : Nat) : upto s i (i + 1) = 0 := by unfold upto; rw [show i + 1 - (i + 1) = 0 by omega]; rfl
theorem upto_step {s : ByteArray} {i e : Nat} (h1 : i + 1 ≤ e) : upto s i (e + 1) = upto s i e + (if blc s (e - i) 0 i = true then 1 else 0) := by
  unfold upto
  have h2 := List.range'_append_1 (s := i + 1) (m := e - (i + 1)) (n := 1)
  rw [show i + 1 + (e - (i + 1)) = e by omega, show e - (i + 1) + 1 = e + 1 - (i + 1) by omega] at h2
  rw [← h2, List.filter_append, List.length_append]
  congr 1
  show (List.filter _ [e]).length = _
  rw [List.filter_cons]
  split <;> rfl
theorem upto_last (s : ByteArray) (i : Nat) (hi : i ≤ s.size) : upto s i (s.size + 1) = (ends s i).length := by unfold upto ends; rw [show s.size + 1 - (i + 1) = s.size - i by omega]
theorem ends_at {s : ByteArray} {i e : Nat} (h1 : i + 1 ≤ e) (h2 : e ≤ s.size) (hb : blc s (e - i) 0 i = true) : (ends s i)[upto s i e]? = some e := by
  rw [ends_split h1 h2, if_pos hb, List.append_assoc]
  unfold upto
  rw [List.getElem?_append_right (Nat.le_refl _), Nat.sub_self]
  rfl

/-- A piece of a text has the same brackets. -/
theorem byt_sub {s : ByteArray} {a b j : Nat} (h : a + j < b) : byt (s.extract a b) j = byt s (a + j) := by
  unfold byt
  congr 1
  rw [ByteArray.data_extract, Array.toList_extract, List.extract_eq_take_drop]
  simp only [List.getD_eq_getElem?_getD]
  rw [List.getElem?_take, if_pos (by omega), List.getElem?_drop]
theorem blc_sub {s : ByteArray} {a b : Nat} : ∀ (n : Nat) (d : Int) (j : Nat), a + j + n ≤ b → blc (s.extract a b) n d j = blc s n d (a + j)
  | 0, _, _, _ => rfl
  | n + 1, d, j, h => by
    rw [blc, blc, byt_sub (by omega), blc_sub n _ (j + 1) (by omega), show a + (j + 1) = a + j + 1 by omega]

set_option maxRecDepth 100000 in
set_option maxHeartbeats 1000000 in
theorem balanced_any (s : ByteArray) (w : World) (hs : s.size ≤ 65536) :
    Calls Tryd.prog 13 #[.string s] w fun e w' => e = .returned (.bool (blc s s.size 0 0)) ∧ Below w.heap.size w w' := by
  have hcv := fun W => run_bytes_of_string (P := Tryd.prog) W 9 49 5 s Tryd.underlying9 Tryd.underlying49 Tryd.underlying5
  obtain ⟨r, hr⟩ : ∃ r, r = blc s s.size 0 0 := ⟨_, rfl⟩
  rw [← hr]
  have HR := hide hr
  clear hr
  go_enter Tryd.func13, Tryd.ntmps13
  go_wp2_with fail
  generalize grownCap w s.size 0 5 = G
  obtain ⟨W0, hW0⟩ : ∃ W0, W0 = (w.alloc (.cells (bytesRow s G) 5 ((bytesRow s G).size, (bytesRow s G).size + 1))).drew := ⟨_, rfl⟩
  rw [← hW0]
  have q2 : W0.heap[w.heap.size]? = some (.cells (bytesRow s G) 5 ((bytesRow s G).size, (bytesRow s G).size + 1)) := by rw [hW0, heap_drew]; exact at_new rfl
  have QB := hide (show Below w.heap.size w W0 by rw [hW0]; exact ((Below.refl _ _).alloc (Nat.le_refl _) _).drew)
  have HB := hide (bytesRow_at s G)
  clear hW0 hcv
  generalize bytesRow s G = R at *
  have Q2 := hide q2
  clear q2
  go_loop [3, 9] (fun dv i => ∃ (d : Int) (k : Nat), k ≤ s.size ∧ dv = .int .i64 d ∧ i = .int .i64 (k : Int) ∧ 0 ≤ d ∧ d ≤ (k : Int) ∧ Hid (r = blc s (s.size - k) d k)) (fun _ i => s.size - (intOf i).toNat)
  case atStart => exact ⟨0, 0, by omega, rfl, rfl, by omega, by omega, HR⟩
  case round =>
    obtain ⟨d, k, hk, rfl, rfl, hd, hdk, HK⟩ := hrel
    rcases Nat.lt_or_ge k s.size with hlt | hge
    · have h1 : (k : Int) < (s.size : Int) := by omega
      have c2 : W0.cell? ⟨w.heap.size, k, none⟩ = some (.int .u8 (byt s k : Int)) := by rw [cell_of_row W0 _ _ _ _ _ (unhide Q2), unhide HB k hlt, ← byt_at s k hlt]; rfl
      have hst := unhide HK
      rw [show s.size - k = (s.size - (k + 1)) + 1 by omega, blc] at hst
      have HS := hide hst
      clear hst HK
      generalize byt s k = b at *
      rcases (show b = 40 ∨ b = 41 ∨ (b ≠ 40 ∧ b ≠ 41) by omega) with rfl | rfl | ⟨hb, hb2⟩
      · have HS2 := hide (show r = blc s (s.size - (k + 1)) (d + 1) (k + 1) by rw [unhide HS, show stp 40 d = d + 1 from rfl, if_neg (by omega)])
        have hw : wrap64 (d + 1) = d + 1 := IntWalk.wrap64_in _ (by omega)
        have h3 : ¬ d + 1 < 0 := by omega
        clear HS
        go_wp2_with fail
        exact ⟨⟨d + 1, k + 1, by omega, rfl, by go_num, by omega, by omega, HS2⟩, by simp [intOf]; omega⟩
      · by_cases h0 : d - 1 < 0
        · have HS2 := hide (show r = false by rw [unhide HS, show stp 41 d = d - 1 from rfl, if_pos h0])
          have hw : wrap64 (d - 1) = d - 1 := IntWalk.wrap64_in _ (by omega)
          clear HS
          go_wp2_with fail
          go_ret
          exact ⟨(by rw [unhide HS2]; rfl), unhide QB⟩
        · have HS2 := hide (show r = blc s (s.size - (k + 1)) (d - 1) (k + 1) by rw [unhide HS, show stp 41 d = d - 1 from rfl, if_neg h0])
          have hw : wrap64 (d - 1) = d - 1 := IntWalk.wrap64_in _ (by omega)
          clear HS
          go_wp2_with fail
          exact ⟨⟨d - 1, k + 1, by omega, rfl, by go_num, by omega, by omega, HS2⟩, by simp [intOf]; omega⟩
      · have HS2 := hide (show r = blc s (s.size - (k + 1)) d (k + 1) by rw [unhide HS, show stp b d = d by unfold stp; rw [if_neg hb, if_neg hb2], if_neg (by omega)])
        have e1 : ((b : Int) == 40) = false := by rw [beq_eq_false_iff_ne]; omega
        have e2 : ((b : Int) == 41) = false := by rw [beq_eq_false_iff_ne]; omega
        have h3 : ¬ d < 0 := by omega
        clear HS hb hb2
        go_wp2_with fail
        exact ⟨⟨d, k + 1, by omega, rfl, by go_num, by omega, by omega, HS2⟩, by simp [intOf]; omega⟩
    · have h1 : ¬ (k : Int) < (s.size : Int) := by omega
      have HS2 := hide (show r = (d == 0) by rw [unhide HK, show s.size - k = 0 by omega, blc])
      clear HK
      go_wp2_with fail
      go_ret
      exact ⟨(by rw [unhide HS2]; rfl), unhide QB⟩

theorem shapes_bal {w : World} (h : laidMetH Tryd.prog Rows.scanBalRow.laid w) : Shapes w := by
  have e : (Rows.scanBalRow.laid.filter fun x => x.2.handleName?.isSome) = [] := by kernel_rfl
  have h' : laidMet Tryd.prog Rows.scanBalRow.laid w := by
    have hp := h
    unfold laidMetH at hp
    rw [e] at hp
    exact hp
  exact shapes_of (rest := []) (laidMet.tail (laidMet.tail (laidMet.tail h')))

set_option maxRecDepth 100000 in
set_option maxHeartbeats 1000000 in
theorem scanBal_walk (s : ByteArray) (i : Int) (w1 : s.size ≤ maxLen) (_w0 : (Lit.int .i64 i).wf = true) (w : World) (hS : Shapes w) :
    Calls Tryd.prog 6 #[.string s, .int .i64 i] w fun e w' => e = .returned (.bool true) ∧ Below w.heap.size w w' := by
  have HA := hide (alive5 w hS)
  have hs := w1
  unfold maxLen at hs
  rcases (show i < 0 ∨ (¬ i < 0 ∧ (s.size : Int) < i) ∨ (¬ i < 0 ∧ ¬ (s.size : Int) < i ∧ (1000 : Int) < (s.size : Int)) ∨ (0 ≤ i ∧ i ≤ (s.size : Int) ∧ s.size ≤ 1000) by omega) with h | ⟨h, h1⟩ | ⟨h, h1, h2⟩ | ⟨h, h1, h2⟩
  · clear hS w1
    go_enter Tryd.func6, Tryd.ntmps6
    go_wp2_with (go_at_call 7; refine (unhide HA).mono ?_; rintro e w1 ⟨rfl, hb1⟩)
    go_ret
    exact ⟨rfl, hb1⟩
  · clear hS w1
    go_enter Tryd.func6, Tryd.ntmps6
    go_wp2_with (go_at_call 7; refine (unhide HA).mono ?_; rintro e w1 ⟨rfl, hb1⟩)
    go_ret
    exact ⟨rfl, hb1⟩
  · clear hS w1
    go_enter Tryd.func6, Tryd.ntmps6
    go_wp2_with (go_at_call 7; refine (unhide HA).mono ?_; rintro e w1 ⟨rfl, hb1⟩)
    go_ret
    exact ⟨rfl, hb1⟩
  · obtain ⟨j, rfl⟩ : ∃ j : Nat, i = j := ⟨i.toNat, by omega⟩
    have hj : j ≤ s.size := by omega
    have hl14 : (leaf 14 0 ⟨#[]⟩).wrong = 0 ∧ ((leaf 14 0 ⟨#[]⟩).cnt ≤ 100000 ∧ Bare (leaf 14 0 ⟨#[]⟩) ∧ Fine (leaf 14 0 ⟨#[]⟩)) := ⟨(by rw [leaf_wrong]; decide), (by show 1 ≤ 100000; omega), leaf_bare (by decide), leaf_fine (by unfold okN; decide)⟩
    have hin : ∀ W, (leaf 14 0 ⟨#[]⟩).In W := fun W => leaf_in (by decide) (by decide) (by unfold maxLen; decide)
    have hwa : waysOf (fun _ => ⟨#[]⟩) (leaf 14 0 ⟨#[]⟩) s (j : Int) 4096 20000 = ((ends s j).map fun e => (e, []), false, 0) := by
      rw [waysOf_told _ hl14.1 (by omega) hj (told_bal _ rfl h2) (by decide)]; rfl
    have HL1 := hide (fun W (h' : Below w.heap.size w W) => all_none (fun _ => 0) (fun _ => ⟨#[]⟩) (leaf 14 0 ⟨#[]⟩) s (j : Int) W (hin W) (hS.later h') w1 (fun _ => hl14.2))
    rw [hwa] at HL1
    have hel := ends_len s j
    have hok : allOk ((ends s j).map (fun e => (e, ([] : List Gft))), false, 0) = true := by unfold allOk; rw [List.length_map]; simp; omega
    have HOK := hide hok
    have hw1 : wrap64 ((j : Int) + 1) = (j : Int) + 1 := IntWalk.wrap64_in _ (by omega)
    have q1 : ¬ (j : Int) < 0 := by omega
    have q2 : ¬ (s.size : Int) < (j : Int) := by omega
    have q3 : ¬ (1000 : Int) < (s.size : Int) := by omega
    clear hS h h1 hs hok hl14 hin hwa w1 _w0
    go_enter Tryd.func6, Tryd.ntmps6
    go_wp2_with fail
    refine (unhide HA).mono ?_
    rintro e w1 ⟨rfl, hb1⟩
    have HB1 := hide hb1
    clear hb1 HA
    go_wp2_with fail
    refine (some_any 14 0 ⟨#[]⟩ w1).mono ?_
    rintro e w2 ⟨rfl, hb2⟩
    have HB2 := hide (bnext (unhide HB1) hb2)
    clear hb2 HB1
    go_wp2_with fail
    refine (unhide HL1 w2 (unhide HB2)).mono ?_
    rintro e w3 ⟨v, L, rfl, hL, hb3, hr⟩
    rw [unhide HOK]
    have HB3 := hide (bnext (unhide HB2) hb3)
    have hlen : L.length = (ends s j).length := by have := congrArg List.length hr; rw [List.length_map] at this; rw [this]; exact List.length_map _
    obtain ⟨a, cap, hv, -, -⟩ := hL.row.len
    have HL3 := hide (And.intro hL (And.intro hr hv))
    rw [hlen] at hv
    subst hv
    clear hL hr hb3 HB2 HL1
    dsimp only
    go_wp2_with fail
    go_loopw [8, 9] (fun x y wr => ∃ e : Nat, j + 1 ≤ e ∧ e ≤ s.size + 1 ∧ x = .int .i64 (upto s j e : Int) ∧ y = .int .i64 (e : Int) ∧ Below w3.heap.size w3 wr) (fun _ y _ => s.size + 1 - (intOf y).toNat)
    case atStart => exact ⟨j + 1, by omega, by omega, by rw [upto_first]; rfl, by simp, Below.refl _ _⟩
    case round =>
      obtain ⟨e, he1, he2, rfl, rfl, hb⟩ := hrel
      rcases Nat.lt_or_ge s.size e with hgt | hle
      · have hx : ¬ (e : Int) ≤ (s.size : Int) := by omega
        have hee : upto s j e = (ends s j).length := by rw [show e = s.size + 1 by omega]; exact upto_last s j hj
        rw [hee]
        have HBB := hide hb
        clear hee hb
        go_wp2_with fail
        go_ret
        exact ⟨by simp, bnext (unhide HB3) (unhide HBB)⟩
      · have hx : (e : Int) ≤ (s.size : Int) := by omega
        have hx1 : (j : Int) ≤ (e : Int) := by omega
        have HBal := hide (fun W => balanced_any (s.extract j e) W (by rw [ByteArray.size_extract]; omega))
        have hbe : blc (s.extract j e) (s.extract j e).size 0 0 = blc s (e - j) 0 j := by
          rw [show (s.extract j e).size = e - j by rw [ByteArray.size_extract]; omega, blc_sub (e - j) 0 0 (by omega), Nat.add_zero]
        rw [hbe] at HBal
        have HBB := hide hb
        have HUp := hide (upto_step (s := s) he1)
        clear hbe hb
        go_wp2_with fail
        refine (unhide HBal _).mono ?_
        rintro e' w5 ⟨rfl, hb5⟩
        have HB5 := hide ((unhide HBB).trans (hb5.mono (unhide HBB).size))
        clear hb5 HBal
        have hw4 : wrap64 ((e : Int) + 1) = (e : Int) + 1 := IntWalk.wrap64_in _ (by omega)
        cases hbb : blc s (e - j) 0 j with
        | false =>
          have HU2 := hide (show upto s j (e + 1) = upto s j e by rw [unhide HUp, hbb]; rfl)
          go_wp2_with fail
          exact ⟨⟨e + 1, by omega, by omega, by rw [unhide HU2], by go_num, unhide HB5⟩, by simp [intOf]; omega⟩
        | true =>
          have HU2 := hide (show upto s j (e + 1) = upto s j e + 1 by rw [unhide HUp, hbb]; rfl)
          obtain ⟨hL, hr, hv⟩ := unhide HL3
          have hat := ends_at he1 hle hbb
          have hul : upto s j e < (ends s j).length := (List.getElem?_eq_some_iff.1 hat).1
          obtain ⟨x, hx⟩ : ∃ x, L[upto s j e]? = some x := ⟨_, List.getElem?_eq_getElem (by omega)⟩
          have hxy : x.pr = (e, []) := by
            have := congrArg (fun l : List (Nat × List Gft) => l[upto s j e]?) hr
            simp only [List.getElem?_map, hx, Option.map_some] at this
            rw [hat] at this
            exact Option.some.inj this
          have hto : x.to = e := congrArg Prod.fst hxy
          obtain ⟨g, c2, hg, -⟩ := hL.row.form (by intro e; rw [e] at hx; simp at hx)
          rw [hv] at hg
          injection hg with hg1 hg2 hg3
          subst hg1 hg3
          have hrr := hL.row.later (unhide HB5)
          have o0 : w5.cell? ⟨g, upto s j e * 2, none⟩ = some (.int .i64 (e : Int)) := by have := hrr.cell wyV_len hv hx (k := 0) rfl; rw [hto] at this; exact this
          have i0 := idx_run (g := g) (n := (ends s j).length) (cap := cap) Tryd.underlying30 size_way hul
          have hlt' : ¬ ((ends s j).length : Int) ≤ (upto s j e : Int) := by omega
          have hw5 : wrap64 ((upto s j e : Int) + 1) = (upto s j e : Int) + 1 := IntWalk.wrap64_in _ (by omega)
          clear hL hr hv hx hxy hto hrr hat hbb HUp
          go_wp2_with fail
          exact ⟨⟨e + 1, by omega, by omega, by rw [unhide HU2]; go_num, by go_num, unhide HB5⟩, by simp [intOf]; omega⟩
end Go.Proofs.YtohbkmeomphleaaDoor
