/- Anything ends anywhere, the nearest first; so it is any number of bytes: ScanArb is true of any text and place. -/
import Derived.Test.YtohbkmeomphleaaDoorLaw5Base
import Derived.Test.YtohbkmeomphleaaDoorShapes4
import Derived.Deep.DeepHandedRow
import Derived.Stop.LaidErr
namespace Go.Proofs.YtohbkmeomphleaaDoor
open Go.RowKit

def upFrom (g : List Gft) (i n : Nat) : List (Nat × List Gft) := (List.range' i n).map fun e => (e, g)
theorem upFrom_succ (g : List Gft) (i n : Nat) : upFrom g i (n + 1) = (i, g) :: upFrom g (i + 1) n := rfl
theorem upFrom_len (g : List Gft) (i n : Nat) : (upFrom g i n).length = n := by unfold upFrom; simp
theorem upFrom_at (g : List Gft) : ∀ (n i k : Nat), k < n → (upFrom g i n)[k]? = some (i + k, g)
  | 0, _, _, h => by omega
  | n + 1, i, 0, _ => rfl
  | n + 1, i, k + 1, h => by
    rw [upFrom_succ, List.getElem?_cons_succ, upFrom_at g n (i + 1) k (by omega), show i + 1 + k = i + (k + 1) by omega]
theorem prsW_put {x : Ev} (h : x.w ≠ 3) (q : Sq) : prsW (put x q).1 = prsW q.1 := by
  show prsW (x :: q.1) = _
  rw [prsW_cons, if_neg h]
theorem prsW_putW (e : Nat) (g : List Gft) (q : Sq) : prsW (put (wy e g) q).1 = (e, g) :: prsW q.1 := by
  show prsW (wy e g :: q.1) = _
  rw [prsW_cons, if_pos (show (wy e g).w = 3 from rfl)]; rfl
theorem tks_put (x : Ev) (q : Sq) : tks (put x q).1 = (if x.w = 0 then 1 else 0) + tks q.1 := tks_cons x q.1
theorem arbs_prs (g : List Gft) : ∀ n e, prsW (arbs g n e).1 = upFrom g e n
  | 0, _ => rfl
  | n + 1, e => by rw [arbs, prsW_put (by decide), prsW_putW, arbs_prs g n (e + 1), upFrom_succ]
theorem arbs_tks (g : List Gft) : ∀ n e, tks (arbs g n e).1 = 0
  | 0, _ => rfl
  | n + 1, e => by rw [arbs, tks_put, tks_put, arbs_tks g n (e + 1), if_neg (by decide), if_neg (show ¬ (wy e g).w = 0 by show ¬ (3 : Nat) = 0; decide)]
section
variable (dg : Nat → ByteArray)
theorem told_arb {T : PT} {s : ByteArray} {i : Nat} (h : T.k = 13) (hs : s.size ≤ 1000) (hi : i ≤ s.size) : told dg T s i 4096 20000 = (upFrom [] i (s.size + 1 - i), 0) := by
  unfold told
  rw [D_arb h, tld_all, prsW_put (by decide), arbs_prs]
  · show (_, (arbs _ _ _).2) = _
    rw [arbs_end]
  · rw [tks_put, arbs_tks, if_pos (show tk.w = 0 from rfl)]; omega
  · rw [prsW_put (by decide), arbs_prs, upFrom_len]; omega
end
/-- Any number of bytes, as it lies in memory. -/
def arbno1 (b : Nat) : PT := ⟨20, ⟨#[]⟩, 0, ⟨#[]⟩, some ⟨b, 0, none⟩, b, 0, 1, 1, fun _ => leaf 2 1 ⟨#[]⟩⟩
theorem arbno1_in {w : World} {b : Nat} (h : w.heap[b]? = some (.cells #[.int .i64 2, .string ⟨#[]⟩, .int .i64 1, .string ⟨#[]⟩, .slice none 0 0] 26 (0, 0))) : (arbno1 b).In w := by
  refine ⟨by decide, (by unfold maxLen; decide), by decide, (by unfold maxLen; decide), (by unfold maxLen; decide), Nat.le_refl _, fun _ => rfl, fun i => ⟨⟨?_, ?_, ?_, ?_, ?_⟩, leaf_in (by decide) (by decide) (by unfold maxLen; decide)⟩⟩
  all_goals
    obtain ⟨i, hi⟩ := i
    obtain rfl : i = 0 := by omega
    rw [cell_of_row _ _ _ _ _ _ h]; rfl
theorem arbno1_wrong (b : Nat) : (arbno1 b).wrong = 0 := by
  unfold PT.wrong
  rw [show (arbno1 b).fits = true from rfl, if_pos rfl]
  rfl
theorem arbno1_fine (b : Nat) : (arbno1 b).cnt ≤ 100000 ∧ Bare (arbno1 b) ∧ Fine (arbno1 b) :=
  ⟨(by show 2 ≤ 100000; omega), ⟨by decide, fun _ => leaf_bare (by decide)⟩, ⟨(by unfold okN; decide), fun _ => leaf_fine (by unfold okN; decide)⟩⟩
theorem len1_some {s : ByteArray} {R : ByteArray → Option PT} {dg : Nat → ByteArray} {n i : Nat} {g : List Gft} (h : i + 1 ≤ s.size) : D s R dg (n + 1) (leaf 2 1 ⟨#[]⟩) i g = put tk (one (wy (i + 1) g)) := by
  rw [D_leaf (by show leafK 2; unfold leafK; decide), show onl s (leaf 2 1 ⟨#[]⟩) i = if i + 1 ≤ s.size then some (i + 1) else none from rfl, if_pos h]
theorem len1_none {s : ByteArray} {R : ByteArray → Option PT} {dg : Nat → ByteArray} {n i : Nat} {g : List Gft} (h : ¬ i + 1 ≤ s.size) : D s R dg (n + 1) (leaf 2 1 ⟨#[]⟩) i g = put tk nil := by
  rw [D_leaf (by show leafK 2; unfold leafK; decide), show onl s (leaf 2 1 ⟨#[]⟩) i = if i + 1 ≤ s.size then some (i + 1) else none from rfl, if_neg h]
theorem agn1 {s : ByteArray} {R : ByteArray → Option PT} {dg : Nat → ByteArray} (b n : Nat) (g : List Gft) : ∀ (k m i : Nat), s.size = i + k → k + 1 ≤ m → prsW (agn (D s R dg (n + 1)) (arbno1 b) m i g).1 = upFrom g i (k + 1) ∧ tks (agn (D s R dg (n + 1)) (arbno1 b) m i g).1 = k + 1 ∧ (agn (D s R dg (n + 1)) (arbno1 b) m i g).2 = 0
  | 0, 0, _, _, h => by omega
  | k + 1, 0, _, _, h => by omega
  | 0, m + 1, i, hs, h => by
    rw [agn, show (arbno1 b).kid 0 = leaf 2 1 ⟨#[]⟩ from rfl, len1_none (by omega), bd_tk, bd_nil]
    refine ⟨?_, ?_, rfl⟩
    · rw [prsW_putW, prsW_put (by decide), prsW_put (by decide)]; rfl
    · rw [tks_put, tks_put, tks_put]; rfl
  | k + 1, m + 1, i, hs, h => by
    obtain ⟨h1, h2, h3⟩ := agn1 (s := s) (R := R) (dg := dg) b n g k m (i + 1) (by omega) (by omega)
    rw [agn, show (arbno1 b).kid 0 = leaf 2 1 ⟨#[]⟩ from rfl, len1_some (by omega), bd_tk, bd_one, if_neg (by omega)]
    refine ⟨?_, ?_, h3⟩
    · rw [prsW_putW, prsW_put (by decide), prsW_put (by decide), prsW_put (by decide), h1, upFrom_succ g i]
    · rw [tks_put, tks_put, tks_put, tks_put, h2, if_neg (show ¬ (wy i g).w = 0 by show ¬ (3 : Nat) = 0; decide), if_neg (by decide), if_pos (by decide)]; omega
theorem told_arbno1 (dg : Nat → ByteArray) {b : Nat} {s : ByteArray} {i : Nat} (hs : s.size ≤ 1000) (hi : i ≤ s.size) : told dg (arbno1 b) s i 4096 20000 = (upFrom [] i (s.size + 1 - i), 0) := by
  obtain ⟨h1, h2, h3⟩ := agn1 (s := s) (R := noRules) (dg := dg) b 19999 [] (s.size - i) 20000 i (by omega) (by omega)
  have hD : D s noRules dg (20000 + 1) (arbno1 b) i [] = put tk (agn (D s noRules dg (19999 + 1)) (arbno1 b) 20000 i []) := by
    have hk : (arbno1 b).k = 20 := rfl
    rw [D, if_neg (by rw [hk]; decide), if_neg (by rw [hk]; decide), if_pos hk]
  unfold told
  rw [hD, tld_all, prsW_put (by decide), h1, show s.size - i + 1 = s.size + 1 - i by omega]
  · show (_, (agn _ _ _ _ _).2) = _
    rw [h3]
  · rw [tks_put, h2, if_pos (show tk.w = 0 from rfl)]; omega
  · rw [prsW_put (by decide), h1, upFrom_len]; omega

theorem shapes_arb {w : World} (h : laidMetH Tryd.prog Rows.scanArbRow.laid w) : Shapes w := by
  have e : (Rows.scanArbRow.laid.filter fun x => x.2.handleName?.isSome) = [] := by kernel_rfl
  have h' : laidMet Tryd.prog Rows.scanArbRow.laid w := by
    have hp := h
    unfold laidMetH at hp
    rw [e] at hp
    exact hp
  exact shapes_of (rest := []) (laidMet.tail (laidMet.tail (laidMet.tail h')))

set_option maxRecDepth 100000 in
set_option maxHeartbeats 1000000 in
theorem scanArb_walk (s : ByteArray) (i : Int) (w1 : s.size ≤ maxLen) (_w0 : (Lit.int .i64 i).wf = true) (w : World) (hS : Shapes w) :
    Calls Tryd.prog 5 #[.string s, .int .i64 i] w fun e w' => e = .returned (.bool true) ∧ Below w.heap.size w w' := by
  have HA := hide (alive5 w hS)
  have hs := w1
  unfold maxLen at hs
  rcases (show i < 0 ∨ (¬ i < 0 ∧ (s.size : Int) < i) ∨ (¬ i < 0 ∧ ¬ (s.size : Int) < i ∧ (1000 : Int) < (s.size : Int)) ∨ (0 ≤ i ∧ i ≤ (s.size : Int) ∧ s.size ≤ 1000) by omega) with h | ⟨h, h1⟩ | ⟨h, h1, h2⟩ | ⟨h, h1, h2⟩
  · clear hS w1
    go_enter Tryd.func5, Tryd.ntmps5
    go_wp2_with (go_at_call 7; refine (unhide HA).mono ?_; rintro e w1 ⟨rfl, hb1⟩)
    go_ret
    exact ⟨rfl, hb1⟩
  · clear hS w1
    go_enter Tryd.func5, Tryd.ntmps5
    go_wp2_with (go_at_call 7; refine (unhide HA).mono ?_; rintro e w1 ⟨rfl, hb1⟩)
    go_ret
    exact ⟨rfl, hb1⟩
  · clear hS w1
    go_enter Tryd.func5, Tryd.ntmps5
    go_wp2_with (go_at_call 7; refine (unhide HA).mono ?_; rintro e w1 ⟨rfl, hb1⟩)
    go_ret
    exact ⟨rfl, hb1⟩
  · obtain ⟨j, rfl⟩ : ∃ j : Nat, i = j := ⟨i.toNat, by omega⟩
    have hj : j ≤ s.size := by omega
    have hl13 : (leaf 13 0 ⟨#[]⟩).wrong = 0 ∧ ((leaf 13 0 ⟨#[]⟩).cnt ≤ 100000 ∧ Bare (leaf 13 0 ⟨#[]⟩) ∧ Fine (leaf 13 0 ⟨#[]⟩)) := ⟨(by rw [leaf_wrong]; decide), (by show 1 ≤ 100000; omega), leaf_bare (by decide), leaf_fine (by unfold okN; decide)⟩
    have hin : ∀ W, (leaf 13 0 ⟨#[]⟩).In W := fun W => leaf_in (by decide) (by decide) (by unfold maxLen; decide)
    have hwa : waysOf (fun _ => ⟨#[]⟩) (leaf 13 0 ⟨#[]⟩) s (j : Int) 4096 20000 = (upFrom [] j (s.size + 1 - j), false, 0) := by
      rw [waysOf_told _ hl13.1 (by omega) hj (told_arb _ rfl h2 hj) (by decide)]; rfl
    have hwb : ∀ b, waysOf (fun _ => ⟨#[]⟩) (arbno1 b) s (j : Int) 4096 20000 = (upFrom [] j (s.size + 1 - j), false, 0) := fun b => by
      rw [waysOf_told _ (arbno1_wrong b) (by omega) hj (told_arbno1 _ h2 hj) (by decide)]; rfl
    have HL1 := hide (fun W (h' : Below w.heap.size w W) => all_none (fun _ => 0) (fun _ => ⟨#[]⟩) (leaf 13 0 ⟨#[]⟩) s (j : Int) W (hin W) (hS.later h') w1 (fun _ => hl13.2))
    rw [hwa] at HL1
    have HL2 := hide (fun W b (h' : Below w.heap.size w W) (hb : (arbno1 b).In W) => alike_same (fun _ => 0) (fun _ => ⟨#[]⟩) (leaf 13 0 ⟨#[]⟩) (arbno1 b) s (j : Int) W (hin W) hb (hS.later h') w1 (fun _ => hl13.2) (fun _ => arbno1_fine b) (fun _ _ => by rw [hwa, hwb b]; exact ⟨rfl, rfl⟩) (by rw [hwa]; intro x hx; obtain ⟨y, -, rfl⟩ := List.mem_map.1 hx; rfl))
    have hok : allOk (upFrom [] j (s.size + 1 - j), false, 0) = true := by unfold allOk; rw [upFrom_len]; simp; omega
    have HOK := hide hok
    have hw1 : wrap64 ((s.size : Int) - (j : Int)) = (s.size : Int) - (j : Int) := IntWalk.wrap64_in _ (by omega)
    have hw2 : wrap64 ((s.size : Int) - (j : Int) + 1) = (s.size : Int) - (j : Int) + 1 := IntWalk.wrap64_in _ (by omega)
    have q1 : ¬ (j : Int) < 0 := by omega
    have q2 : ¬ (s.size : Int) < (j : Int) := by omega
    have q3 : ¬ (1000 : Int) < (s.size : Int) := by omega
    clear hS h h1 hs hok hl13 hin hwa hwb w1 _w0
    go_enter Tryd.func5, Tryd.ntmps5
    go_wp2_with fail
    refine (unhide HA).mono ?_
    rintro e w1 ⟨rfl, hb1⟩
    have HB1 := hide hb1
    clear hb1 HA
    go_wp2_with fail
    refine (some_any 13 0 ⟨#[]⟩ w1).mono ?_
    rintro e w2 ⟨rfl, hb2⟩
    have HB2 := hide (bnext (unhide HB1) hb2)
    clear hb2 HB1
    go_wp2_with fail
    refine (unhide HL1 w2 (unhide HB2)).mono ?_
    rintro e w3 ⟨v, L, rfl, hL, hb3, hr⟩
    rw [unhide HOK]
    have HB3 := hide (bnext (unhide HB2) hb3)
    have hlen : L.length = s.size + 1 - j := by have := congrArg List.length hr; rw [List.length_map] at this; rw [this]; exact upFrom_len _ _ _
    obtain ⟨g, cap, hv, hcap, -⟩ := hL.row.form (by intro e; rw [e] at hlen; simp at hlen; omega)
    have HL3 := hide (And.intro hL (And.intro hr hv))
    rw [hlen] at hv hcap
    subst hv
    have hle : ((s.size + 1 - j : Nat) : Int) = (s.size : Int) - (j : Int) + 1 := by omega
    clear hL hr hb3 HB2 HL1
    dsimp only
    go_wp2_with fail
    go_loopw [50] (fun x wr => ∃ k : Nat, k ≤ s.size + 1 - j ∧ x = .int .i64 (k : Int) ∧ Below w3.heap.size w3 wr) (fun x _ => s.size + 1 - j - (intOf x).toNat)
    case atStart => exact ⟨0, Nat.zero_le _, rfl, Below.refl _ _⟩
    case round =>
      obtain ⟨k, hk, rfl, hb⟩ := hrel
      rcases Nat.lt_or_ge k (s.size + 1 - j) with hlt | hge
      · have hlt' : (k : Int) < ((s.size + 1 - j : Nat) : Int) := by omega
        obtain ⟨hL, hr, hv⟩ := unhide HL3
        obtain ⟨x, hx⟩ : ∃ x, L[k]? = some x := ⟨_, List.getElem?_eq_getElem (by omega)⟩
        have hxy : x.pr = (j + k, []) := by
          have := congrArg (fun l : List (Nat × List Gft) => l[k]?) hr
          simp only [List.getElem?_map, hx, Option.map_some] at this
          rw [upFrom_at _ _ _ _ hlt] at this
          exact Option.some.inj this
        have hto : x.to = j + k := congrArg Prod.fst hxy
        have hxG : x.G = [] := congrArg Prod.snd hxy
        have hrr := hL.row.later hb
        have o0 : wr.cell? ⟨g, k * 2, none⟩ = some (.int .i64 ((j + k : Nat) : Int)) := by have := hrr.cell wyV_len hv hx (k := 0) rfl; rw [hto] at this; exact this
        have o1 : wr.cell? ⟨g, k * 2 + 1, none⟩ = some (.slice x.ga 0 x.gc) := by have := hrr.cell wyV_len hv hx (k := 1) rfl; rw [hxG] at this; exact this
        have i0 := idx_run (g := g) (n := s.size + 1 - j) (cap := cap) Tryd.underlying30 size_way hlt
        have hw3 : wrap64 ((j : Int) + (k : Int)) = (j : Int) + (k : Int) := IntWalk.wrap64_in _ (by omega)
        have hjk : ((j + k : Nat) : Int) = (j : Int) + (k : Int) := by omega
        have hw4 : wrap64 ((k : Int) + 1) = (k : Int) + 1 := IntWalk.wrap64_in _ (by omega)
        have HV := hide hw4
        have HBB := hide hb
        clear hL hr hv hx hxy hto hxG hrr hb hw4
        go_wp2_with fail
        exact ⟨⟨k + 1, by omega, by go_num, (unhide HBB).alloc (unhide HBB).size _⟩, by simp [intOf]; omega⟩
      · have hge' : ¬ (k : Int) < ((s.size + 1 - j : Nat) : Int) := by omega
        have HB4 := hide (bnext (unhide HB3) hb)
        clear hb
        go_wp2_with fail
        refine (some_any 13 0 ⟨#[]⟩ _).mono ?_
        rintro e w5 ⟨rfl, hb5⟩
        have HB5 := hide (bnext (unhide HB4) hb5)
        clear hb5 HB4
        go_wp2_with fail
        refine (some_any 2 1 ⟨#[]⟩ _).mono ?_
        rintro e w6 ⟨rfl, hb6⟩
        have HB6 := hide (bnext (unhide HB5) hb6)
        have HB7 := hide (bnext (unhide HB6) ((Below.refl _ _).alloc (Nat.le_refl _) (.cells #[.int .i64 2, .string ⟨#[]⟩, .int .i64 1, .string ⟨#[]⟩, .slice none 0 0] 26)))
        clear hb6 HB5
        unfold pv leaf
        dsimp only
        go_wp2_with fail
        refine (unhide HL2 _ w6.heap.size (unhide HB7) (arbno1_in (at_new rfl))).mono ?_
        rintro e w8 ⟨rfl, hb8⟩
        have HB8 := hide (bnext (unhide HB7) hb8)
        clear hb8 HB7 HL2
        go_wp2_with fail
        go_ret
        exact ⟨rfl, unhide HB8⟩
end Go.Proofs.YtohbkmeomphleaaDoor
