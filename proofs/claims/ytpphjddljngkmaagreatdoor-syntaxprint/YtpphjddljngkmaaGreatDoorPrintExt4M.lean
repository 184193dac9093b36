/- The document's Text of an expression: plain; operator. The document's Text of an expression. Statements that are written are read: the whole line. The document's commas. Rows of bytes that are appended to: nothing else changes, and where the new row lies. -/
import Derived.Test.YtpphjddljngkmaaGreatDoorYBigTwinM
import Derived.Test.YtpphjddljngkmaaGreatDoorYRefBaseM
import Derived.Test.YtpphjddljngkmaaGreatDoorRefShow4eP
import Derived.Test.YtpphjddljngkmaaGreatDoorRefStAP
import Derived.Deep.Cut
import Derived.Deep.CutRange
import Derived.Deep.RegionHeld3
import Derived.Lib.ItoaLen
import Derived.BigQuiet
import Derived.Deep.CutBlock
import Derived.Test.YtpphjddljngkmaaGreatDoorPrintRows4M
namespace Go.Proofs.YtpphjddljngkmaaGreatDoor
open Go.RowKit

def slev (i : Nat) : Int := if i = 0 then 1 else if i ≤ 2 then 2 else 3
def sgB (i : Nat) : UInt8 := opB ((i : Int) + 8)
set_option maxRecDepth 100000 in
set_option maxHeartbeats 4000000 in
theorem operator_any (i : Nat) (l : Int) (hi : i < 6) (h1 : 1 ≤ l) (h3 : l ≤ 3) (w : World) :
    Calls Tryz.prog 49 #[.int .i64 l, .string ⟨#[sgB i]⟩] w fun e w' => e = .returned (.int .i64 (if l = slev i then (i : Int) + 8 else 0)) ∧ w' = w := by
  have hl : l = 1 ∨ l = 2 ∨ l = 3 := by omega
  have hk : i = 0 ∨ i = 1 ∨ i = 2 ∨ i = 3 ∨ i = 4 ∨ i = 5 := by omega
  rcases hl with rfl | rfl | rfl
  all_goals
    rcases hk with rfl | rfl | rfl | rfl | rfl | rfl
    all_goals
      show Calls Tryz.prog 49 #[.int .i64 _, .string ⟨#[_]⟩] w _
      simp only [sgB, opB]
      go_enter Tryz.func49, Tryz.ntmps49
      go_wp2_with fail
      go_ret
      exact ⟨rfl, rfl⟩
theorem lev_op {K : Int} (h : 8 ≤ K) (h2 : K ≤ 13) : levelX K = slev (K - 8).toNat := by
  have : K = 8 ∨ K = 9 ∨ K = 10 ∨ K = 11 ∨ K = 12 ∨ K = 13 := by omega
  rcases this with rfl | rfl | rfl | rfl | rfl | rfl <;> rfl
theorem slev_in (i : Nat) : 1 ≤ slev i ∧ slev i ≤ 3 := by unfold slev; split <;> (try split) <;> omega
/-- How long a text may be. -/
theorem inP_len (b : Bool) (l : List It) : (flt (inP b l)).length ≤ (flt l).length + 2 := by
  unfold inP
  split
  · rw [flt_cons, flt_app, List.length_append, List.length_append]
    show 1 + ((flt l).length + 1) ≤ _
    omega
  · omega
theorem argI_len (f : Nat → List It) (c : Nat → Nat) : ∀ n, (∀ i, i < n → (flt (f i)).length + 3 ≤ 140000 * c i) → (flt (argI f n)).length ≤ 140000 * sumTo c n
  | 0, _ => Nat.zero_le _
  | n + 1, h => by
    have ih := argI_len f c n fun i hi => h i (by omega)
    have hn := h n (by omega)
    rw [argI, flt_app, List.length_append, flt_app, List.length_append, sumTo]
    have : (flt (if 0 < n then [sg 44, bl] else [])).length ≤ 2 := by split <;> decide
    omega
theorem tx_step (T : PT) (h : T.badX = 0) (hn : T.ns) (h0 : ∀ i, i < T.len → (flt (T.kid i).exI).length + 5 ≤ 140000 * (T.kid i).cnt) (hlow : T.k = 2 → -9223372036854775808 ≤ T.n) : (flt T.exI).length + 5 ≤ 140000 * T.cnt := by
  obtain ⟨he, -⟩ := badX_node h
  obtain ⟨⟨k1, k13⟩, hT, hN, hnm, hl, hm⟩ := errX_zero he
  have hcnt := T.cnt_eq
  have ihk : ∀ lv i, i < T.len → (flt (T.kidI lv i)).length + 3 ≤ 140000 * (T.kid i).cnt := fun lv i hi => by
    have h1 := h0 i hi
    have h2 : (flt (T.kidI lv i)).length ≤ (flt (T.kid i).exI).length + 2 := by
      unfold PT.kidI
      rw [if_pos hi]
      exact inP_len _ _
    omega
  have hk0 : ∀ lv, (flt (T.kidI lv 0)).length ≤ 140000 * sumTo (fun i => (T.kid i).cnt) T.len := fun lv => by
    rcases Nat.eq_zero_or_pos T.len with e | e
    · unfold PT.kidI; rw [if_neg (by omega)]; exact Nat.zero_le _
    · have h1 := ihk lv 0 e
      have h2 := sumTo_le (fun i => (T.kid i).cnt) (show 0 + 1 ≤ T.len from e)
      simp only [sumTo] at h2
      omega
  have hk1 : (flt (T.kidI (levelX T.k) 0)).length + (flt (T.kidI (levelX T.k + 1) 1)).length ≤ 140000 * sumTo (fun i => (T.kid i).cnt) T.len := by
    rcases Nat.lt_or_ge 1 T.len with e | e
    · have h1 := ihk (levelX T.k) 0 (by omega)
      have h3 := ihk (levelX T.k + 1) 1 e
      have h2 := sumTo_le (fun i => (T.kid i).cnt) (show 1 + 1 ≤ T.len from e)
      simp only [sumTo] at h2
      omega
    · have h1 := hk0 (levelX T.k)
      have : (flt (T.kidI (levelX T.k + 1) 1)).length = 0 := by unfold PT.kidI; rw [if_neg (by omega)]; rfl
      omega
  have hnm16 : namedX T.k = true → T.nm.data.toList.length ≤ 16 := fun q => by
    have := (named_word (hnm q)).2.1
    simpa using this
  have hq := quoteL_len T.t.data.toList
  have htl : T.t.data.toList.length = T.t.size := by simp
  have ha := argI_len (T.kidI 0) (fun i => (T.kid i).cnt) T.len (ihk 0)
  rw [T.exI_eq, hcnt]
  generalize sumTo (fun i => (T.kid i).cnt) T.len = c at *
  unfold exN
  split
  · rename_i e
    have := hT e
    show (quoteL T.t.data.toList ++ []).length + 5 ≤ _
    rw [List.append_nil]
    omega
  · split
    · rename_i e
      have := Lib.itoa_length_le T.n (hlow e) (ns_node hn)
      show ((⟨(Lib.itoa T.n).toArray⟩ : ByteArray).data.toList ++ []).length + 5 ≤ _
      rw [List.append_nil]
      show (Lib.itoa T.n).length + 5 ≤ _
      omega
    · split
      · rename_i e
        have := hnm16 (by rw [e]; rfl)
        show (T.nm.data.toList ++ []).length + 5 ≤ _
        rw [List.append_nil]
        omega
      · split
        · rename_i e
          have h1 := hnm16 (by rw [e]; rfl)
          have h2 := hk0 0
          rw [flt_cons, flt_cons, flt_app, List.length_append, List.length_append, List.length_append]
          show T.nm.data.toList.length + (1 + ((flt (T.kidI 0 0)).length + 1)) + 5 ≤ _
          omega
        · split
          · have h2 := hk0 5
            rw [flt_cons, List.length_append]
            show 1 + (flt (T.kidI 5 0)).length + 5 ≤ _
            omega
          · split
            · rename_i e
              have h1 := hnm16 (by rw [e]; rfl)
              rw [flt_cons, flt_cons, flt_app, List.length_append, List.length_append, List.length_append]
              show T.nm.data.toList.length + (1 + ((flt (argI (T.kidI 0) T.len)).length + 1)) + 5 ≤ _
              omega
            · split
              · have h2 := hk0 4
                rw [flt_cons, List.length_append]
                show 1 + (flt (T.kidI 4 0)).length + 5 ≤ _
                omega
              · rw [flt_app, flt_cons, flt_cons, flt_cons, List.length_append, List.length_append, List.length_append, List.length_append]
                show (flt (T.kidI (levelX T.k) 0)).length + (1 + (1 + (1 + (flt (T.kidI (levelX T.k + 1) 1)).length))) + 5 ≤ _
                omega
theorem tx_len {w : World} : ∀ T : PT, T.In w → T.badX = 0 → (flt T.exI).length + 5 ≤ 140000 * T.cnt := PT.ind fun T ih hI hb => tx_step T hb (ns_of T hI) (fun i hi => ih i hi (hI.kids hi) ((badX_node hb).2 i hi)) (fun _ => hI.num.1)
theorem atl_len {w : World} {T : PT} (hI : T.In w) (hb : T.badX = 0) (lv : Int) : (flt (T.atl lv)).length ≤ 140000 * T.cnt := by
  have h1 := tx_len T hI hb
  have h2 := inP_len (decide (levelX T.k < lv)) T.exI
  unfold PT.atl
  omega
end Go.Proofs.YtpphjddljngkmaaGreatDoor

namespace Go.Proofs.YtpphjddljngkmaaGreatDoor
open Go.RowKit

def bA (l : List It) : ByteArray := ⟨(flt l).toArray⟩
theorem bA_size (l : List It) : (bA l).size = (flt l).length := by unfold bA; exact List.size_toArray
theorem bA_app (a b : List It) : bA (a ++ b) = bA a ++ bA b := by
  apply ByteArray.ext
  apply Array.ext'
  simp [bA, flt_app]
theorem bA_cons (x : It) (l : List It) : bA (x :: l) = ⟨x.b.toArray⟩ ++ bA l := by
  apply ByteArray.ext
  apply Array.ext'
  simp [bA, flt_cons]
theorem bA_nil : bA [] = ⟨#[]⟩ := rfl
theorem bA_sg (b : UInt8) : bA [sg b] = ⟨#[b]⟩ := rfl
theorem bA_wd (t : ByteArray) : bA [wd t] = t := by
  apply ByteArray.ext
  apply Array.ext'
  show ((wd t).b ++ []) = _
  rw [List.append_nil]
  rfl
theorem bA_tx (t : ByteArray) : bA [tx t] = quoteB t := by
  apply ByteArray.ext
  apply Array.ext'
  show ((tx t).b ++ []) = _
  rw [List.append_nil]
  rfl
theorem bA_nu {n : Int} (h : in64 n) : bA [nu ⟨(Lib.itoa n).toArray⟩] = ⟨(baseText 10 n).toArray⟩ := by
  rw [itoa_is n h]
  apply ByteArray.ext
  apply Array.ext'
  show ((nu ⟨(baseText 10 n).toArray⟩).b ++ []) = _
  rw [List.append_nil]
  rfl
theorem lev_ge (k : Int) : 1 ≤ levelX k := by unfold levelX; split <;> (try split) <;> (try split) <;> (try split) <;> omega
theorem atl_one (X : PT) : X.atl 1 = X.atl 0 := by
  have := lev_ge X.k
  unfold PT.atl
  rw [decide_eq_false (by omega), decide_eq_false (by omega)]
theorem cat4 (n x : ByteArray) : (⟨(wd n).b.toArray⟩ : ByteArray) ++ (⟨(sg 60).b.toArray⟩ ++ (x ++ ⟨#[62]⟩)) = n ++ ⟨#[60]⟩ ++ x ++ ⟨#[62]⟩ := by
  rw [show (⟨(wd n).b.toArray⟩ : ByteArray) = n from rfl, show (⟨(sg 60).b.toArray⟩ : ByteArray) = ⟨#[60]⟩ from rfl, ByteArray.append_assoc, ByteArray.append_assoc]
theorem cat4' (n x : ByteArray) : (⟨(wd n).b.toArray⟩ : ByteArray) ++ (⟨(sg 40).b.toArray⟩ ++ (x ++ ⟨#[41]⟩)) = n ++ ⟨#[40]⟩ ++ x ++ ⟨#[41]⟩ := by
  rw [show (⟨(wd n).b.toArray⟩ : ByteArray) = n from rfl, show (⟨(sg 40).b.toArray⟩ : ByteArray) = ⟨#[40]⟩ from rfl, ByteArray.append_assoc, ByteArray.append_assoc]
def TextSays (T : PT) : Prop := ∀ (w : World) (need : Int), T.In w → T.badX = 0 → T.cnt ≤ 4096 → 1 ≤ need → need ≤ 5 →
  Calls Tryz.prog 28 #[pv T, .int .i64 need] w fun e w' => e = .returned (.string (bA (T.atl need))) ∧ Below w.heap.size w w'
theorem kidX_at {W : World} {T : PT} (hT : T.In W) {i : Nat} (hi : i < T.len) (w : World) :
    (Instr.indexAt 23 (.slice T.xa T.len T.cap) (.int .i64 (i : Int))).run Tryz.prog w = .ok (.pointer (some ⟨T.b, T.o + i * 5, none⟩)) w := kidx_at hT hi w
theorem kidJ_at {T : PT} {i : Nat} (lv : Int) (hi : i < T.len) : T.kidI lv i = (T.kid i).atl lv := if_pos hi
theorem kidX_0 {W : World} {T : PT} (hT : T.In W) (hi : 0 < T.len) (w : World) :
    (Instr.indexAt 23 (.slice T.xa T.len T.cap) (.int .i64 0)).run Tryz.prog w = .ok (.pointer (some ⟨T.b, T.o, none⟩)) w := by
  have := kidx_at hT hi w
  simpa using this
theorem kidX_1 {W : World} {T : PT} (hT : T.In W) (hi : 1 < T.len) (w : World) :
    (Instr.indexAt 23 (.slice T.xa T.len T.cap) (.int .i64 1)).run Tryz.prog w = .ok (.pointer (some ⟨T.b, T.o + 5, none⟩)) w := by
  have := kidx_at hT hi w
  simpa using this
theorem kidX_cnt {T : PT} {i : Nat} (h : i < T.len) : (T.kid i).cnt ≤ T.cnt := by
  have h1 := sumTo_le (fun i => (T.kid i).cnt) (show i + 1 ≤ T.len from h)
  have h2 := T.cnt_eq
  simp only [sumTo] at h1
  omega
set_option maxRecDepth 100000 in
set_option maxHeartbeats 8000000 in
theorem text_step (T : PT) (ih : ∀ i, i < T.len → TextSays (T.kid i)) : TextSays T := by
  intro w need hT hb hc hn1 hn5
  obtain ⟨he, hkb⟩ := badX_node hb
  obtain ⟨⟨k1, k13⟩, hTX, hN, hnm, hl, hm⟩ := errX_zero he
  have hmax := hT.max
  unfold maxLen at hmax
  have HT := hide hT
  have htl := tx_len T hT hb
  have HTL := hide htl
  have HIH := hide (fun i (hi : i < T.len) W (q : Below w.heap.size w W) (lv : Int) (h1 : 1 ≤ lv) (h5 : lv ≤ 5) => ih i hi W lv (PT.In.later q (hT.kids hi)) (hkb i hi) (by have := kidX_cnt hi; omega) h1 h5)
  have HKL := hide (fun i (hi : i < T.len) (lv : Int) => (show (bA ((T.kid i).atl lv)).size ≤ 600000000 by
    rw [bA_size]
    have h1 := atl_len (hT.kids hi) (hkb i hi) lv
    have h2 := kidX_cnt hi
    omega))
  have HEX := hide T.exI_eq
  have HNM := hide hnm
  have HTX := hide hTX
  have HN0 := hide hN
  have HLM := hide (And.intro hl hm)
  have HCT := hide hc
  have HBD := hide hb
  have HAG0 : Hid (argI (T.kidI 0) 0 = []) := hide rfl
  have HNN := hide (hT.num)
  unfold pv at HIH ⊢
  clear ih hb he hkb hTX hN hnm hl hm htl hc
  obtain ⟨w1, hw1⟩ : ∃ w1, w1 = w.alloc (.cells #[.int .i64 T.k, .string T.t, .int .i64 T.n, .string T.nm, .slice T.xa T.len T.cap] 25) := ⟨_, rfl⟩
  have HB1 := hide (show Below w.heap.size w w1 by rw [hw1]; exact ba _)
  have HR1 := hide (show w1.heap[w.heap.size]? = some (.cells #[.int .i64 T.k, .string T.t, .int .i64 T.n, .string T.nm, .slice T.xa T.len T.cap] 25 (0, 0)) by rw [hw1]; exact at_new rfl)
  obtain ⟨c0, c1, c2, c3, c4⟩ := cells5 (unhide HR1)
  clear hT
  go_enter Tryz.func28, Tryz.ntmps28
  go_upto_block 0 with fail
  rw [← hw1]
  clear hw1
  have HKC := hide (fun i (hi : i < T.len) W (q : Below w.heap.size w W) => (PT.In.later q (unhide HT)).cells hi)
  go_cut [5, 6] from 12 to 119 (fun s5 s6 wx => s5 = .int .i64 (levelX T.k) ∧ s6 = .string (bA T.exI) ∧ Hid (Below w1.heap.size w1 wx))
  case first =>
    have hkk : T.k = 1 ∨ T.k = 2 ∨ T.k = 3 ∨ T.k = 4 ∨ T.k = 5 ∨ T.k = 6 ∨ T.k = 7 ∨ 8 ≤ T.k := by omega
    rcases hkk with hk | hk | hk | hk | hk | hk | hk | hk
    · have HE := hide (show T.exI = [tx T.t] by rw [unhide HEX, hk]; rfl)
      have HLV := hide (show levelX T.k = 5 by rw [hk]; rfl)
      have HQ := hide (fun W => rquoted_any T.t W (unhide HTX hk))
      have q1 : (T.k == 1) = true := bt hk
      clear hk HTX HIH HKL HKC HTL
      go_wp2_with fail
      refine (unhide HQ w1).mono ?_
      rintro e x1 ⟨rfl, hb⟩
      have HBX := hide hb
      clear hb
      go_wp2_with fail
      go_meet
      case rel => exact ⟨by rw [unhide HLV], by rw [unhide HE]; exact congrArg Value.string (bA_tx T.t).symm, HBX⟩
    · have HE := hide (show T.exI = [nu ⟨(Lib.itoa T.n).toArray⟩] by rw [unhide HEX, hk]; rfl)
      have HLV := hide (show levelX T.k = 5 by rw [hk]; rfl)
      have HQ := hide (fun W => refBase_ok T.n 10 W (show in64 T.n from unhide HNN) (by decide) (by decide))
      have q1 : (T.k == 1) = false := bn (by omega)
      have q2 : (T.k == 2) = true := bt hk
      clear hk HTX HIH HKL HKC HTL
      go_wp2_with fail
      refine (unhide HQ w1).mono ?_
      rintro e x1 ⟨rfl, hb⟩
      have HBX := hide hb
      clear hb
      go_wp2_with fail
      go_meet
      case rel => exact ⟨by rw [unhide HLV], by rw [unhide HE]; exact congrArg Value.string (bA_nu (show in64 T.n from unhide HNN)).symm, HBX⟩
    · have HE := hide (show T.exI = [wd T.nm] by rw [unhide HEX, hk]; rfl)
      have HLV := hide (show levelX T.k = 5 by rw [hk]; rfl)
      have q1 : (T.k == 1) = false := bn (by omega)
      have q2 : (T.k == 2) = false := bn (by omega)
      have q3 : (T.k == 3) = true := bt hk
      clear hk HTX HIH HKL HKC HTL
      go_wp2_with fail
      go_meet
      case rel => exact ⟨by rw [unhide HLV], by rw [unhide HE, bA_wd], Below.refl _ _⟩
    · have hl1 : 0 < T.len := by have := (unhide HLM).1; rw [hk] at this; have : (1 : Int) ≤ (T.len : Int) := this; omega
      have hn16 : T.nm.size ≤ 16 := (named_word (unhide HNM (by rw [hk]; rfl))).2.1
      have HE := hide (show T.exI = wd T.nm :: sg 60 :: ((T.kid 0).atl 1 ++ [sg 62]) by rw [unhide HEX, hk, atl_one, ← kidJ_at 0 hl1]; rfl)
      have HLV := hide (show levelX T.k = 5 by rw [hk]; rfl)
      have HC := hide (fun W (q : Below w1.heap.size w1 W) => unhide HIH 0 hl1 W (bnext2 (unhide HB1) q) 1 (by decide) (by decide))
      have hsz := unhide HKL 0 hl1 1
      have hix := kidX_0 (unhide HT) hl1
      have HKP : Hid (∀ w' : World, Below w1.heap.size w1 w' → (w'.cell? ⟨w.heap.size, 3, none⟩ = some (.string T.nm) ∧ w'.cell? ⟨w.heap.size, 4, none⟩ = some (.slice T.xa T.len T.cap) ∧ w'.cell? ⟨T.b, T.o, none⟩ = some (.int .i64 (T.kid 0).k) ∧ w'.cell? ⟨T.b, T.o + 1, none⟩ = some (.string (T.kid 0).t) ∧ w'.cell? ⟨T.b, T.o + 2, none⟩ = some (.int .i64 (T.kid 0).n) ∧ w'.cell? ⟨T.b, T.o + 3, none⟩ = some (.string (T.kid 0).nm) ∧ w'.cell? ⟨T.b, T.o + 4, none⟩ = some (.slice (T.kid 0).xa (T.kid 0).len (T.kid 0).cap))) := hide (fun w' h => by
        obtain ⟨k0, k1', k2, k3, k4⟩ := unhide HKC 0 hl1 w' (bnext2 (unhide HB1) h)
        simp only [Nat.zero_mul, Nat.add_zero] at k0 k1' k2 k3 k4
        exact ⟨cell_later h c3, cell_later h c4, k0, k1', k2, k3, k4⟩)
      have q1 : (T.k == 1) = false := bn (by omega)
      have q2 : (T.k == 2) = false := bn (by omega)
      have q3 : (T.k == 3) = false := bn (by omega)
      have q4 : (T.k == 4) = true := bt hk
      clear hk HTX HIH HKL HKC HTL
      obtain ⟨x, hx⟩ : ∃ x, x = bA ((T.kid 0).atl 1) := ⟨_, rfl⟩
      rw [← hx] at HC hsz
      have HX := hide hx
      clear hx
      have g1 : ¬ 9223372036854775807 < T.nm.size + 1 := by omega
      have g2 : ¬ 9223372036854775807 < T.nm.size + 1 + x.size := by omega
      have g3 : ¬ 9223372036854775807 < T.nm.size + 1 + x.size + 1 := by omega
      have hA : Below w1.heap.size w1 w1 := Below.refl _ _
      clear c0 c1 c2 c3 c4
      go_wp2_with fail
      go_region_held3 (fun w' => w'.cell? ⟨w.heap.size, 3, none⟩ = some (.string T.nm) ∧ w'.cell? ⟨w.heap.size, 4, none⟩ = some (.slice T.xa T.len T.cap) ∧ w'.cell? ⟨T.b, T.o, none⟩ = some (.int .i64 (T.kid 0).k) ∧ w'.cell? ⟨T.b, T.o + 1, none⟩ = some (.string (T.kid 0).t) ∧ w'.cell? ⟨T.b, T.o + 2, none⟩ = some (.int .i64 (T.kid 0).n) ∧ w'.cell? ⟨T.b, T.o + 3, none⟩ = some (.string (T.kid 0).nm) ∧ w'.cell? ⟨T.b, T.o + 4, none⟩ = some (.slice (T.kid 0).xa (T.kid 0).len (T.kid 0).cap))
        (first | exact unhide HKP _ (unhide HA) | exact unhide HKP _ (unhide HA).drew | exact unhide HKP _ hA | exact unhide HKP _ hA.drew)
        (first
          | (go_at_call 28; refine (unhide HC _ (by first | exact hA | exact hA.drew)).mono ?_; rintro e x3 ⟨rfl, hbq⟩; first | (have HA := hide (bnext2 hA hbq); clear hbq) | (have HA := hide (bnext2 hA.drew hbq); clear hbq)))
      all_goals
        go_wp2_with fail
        go_meet
        case rel => exact ⟨by rw [unhide HLV], by rw [unhide HE, bA_cons, bA_cons, bA_app, bA_sg, ← unhide HX]; exact congrArg Value.string (cat4 T.nm x).symm, by first | exact HA | exact hide (unhide HA).drew⟩
    · have hl1 : 0 < T.len := by have := (unhide HLM).1; rw [hk] at this; have : (1 : Int) ≤ (T.len : Int) := this; omega
      have HE := hide (show T.exI = sg 36 :: (T.kid 0).atl 5 by rw [unhide HEX, hk, ← kidJ_at 5 hl1]; rfl)
      have HLV := hide (show levelX T.k = 5 by rw [hk]; rfl)
      obtain ⟨k0, k1', k2, k3, k4⟩ := unhide HKC 0 hl1 w1 (unhide HB1)
      simp only [Nat.zero_mul, Nat.add_zero] at k0 k1' k2 k3 k4
      have hix := kidX_0 (unhide HT) hl1
      unfold PT.kv at k4
      have HC := hide (unhide HIH 0 hl1 w1 (unhide HB1) 5 (by decide) (by decide))
      have hsz := unhide HKL 0 hl1 5
      have q1 : (T.k == 1) = false := bn (by omega)
      have q2 : (T.k == 2) = false := bn (by omega)
      have q3 : (T.k == 3) = false := bn (by omega)
      have q4 : (T.k == 4) = false := bn (by omega)
      have q5 : (T.k == 5) = true := bt hk
      clear hk HTX HIH HKL HKC HTL
      obtain ⟨x, hx⟩ : ∃ x, x = bA ((T.kid 0).atl 5) := ⟨_, rfl⟩
      rw [← hx] at HC hsz
      have HX := hide hx
      clear hx
      have g1 : ¬ 9223372036854775807 < 1 + x.size := by omega
      go_wp2_with fail
      refine (unhide HC).mono ?_
      rintro e x1 ⟨rfl, hb⟩
      have HBX := hide hb
      clear hb
      go_wp2_with fail
      go_meet
      case rel => exact ⟨by rw [unhide HLV], by rw [unhide HE, bA_cons, ← unhide HX]; rfl, HBX⟩
    · have hn16 : T.nm.size ≤ 16 := (named_word (unhide HNM (by rw [hk]; rfl))).2.1
      have HE := hide (show T.exI = wd T.nm :: sg 40 :: (argI (T.kidI 0) T.len ++ [sg 41]) by rw [unhide HEX, hk]; rfl)
      have HLV := hide (show levelX T.k = 5 by rw [hk]; rfl)
      have HAL := hide (fun k (hkl : k ≤ T.len) => (show (bA (argI (T.kidI 0) k)).size ≤ 600000000 by
        rw [bA_size]
        have h1 := argI_len (T.kidI 0) (fun i => (T.kid i).cnt) k (fun i hi => by
          rw [kidJ_at 0 (by omega)]
          have h2 := tx_len (T.kid i) ((unhide HT).kids (by omega)) ((badX_node (unhide HBD)).2 i (by omega))
          have h3 := inP_len (decide (levelX (T.kid i).k < 0)) (T.kid i).exI
          unfold PT.atl
          omega)
        have h4 := sumTo_le (fun i => (T.kid i).cnt) hkl
        have h5 := T.cnt_eq
        have h6 := unhide HCT
        omega))
      have HAS := hide (fun k (hkl : k < T.len) => (show bA (argI (T.kidI 0) (k + 1)) = (if 0 < k then bA (argI (T.kidI 0) k) ++ ⟨#[44, 32]⟩ else bA (argI (T.kidI 0) k)) ++ bA ((T.kid k).atl 1) by
        rw [argI, bA_app, bA_app, kidJ_at 0 hkl, atl_one]
        split
        · rw [ByteArray.append_assoc]; rfl
        · rw [bA_nil, show (⟨#[]⟩ : ByteArray) = ByteArray.empty from rfl, ByteArray.empty_append]))
      have q1 : (T.k == 1) = false := bn (by omega)
      have q2 : (T.k == 2) = false := bn (by omega)
      have q3 : (T.k == 3) = false := bn (by omega)
      have q4 : (T.k == 4) = false := bn (by omega)
      have q5 : (T.k == 5) = false := bn (by omega)
      have q7 : (T.k == 7) = false := bn (by omega)
      have q6 : (T.k == 6) = true := bt hk
      clear hk HTX HTL
      generalize argI (T.kidI 0) = ag at *
      go_wp2_with fail
      go_loopw [6, 100] (fun s i wl => ∃ k : Nat, k ≤ T.len ∧ i = .int .i64 (k : Int) ∧ s = .string (bA (ag k)) ∧ Hid (Below w1.heap.size w1 wl)) (fun _ i _ => T.len - (intOf i).toNat)
      case atStart => exact ⟨0, by omega, rfl, by rw [unhide HAG0]; rfl, Below.refl _ _⟩
      case round =>
        obtain ⟨k, hkl, rfl, rfl, HBL⟩ := hrel
        rcases Nat.lt_or_ge k T.len with hlt | hge
        · have hbk := bnext2 (unhide HB1) (unhide HBL)
          obtain ⟨k0, k1', k2, k3, k4⟩ := unhide HKC k hlt wr hbk
          unfold PT.kv at k4
          have hix := kidX_at (unhide HT) hlt
          have hn := (ba (w := wr) (.cells #[.int .i64 (T.kid k).k, .string (T.kid k).t, .int .i64 (T.kid k).n, .string (T.kid k).nm, .slice (T.kid k).xa (T.kid k).len (T.kid k).cap] 25))
          have HC := hide (unhide HIH k hlt _ (bnext2 hbk hn) 1 (by decide) (by decide))
          have hs1 := unhide HAL k (by omega)
          have hs2 := unhide HKL k hlt 1
          have HST := hide (unhide HAS k hlt)
          have HBN := hide (bnext2 (unhide HBL) hn)
          have hkk : (k : Int) < (T.len : Int) := by omega
          clear hbk hn
          obtain ⟨x, hx⟩ : ∃ x, x = bA ((T.kid k).atl 1) := ⟨_, rfl⟩
          rw [← hx] at HC hs2 HST
          obtain ⟨y, hy⟩ : ∃ y, y = bA (ag k) := ⟨_, rfl⟩
          rw [← hy] at hs1 HST ⊢
          clear hx hy
          by_cases h0 : 0 < k
          · have HST := hide ((unhide HST).trans (by rw [if_pos h0]))
            have h0' : (0 : Int) < (k : Int) := by omega
            have g1 : ¬ 9223372036854775807 < y.size + 2 := by omega
            have g2 : ¬ 9223372036854775807 < y.size + 2 + x.size := by omega
            clear h0
            go_wp2_with fail
            refine (unhide HC).mono ?_
            rintro e x2 ⟨rfl, hb⟩
            have HB3 := hide (bnext2 (unhide HBN) hb)
            clear hb HC
            go_wp2_with fail
            exact ⟨⟨k + 1, by omega, by go_num, by rw [unhide HST], HB3⟩, by simp [intOf]; omega⟩
          · obtain rfl : k = 0 := by omega
            have HST := hide ((unhide HST).trans (by rw [if_neg h0]))
            have g1 : ¬ 9223372036854775807 < y.size + x.size := by omega
            have hix0 := kidX_0 (unhide HT) hlt
            simp only [Nat.zero_mul, Nat.add_zero] at k0 k1' k2 k3 k4
            clear h0
            go_wp2_with fail
            refine (unhide HC).mono ?_
            rintro e x2 ⟨rfl, hb⟩
            have HB3 := hide (bnext2 (unhide HBN) hb)
            clear hb HC
            go_wp2_with fail
            exact ⟨⟨1, by omega, by go_num, by rw [unhide HST], HB3⟩, by simp [intOf]; omega⟩
        · obtain rfl : k = T.len := by omega
          have hs1 := unhide HAL T.len (by omega)
          clear HKC HIH HAL HAS
          obtain ⟨c0, c1, c2, c3, c4⟩ := cells5 (row_below (unhide HR1) (unhide HBL))
          have g1 : ¬ 9223372036854775807 < T.nm.size + 1 := by omega
          have g2 : ¬ 9223372036854775807 < T.nm.size + 1 + (bA (ag T.len)).size := by omega
          have g3 : ¬ 9223372036854775807 < T.nm.size + 1 + (bA (ag T.len)).size + 1 := by omega
          go_wp2_with fail
          go_meet
          case rel => exact ⟨by rw [unhide HLV], by rw [unhide HE, bA_cons, bA_cons, bA_app, bA_sg]; exact congrArg Value.string (cat4' T.nm (bA (ag T.len))).symm, HBL⟩
    · have hl1 : 0 < T.len := by have := (unhide HLM).1; rw [hk] at this; have : (1 : Int) ≤ (T.len : Int) := this; omega
      have HE := hide (show T.exI = sg 45 :: (T.kid 0).atl 4 by rw [unhide HEX, hk, ← kidJ_at 4 hl1]; rfl)
      have HLV := hide (show levelX T.k = 4 by rw [hk]; rfl)
      obtain ⟨k0, k1', k2, k3, k4⟩ := unhide HKC 0 hl1 w1 (unhide HB1)
      simp only [Nat.zero_mul, Nat.add_zero] at k0 k1' k2 k3 k4
      have hix := kidX_0 (unhide HT) hl1
      unfold PT.kv at k4
      have HC := hide (unhide HIH 0 hl1 w1 (unhide HB1) 4 (by decide) (by decide))
      have hsz := unhide HKL 0 hl1 4
      have q1 : (T.k == 1) = false := bn (by omega)
      have q2 : (T.k == 2) = false := bn (by omega)
      have q3 : (T.k == 3) = false := bn (by omega)
      have q4 : (T.k == 4) = false := bn (by omega)
      have q5 : (T.k == 5) = false := bn (by omega)
      have q7 : (T.k == 7) = true := bt hk
      clear hk HTX HIH HKL HKC HTL
      obtain ⟨x, hx⟩ : ∃ x, x = bA ((T.kid 0).atl 4) := ⟨_, rfl⟩
      rw [← hx] at HC hsz
      have HX := hide hx
      clear hx
      have g1 : ¬ 9223372036854775807 < 1 + x.size := by omega
      go_wp2_with fail
      refine (unhide HC).mono ?_
      rintro e x1 ⟨rfl, hb⟩
      have HBX := hide hb
      clear hb
      go_wp2_with fail
      go_meet
      case rel => exact ⟨by rw [unhide HLV], by rw [unhide HE, bA_cons, ← unhide HX]; rfl, HBX⟩
    · have hl2 : 1 < T.len := by
        have := (unhide HLM).1
        have h2 : leastX T.k = 2 := by unfold leastX; rw [if_neg (by omega), if_pos (by omega)]
        omega
      obtain ⟨s8, hs8, hs6⟩ : ∃ s8 : Nat, T.k = (s8 : Int) + 8 ∧ s8 < 6 := ⟨(T.k - 8).toNat, by omega, by omega⟩
      obtain ⟨lv, hlv⟩ : ∃ lv, lv = levelX T.k := ⟨_, rfl⟩
      have hlv8 : lv = slev s8 := by rw [hlv, lev_op hk k13]; congr 1; omega
      have hlv3 := slev_in s8
      rw [← hlv8] at hlv3
      have HE := hide (show bA T.exI = bA ((T.kid 0).atl lv) ++ ⟨#[32]⟩ ++ ⟨#[sgB s8]⟩ ++ ⟨#[32]⟩ ++ bA ((T.kid 1).atl (lv + 1)) by
        rw [unhide HEX]
        unfold exN
        rw [if_neg (by omega), if_neg (by omega), if_neg (by omega), if_neg (by omega), if_neg (by omega), if_neg (by omega), if_neg (by omega), ← hlv, kidJ_at lv (by omega), kidJ_at (lv + 1) hl2, bA_app, bA_cons, bA_cons, bA_cons, ByteArray.append_assoc, ByteArray.append_assoc, ByteArray.append_assoc]
        rw [show sgB s8 = opB T.k by unfold sgB; rw [hs8]]
        rfl)
      have HC0 := hide (fun W (q : Below w1.heap.size w1 W) => unhide HIH 0 (by omega) W (bnext2 (unhide HB1) q) lv (by omega) (by omega))
      have HC1 := hide (fun W (q : Below w1.heap.size w1 W) => unhide HIH 1 hl2 W (bnext2 (unhide HB1) q) (lv + 1) (by omega) (by omega))
      have hz0 := unhide HKL 0 (by omega) lv
      have hz1 := unhide HKL 1 hl2 (lv + 1)
      have hix := kidX_0 (unhide HT) (show 0 < T.len by omega)
      have hiy := kidX_1 (unhide HT) hl2
      have HKP : Hid (∀ w' : World, Below w1.heap.size w1 w' → (w'.cell? ⟨w.heap.size, 4, none⟩ = some (.slice T.xa T.len T.cap) ∧ w'.cell? ⟨T.b, T.o, none⟩ = some (.int .i64 (T.kid 0).k) ∧ w'.cell? ⟨T.b, T.o + 1, none⟩ = some (.string (T.kid 0).t) ∧ w'.cell? ⟨T.b, T.o + 2, none⟩ = some (.int .i64 (T.kid 0).n) ∧ w'.cell? ⟨T.b, T.o + 3, none⟩ = some (.string (T.kid 0).nm) ∧ w'.cell? ⟨T.b, T.o + 4, none⟩ = some (.slice (T.kid 0).xa (T.kid 0).len (T.kid 0).cap) ∧ w'.cell? ⟨T.b, T.o + 5, none⟩ = some (.int .i64 (T.kid 1).k) ∧ w'.cell? ⟨T.b, T.o + 5 + 1, none⟩ = some (.string (T.kid 1).t) ∧ w'.cell? ⟨T.b, T.o + 5 + 2, none⟩ = some (.int .i64 (T.kid 1).n) ∧ w'.cell? ⟨T.b, T.o + 5 + 3, none⟩ = some (.string (T.kid 1).nm) ∧ w'.cell? ⟨T.b, T.o + 5 + 4, none⟩ = some (.slice (T.kid 1).xa (T.kid 1).len (T.kid 1).cap))) := hide (fun w' h => by
        obtain ⟨k0, k1', k2, k3, k4⟩ := unhide HKC 0 (by omega) w' (bnext2 (unhide HB1) h)
        obtain ⟨m0, m1, m2, m3, m4⟩ := unhide HKC 1 hl2 w' (bnext2 (unhide HB1) h)
        simp only [Nat.zero_mul, Nat.add_zero] at k0 k1' k2 k3 k4
        simp only [Nat.one_mul] at m0 m1 m2 m3 m4
        exact ⟨cell_later h c4, k0, k1', k2, k3, k4, m0, m1, m2, m3, m4⟩)
      have HR1K := hide (unhide HR1)
      have HLL := hide hlv
      have q1 : (T.k == 1) = false := bn (by omega)
      have q2 : (T.k == 2) = false := bn (by omega)
      have q3 : (T.k == 3) = false := bn (by omega)
      have q4 : (T.k == 4) = false := bn (by omega)
      have q5 : (T.k == 5) = false := bn (by omega)
      have q7 : (T.k == 7) = false := bn (by omega)
      have q6 : (T.k == 6) = false := bn (by omega)
      have HK8 := hide hs8
      have HL8 := hide hlv8
      clear hk HTX HIH HKL HKC HTL c0 c1 c2 c3 c4 hlv hs8 hlv8
      generalize T.kid 0 = A0 at *
      generalize T.kid 1 = A1 at *
      obtain ⟨x0, hx0⟩ : ∃ x0, x0 = bA (A0.atl lv) := ⟨_, rfl⟩
      obtain ⟨x1, hx1⟩ : ∃ x1, x1 = bA (A1.atl (lv + 1)) := ⟨_, rfl⟩
      rw [← hx0] at HC0 hz0 HE
      rw [← hx1] at HC1 hz1 HE
      clear hx0 hx1
      obtain ⟨E, hE⟩ : ∃ E, E = bA T.exI := ⟨_, rfl⟩
      rw [← hE] at HE
      have HEE := hide hE
      clear hE
      obtain ⟨c0, c1, c2, c3, c4⟩ := cells5 (unhide HR1)
      go_wp2_with fail
      obtain ⟨w2, hw2⟩ : ∃ w2, w2 = w1.alloc (.cells #[.string ⟨#[38]⟩, .string ⟨#[43]⟩, .string ⟨#[45]⟩, .string ⟨#[42]⟩, .string ⟨#[47]⟩, .string ⟨#[37]⟩] 9) := ⟨_, rfl⟩
      rw [← hw2]
      have HB2 := hide (show Below w1.heap.size w1 w2 by rw [hw2]; exact ba _)
      have HSG := hide (show ∀ i, i < 6 → w2.cell? ⟨w1.heap.size, i, none⟩ = some (.string ⟨#[sgB i]⟩) from fun i hi => by
        rw [hw2, cell_of_row _ _ _ _ _ _ (at_new rfl)]
        have : i = 0 ∨ i = 1 ∨ i = 2 ∨ i = 3 ∨ i = 4 ∨ i = 5 := by omega
        rcases this with rfl | rfl | rfl | rfl | rfl | rfl <;> rfl)
      clear hw2 c0 c1 c2 c3 c4
      go_loopw [5, 6, 16] (fun o s i wl => ∃ (k : Nat) (ov : Int) (sv : ByteArray), k ≤ 6 ∧ i = .int .i64 (k : Int) ∧ o = .int .i64 ov ∧ s = .string sv ∧ Hid (s8 < k → ov = lv ∧ sv = E) ∧ Hid (Below w2.heap.size w2 wl)) (fun _ _ i _ => 6 - (intOf i).toNat)
      case atStart => exact ⟨0, 5, _, by omega, rfl, rfl, rfl, fun q => absurd q (by omega), Below.refl _ _⟩
      case round =>
        obtain ⟨k, ov, sv, hk6, rfl, rfl, rfl, HBK, HBL⟩ := hrel
        rcases Nat.lt_or_ge k 6 with hlt | hge
        · obtain ⟨sgs, hsg⟩ : ∃ s, s = (⟨#[sgB k]⟩ : ByteArray) := ⟨_, rfl⟩
          have cs := cell_later (unhide HBL) (unhide HSG k hlt)
          rw [← hsg] at cs
          have hss : sgs.size = 1 := by rw [hsg]; rfl
          have HSS := hide hsg
          clear hsg
          have hid := sl_idx (g := w1.heap.size) (o := 0) (cap := 6) (i := k) (n := 6) Tryz.underlying31 size_strS hlt
          rw [Nat.zero_add] at hid
          have hkk : (k : Int) < 6 := by omega
          go_wp2_with fail
          go_loopw [5, 6, 11] (fun o s l wl => ∃ (j : Nat) (ov : Int) (sv : ByteArray), 1 ≤ j ∧ j ≤ 4 ∧ l = .int .i64 (j : Int) ∧ o = .int .i64 ov ∧ s = .string sv ∧ Hid ((s8 < k ∨ (s8 = k ∧ lv < (j : Int))) → ov = lv ∧ sv = E) ∧ Hid (Below w2.heap.size w2 wl)) (fun _ _ l _ => 4 - (intOf l).toNat)
          case atStart => exact ⟨1, ov, sv, by omega, by omega, rfl, rfl, rfl, fun q => unhide HBK (by omega), HBL⟩
          case round =>
            obtain ⟨j, ov2, sv2, hj1, hj4, rfl, rfl, rfl, HB8, HBM⟩ := hrel
            rcases Nat.lt_or_ge j 4 with hjl | hjg
            · have HOP := hide (fun W => (show Calls Tryz.prog 49 #[.int .i64 (j : Int), .string sgs] W _ by rw [unhide HSS]; exact operator_any k (j : Int) hlt (by omega) (by omega) W))
              obtain ⟨c0, c1, c2, c3, c4⟩ := cells5 (row_below (row_below (unhide HR1K) (unhide HB2)) (unhide HBM))
              have hj3 : (j : Int) ≤ 3 := by omega
              by_cases hm : k = s8 ∧ (j : Int) = lv
              · obtain ⟨rfl, hjlv⟩ := hm
                have hv : (if (j : Int) = slev k then (k : Int) + 8 else 0) = T.k := by rw [unhide HK8, if_pos (hjlv.trans (unhide HL8))]
                have hwj : IntKind.i64.wrap ((j : Int) + 1) = (j : Int) + 1 := by rw [IntKind.wrap_i64]; omega
                have HC0' := hide (fun W q => (show Calls Tryz.prog 28 #[.agg #[.int .i64 A0.k, .string A0.t, .int .i64 A0.n, .string A0.nm, .slice A0.xa A0.len A0.cap], .int .i64 (j : Int)] W _ by rw [hjlv]; exact unhide HC0 W q))
                have HC1'' := hide (fun W q => (show Calls Tryz.prog 28 #[.agg #[.int .i64 A1.k, .string A1.t, .int .i64 A1.n, .string A1.nm, .slice A1.xa A1.len A1.cap], .int .i64 ((j : Int) + 1)] W _ by rw [hjlv]; exact unhide HC1 W q))
                have hqt : (T.k == T.k) = true := beq_self_eq_true _
                rw [hv] at HOP
                have HJL := hide hjlv
                clear hjlv hv
                go_wp2_with fail
                go_quiet (first | (go_at_call 49; exact Calls.quiet_of_same (unhide HOP _)))
                have HBQ := hide (below_drewN (unhide HBM) nq)
                generalize wr.drewN nq = wq at *
                clear c0 c1 c2 c3 c4
                have hA : Below wq.heap.size wq wq := Below.refl _ _
                have HWQ := hide (bnext2 (unhide HB2) (unhide HBQ))
                have HKQ := hide (fun W (q : Below wq.heap.size wq W) => unhide HKP W (bnext2 (unhide HWQ) q))
                have g1 : ¬ 9223372036854775807 < x0.size + 1 := by omega
                have g2 : ¬ 9223372036854775807 < x0.size + 1 + 1 := by omega
                have g3 : ¬ 9223372036854775807 < x0.size + 1 + 1 + 1 := by omega
                have g4 : ¬ 9223372036854775807 < x0.size + 1 + 1 + 1 + x1.size := by omega
                go_wp2_with fail
                go_region_held3 (fun w' => w'.cell? ⟨w.heap.size, 4, none⟩ = some (.slice T.xa T.len T.cap) ∧ w'.cell? ⟨T.b, T.o, none⟩ = some (.int .i64 A0.k) ∧ w'.cell? ⟨T.b, T.o + 1, none⟩ = some (.string A0.t) ∧ w'.cell? ⟨T.b, T.o + 2, none⟩ = some (.int .i64 A0.n) ∧ w'.cell? ⟨T.b, T.o + 3, none⟩ = some (.string A0.nm) ∧ w'.cell? ⟨T.b, T.o + 4, none⟩ = some (.slice A0.xa A0.len A0.cap) ∧ w'.cell? ⟨T.b, T.o + 5, none⟩ = some (.int .i64 A1.k) ∧ w'.cell? ⟨T.b, T.o + 5 + 1, none⟩ = some (.string A1.t) ∧ w'.cell? ⟨T.b, T.o + 5 + 2, none⟩ = some (.int .i64 A1.n) ∧ w'.cell? ⟨T.b, T.o + 5 + 3, none⟩ = some (.string A1.nm) ∧ w'.cell? ⟨T.b, T.o + 5 + 4, none⟩ = some (.slice A1.xa A1.len A1.cap))
                  (first | exact unhide HKQ _ (unhide HA) | exact unhide HKQ _ (unhide HA).drew | exact unhide HKQ _ hA | exact unhide HKQ _ hA.drew)
                  (first
                    | (go_at_call_of 28 (Value.int .i64 (j : Int)); refine (unhide HC0' _ (bnext2 (unhide HWQ) (by first | exact unhide HA | exact (unhide HA).drew | exact hA | exact hA.drew))).mono ?_; rintro e x3 ⟨rfl, hbq⟩; first | (have HA := hide (bnext2 (unhide HA) hbq); clear hbq) | (have HA := hide (bnext2 (unhide HA).drew hbq); clear hbq) | (have HA := hide (bnext2 hA hbq); clear hbq) | (have HA := hide (bnext2 hA.drew hbq); clear hbq))
                    | (go_at_call 28; refine (unhide HC1'' _ (bnext2 (unhide HWQ) (by first | exact unhide HA | exact (unhide HA).drew | exact hA | exact hA.drew))).mono ?_; rintro e x3 ⟨rfl, hbq⟩; first | (have HA := hide (bnext2 (unhide HA) hbq); clear hbq) | (have HA := hide (bnext2 (unhide HA).drew hbq); clear hbq) | (have HA := hide (bnext2 hA hbq); clear hbq) | (have HA := hide (bnext2 hA.drew hbq); clear hbq)))
                all_goals
                  go_wp2_with fail
                  exact ⟨⟨j + 1, _, _, by omega, by omega, by go_num, rfl, rfl, fun _ => ⟨unhide HJL, by rw [unhide HE, unhide HSS]⟩, by first | exact hide (bnext2 (unhide HBQ) (unhide HA)) | exact hide (bnext2 (unhide HBQ) (unhide HA).drew)⟩, by simp [intOf]; omega⟩
              · have hv : ((if (j : Int) = slev k then (k : Int) + 8 else 0) == T.k) = false := by
                  rw [beq_eq_false_iff_ne, unhide HK8]
                  intro e
                  split at e
                  · rename_i e2
                    exact hm ⟨by omega, by rw [e2, unhide HL8]; congr 1; omega⟩
                  · omega
                have HNB := hide (show (s8 < k ∨ (s8 = k ∧ lv < ((j + 1 : Nat) : Int))) → ov2 = lv ∧ sv2 = E from fun q => unhide HB8 (by omega))
                clear hm
                generalize (if (j : Int) = slev k then (k : Int) + 8 else 0) = v at *
                go_wp2_with fail
                go_quiet (first | (go_at_call 49; exact Calls.quiet_of_same (unhide HOP _)))
                have HBQ := hide (below_drewN (unhide HBM) nq)
                generalize wr.drewN nq = wq at *
                go_wp2_with fail
                exact ⟨⟨j + 1, ov2, sv2, by omega, by omega, by go_num, rfl, rfl, HNB, HBQ⟩, by simp [intOf]; omega⟩
            · obtain rfl : j = 4 := by omega
              have HNB := hide (show s8 < k + 1 → ov2 = lv ∧ sv2 = E from fun q => unhide HB8 (by omega))
              go_wp2_with fail
              exact ⟨⟨k + 1, ov2, sv2, by omega, by go_num, rfl, rfl, HNB, HBM⟩, by simp [intOf]; omega⟩
        · obtain rfl : k = 6 := by omega
          obtain ⟨rfl, rfl⟩ := unhide HBK (by omega)
          have HBE := hide (bnext2 (unhide HB2) (unhide HBL))
          go_wp2_with fail
          go_meet
          case rel => exact ⟨by rw [unhide HLL], by rw [unhide HEE], HBE⟩
  case rest =>
  obtain ⟨rfl, rfl, HB2⟩ := hcut
  have HX := hide (bnext2 (unhide HB1) (unhide HB2))
  have HSZ : Hid ((bA T.exI).size ≤ 600000000) := hide (by rw [bA_size]; have := unhide HTL; have := unhide HCT; omega)
  have hsz := unhide HSZ
  have HAT : Hid (T.atl need = inP (decide (levelX T.k < need)) T.exI) := hide rfl
  have g1 : ¬ 9223372036854775807 < 1 + (bA T.exI).size := by omega
  have g2 : ¬ 9223372036854775807 < 1 + (bA T.exI).size + 1 := by omega
  by_cases hlt : levelX T.k < need
  · have HR := hide (show bA (T.atl need) = ⟨#[40]⟩ ++ bA T.exI ++ ⟨#[41]⟩ by
      rw [unhide HAT, decide_eq_true hlt]
      show bA (sg 40 :: (T.exI ++ [sg 41])) = _
      rw [bA_cons, bA_app, bA_sg, ByteArray.append_assoc]
      rfl)
    go_wp2_with fail
    go_ret
    exact ⟨by rw [unhide HR]; rfl, unhide HX⟩
  · have HR := hide (show bA (T.atl need) = bA T.exI by rw [unhide HAT, decide_eq_false hlt]; rfl)
    go_wp2_with fail
    go_ret
    exact ⟨by rw [unhide HR]; rfl, unhide HX⟩
theorem text_any : ∀ T : PT, TextSays T := PT.ind text_step
end Go.Proofs.YtpphjddljngkmaaGreatDoor

namespace Go.Proofs.YtpphjddljngkmaaGreatDoor
open Go.RowKit

theorem tg_nil {T : PT} (h : tgE T = 0) : T.wrongX = 0 ∧ isPl T.k = true := by
  unfold tgE at h
  by_cases q : T.wrongX ≠ 0
  · rw [if_pos q] at h; exact absurd h q
  · rw [if_neg q] at h
    by_cases z : isPl T.k = true
    · exact ⟨by omega, z⟩
    · rw [if_neg z] at h; omega
theorem fst0_cons {x : Int} {l : List Int} (h : fst0 (x :: l) = 0) : x = 0 ∧ fst0 l = 0 := by
  rw [fst0] at h
  by_cases q : x = 0
  · rw [if_pos q] at h; exact ⟨q, h⟩
  · rw [if_neg q] at h; exact absurd h q
end Go.Proofs.YtpphjddljngkmaaGreatDoor

namespace Go.Proofs.YtpphjddljngkmaaGreatDoor
open Go.RowKit

theorem nmI_snoc : ∀ (l : List ByteArray) (x : ByteArray), nmI (l ++ [x]) = if l = [] then [wd x] else nmI l ++ [sg 44, wd x]
  | [], x => rfl
  | [y], x => rfl
  | y :: z :: r, x => by
    have ih := nmI_snoc (z :: r) x
    rw [if_neg (by simp)] at ih ⊢
    show wd y :: sg 44 :: nmI ((z :: r) ++ [x]) = (wd y :: sg 44 :: nmI (z :: r)) ++ _
    rw [ih]
    rfl
theorem bA_nmS {l : List ByteArray} {k : Nat} {x : ByteArray} (hx : l[k]? = some x) : bA (nmI (l.take (k + 1))) = (if 0 < k then bA (nmI (l.take k)) ++ ⟨#[44]⟩ else bA (nmI (l.take k))) ++ x := by
  have hk : k < l.length := (List.getElem?_eq_some_iff.1 hx).1
  rw [List.take_add_one, hx, show (some x).toList = [x] from rfl, nmI_snoc]
  by_cases h : 0 < k
  · rw [if_neg (fun e => by have := congrArg List.length e; rw [List.length_take, List.length_nil] at this; omega), if_pos h, bA_app, bA_cons, bA_wd, ByteArray.append_assoc]
    rfl
  · obtain rfl : k = 0 := by omega
    rw [if_pos (by rfl), if_neg h, bA_wd]
    show x = (⟨#[]⟩ : ByteArray) ++ x
    rw [show (⟨#[]⟩ : ByteArray) = ByteArray.empty from rfl, ByteArray.empty_append]
theorem nm_len {l : List ByteArray} (h : ∀ t ∈ l, t.size ≤ 16) : ∀ k, k ≤ l.length → (bA (nmI (l.take k))).size ≤ 17 * k
  | 0, _ => by rw [List.take_zero]; exact Nat.le_refl _
  | k + 1, hk => by
    have ih := nm_len h k (by omega)
    obtain ⟨x, hx⟩ : ∃ x, l[k]? = some x := ⟨l[k], List.getElem?_eq_getElem _⟩
    have hs := h x (List.mem_of_getElem? hx)
    rw [bA_nmS hx, ByteArray.size_append]
    split
    · rw [ByteArray.size_append]
      show (bA (nmI (l.take k))).size + 1 + x.size ≤ _
      omega
    · omega
set_option maxRecDepth 100000 in
set_option maxHeartbeats 4000000 in
theorem commas_any (N : NL) (w : World) (hN : N.In w) (h8 : N.l.length ≤ 8) (h16 : ∀ t ∈ N.l, t.size ≤ 16) :
    Calls Tryz.prog 29 #[N.v] w fun e w' => e = .returned (.string (bA (nmI N.l))) ∧ w' = w := by
  have HI := hide hN
  have HLN := hide (nm_len h16)
  have HST := hide (fun k x (hx : N.l[k]? = some x) => bA_nmS hx)
  have HEN := hide (show bA (nmI N.l) = bA (nmI (N.l.take N.l.length)) by rw [List.take_length])
  have H16 := hide h16
  have hmx := hN.max
  unfold maxLen at hmx
  have hcp := hN.cap
  have hat := hN.at_
  unfold NL.v
  obtain ⟨n, hn⟩ : ∃ n, n = N.l.length := ⟨_, rfl⟩
  rw [← hn] at h8 hcp hat HLN HEN ⊢
  have HN := hide hn
  clear hn hN h16
  obtain ⟨f, hf⟩ : ∃ f, f = fun k => bA (nmI (N.l.take k)) := ⟨_, rfl⟩
  have HF := hide hf
  rw [show bA (nmI N.l) = f n by rw [hf]; exact unhide HEN]
  have HF0 : f 0 = ⟨#[]⟩ := by rw [hf]; rfl
  have HS := hide (fun k x (hx : N.l[k]? = some x) => show f (k + 1) = (if 0 < k then f k ++ ⟨#[44]⟩ else f k) ++ x by rw [hf]; exact unhide HST k x hx)
  have HZ := hide (fun k (hk : k ≤ n) => show (f k).size ≤ 17 * k by rw [hf]; exact unhide HLN k hk)
  clear hf HST HLN HEN
  go_enter Tryz.func29, Tryz.ntmps29
  go_wp2_with fail
  go_loopw [3, 8] (fun s i wl => ∃ k : Nat, k ≤ n ∧ i = .int .i64 (k : Int) ∧ s = .string (f k) ∧ Hid (wl = w)) (fun _ i _ => n - (intOf i).toNat)
  case atStart => exact ⟨0, by omega, rfl, by rw [HF0], rfl⟩
  case round =>
    obtain ⟨k, hk, rfl, rfl, HW⟩ := hrel
    obtain rfl := unhide HW
    rcases Nat.lt_or_ge k n with hlt | hge
    · obtain ⟨x, hx⟩ : ∃ x, N.l[k]? = some x := ⟨N.l[k]'(by have := unhide HN; omega), List.getElem?_eq_getElem _⟩
      have cx := ((unhide HI).cell k x hx).1
      have h16 := unhide H16 x (List.mem_of_getElem? hx)
      have hix := sl_idx (g := N.gb) (o := N.ob) (cap := N.cap) (i := k) (n := n) Tryz.underlying31 size_strS hlt
      rw [← hat (by omega)] at hix
      have HE := hide (unhide HS k x hx)
      have hz := unhide HZ k hk
      have hkk : (k : Int) < (n : Int) := by omega
      clear hx hat HF0
      generalize f k = y at *
      by_cases h0 : 0 < k
      · have HE := hide ((unhide HE).trans (by rw [if_pos h0]))
        have h0' : (0 : Int) < (k : Int) := by omega
        have g1 : ¬ 9223372036854775807 < y.size + 1 := by omega
        have g2 : ¬ 9223372036854775807 < y.size + 1 + x.size := by omega
        clear h0
        go_wp2_with fail
        exact ⟨⟨k + 1, by omega, by go_num, by rw [unhide HE], hide trivial⟩, by simp [intOf]; omega⟩
      · obtain rfl : k = 0 := by omega
        have HE := hide ((unhide HE).trans (by rw [if_neg h0]))
        have hix0 : ∀ W, (Instr.indexAt 31 (.slice N.xa n N.cap) (.int .i64 0)).run Tryz.prog W = .ok (.pointer (some ⟨N.gb, N.ob, none⟩)) W := fun W => by
          have := hix W
          simpa using this
        rw [Nat.add_zero] at cx
        have g1 : ¬ 9223372036854775807 < y.size + x.size := by omega
        clear h0
        go_wp2_with fail
        exact ⟨⟨1, by omega, by go_num, by rw [unhide HE], hide trivial⟩, by simp [intOf]; omega⟩
    · obtain rfl : k = n := by omega
      go_wp2_with fail
      go_ret
      exact ⟨rfl, rfl⟩
end Go.Proofs.YtpphjddljngkmaaGreatDoor

namespace Go.Proofs.YtpphjddljngkmaaGreatDoor
open Go.RowKit

/-- Nothing but a value's own row has changed; the new value lies there, or in what is new. -/
structure Ext (w w' : World) (v v' : Value) : Prop where
  grown : w.grownBy w' v.ownBlock
  lies : v'.ownBlock = v.ownBlock ∨ ∀ k, v'.ownBlock = some k → w.heap.size ≤ k
theorem Ext.below {w w' : World} (v : Value) (h : Below w.heap.size w w') : Ext w w' v v := ⟨⟨h.os, h.tape, h.output, h.size, fun k hk _ => h.block k hk⟩, .inl rfl⟩
theorem Ext.trans {a b c : World} {v1 v2 v3 : Value} (h : Ext a b v1 v2) (k : Ext b c v2 v3) : Ext a c v1 v3 := by
  refine ⟨⟨k.grown.os.trans h.grown.os, k.grown.tape.trans h.grown.tape, k.grown.output.trans h.grown.output, Nat.le_trans h.grown.size k.grown.size, fun i hi hne => ?_⟩, ?_⟩
  · refine (k.grown.block i (Nat.lt_of_lt_of_le hi h.grown.size) fun e => ?_).trans (h.grown.block i hi hne)
    rcases h.lies with x | x
    · exact hne (e.trans x)
    · have := x i e.symm
      omega
  · rcases k.lies with x | x
    · rcases h.lies with y | y
      · exact .inl (x.trans y)
      · exact .inr fun q hq => y q (x ▸ hq)
    · exact .inr fun q hq => Nat.le_trans h.grown.size (x q hq)
theorem Ext.row {w w' : World} {v v' : Value} (h : Ext w w' v v') {n : Nat} {x : Obj} (hn : some n ≠ v.ownBlock) (hx : w.heap[n]? = some x) : w'.heap[n]? = some x :=
  (h.grown.block n (Array.getElem?_eq_some_iff.1 hx).1 hn).trans hx
theorem Ext.bel {w w' : World} {v v' : Value} {B : Nat} {l : List UInt8} (h : Ext w w' v v') (hv : Bytes w B v l) (hB : B ≤ w.heap.size) : Below B w w' :=
  (Below.refl B w).grown h.grown hB (fun i hi => (World.ownsRow.lt hv i hi).1)
theorem Bytes.apart {w : World} {B : Nat} {v : Value} {l : List UInt8} (h : Bytes w B v l) {n : Nat} (hn : w.heap.size ≤ n) : some n ≠ v.ownBlock := fun e => by
  have := (World.ownsRow.lt h n e.symm).2
  omega
set_option maxRecDepth 100000 in
theorem str_ext {w : World} {B : Nat} {v : Value} {l : List UInt8} (h : Bytes w B v l) (hB : B ≤ w.heap.size) (s : ByteArray) (hl : l.length + s.size ≤ 100000000) (ty : TypeId) :
    ∃ v' w', (Builtin.append_ #[50, 9] ty #[v, .string s]).run Tryz.prog w = .ok v' w' ∧ Bytes w' B v' (l ++ s.data.toList) ∧ Ext w w' v v' := by
  have hinf := info_u8
  cases hi : Tryz.prog.info? 5 with
  | none => simp [hi] at hinf
  | some i0 =>
    simp only [hi, Option.map_some, Option.some.injEq, Prod.mk.injEq] at hinf
    obtain ⟨hz0, hz1, hz2⟩ := hinf
    obtain ⟨v', w', hr, h2, h3, h4⟩ := Lib.run_append_own_string (P := Tryz.prog) w B 50 9 ty 5 i0 Tryz.underlying50 Tryz.underlying9 hi hz0 hz1 hz2 v l.length (l.map bc) h s (by unfold maxLen; omega) (by omega) hB
    have hlie : v'.ownBlock = v.ownBlock ∨ ∀ k, v'.ownBlock = some k → w.heap.size ≤ k := by
      rcases h.2 with ⟨rfl, h0⟩ | ⟨g, cap, cur, rfl, hbg, hg, hnc, hcm, hcs, htake⟩
      · by_cases hm : s.size = 0
        · left
          rw [h4.2 ⟨rfl, hm⟩]
        · right
          have hx := run_append_nil_string (P := Tryz.prog) w 50 9 ty 5 i0 (.int .u8 0) Tryz.underlying50 Tryz.underlying9 hi hz0 s (by omega) (by omega) (by rw [hz2]; omega)
          rw [hr] at hx
          injection hx with e1 e2
          intro k hk
          rw [e1] at hk
          cases hk
          exact Nat.le_refl _
      · by_cases hroom : l.length + s.size ≤ cap
        · left
          have hcs' : cur.size = cap := by simpa using hcs
          have hx := Lib.run_append_room_string (P := Tryz.prog) w 50 9 ty 5 i0 Tryz.underlying50 Tryz.underlying9 hi hz1 g l.length cap cur hg s hroom (by omega)
          rw [hr] at hx
          injection hx with e1 e2
          rw [e1]; rfl
        · right
          have hx := Lib.run_append_grow_string (P := Tryz.prog) w 50 9 ty 5 i0 (.int .u8 0) Tryz.underlying50 Tryz.underlying9 hi hz0 ⟨g, 0, none⟩ l.length cap (l.map bc) (by rw [hz1]; simp) (World.ownsRow.cells h rfl) s (by omega) (by omega) (by rw [hz2]; exact growslice_fits (by omega) (by omega))
          rw [hr] at hx
          injection hx with e1 e2
          intro k hk
          rw [e1] at hk
          cases hk
          exact Nat.le_refl _
    refine ⟨v', w', hr, ?_, h3, hlie⟩
    unfold Bytes
    rw [List.length_append, List.map_append]
    have e1 : s.data.toList.length = s.size := by simp
    rw [e1]
    exact h2
theorem byte_ext {w : World} {B : Nat} {v : Value} {l : List UInt8} (h : Bytes w B v l) (hB : B ≤ w.heap.size) (b : UInt8) (ad : Addr) (c : Nat) (hc : w.cell? (ad.add 0) = some (bc b)) (hl : l.length + 1 ≤ 100000000) (ty : TypeId) :
    ∃ v' w', (Builtin.append_ #[50, 50] ty #[v, .slice (some ad) 1 c]).run Tryz.prog w = .ok v' w' ∧ Bytes w' B v' (l ++ [b]) ∧ Ext w w' v v' := by
  have hinf := info_u8
  cases hi : Tryz.prog.info? 5 with
  | none => simp [hi] at hinf
  | some i0 =>
    simp only [hi, Option.map_some, Option.some.injEq, Prod.mk.injEq] at hinf
    obtain ⟨hz0, hz1, hz2⟩ := hinf
    obtain ⟨v', w', hr, h2, h3, -, h5⟩ := run_append_own_at (P := Tryz.prog) w B 50 ty 5 i0 (.int .u8 0) 1 1 Tryz.underlying50 hi hz0 hz1 hz2 rfl (by decide) v l.length (l.map bc) h ad 1 c [bc b] rfl (fun j u hj => by
      have hj0 : j = 0 := by have := (List.getElem?_eq_some_iff.1 hj).1; simpa using this
      subst hj0
      have : u = bc b := by simpa using hj.symm
      rw [this]; exact hc) (by intro u hu; rw [List.mem_singleton] at hu; subst hu; rfl) (by unfold maxLen; omega) (by omega) hB
    refine ⟨v', w', hr, ?_, h3, ?_⟩
    · unfold Bytes
      rw [List.length_append, List.map_append]
      exact h2
    · rcases h5 with e | e
      · exact .inl e
      · exact .inr fun k hk => by rw [e] at hk; cases hk; exact Nat.le_refl _
theorem wpx_str {w : World} {ops : Array Oper} {rest : List Oper} {o : Oper} {a : Act} {Q : Exit → Act → World → Prop} (hgd : o.guard = none) (sl x : Operand)
    (ho : o.op = .call { callee := .builtin .append, args := #[sl, x], argTypes := #[50, 9] })
    (B : Nat) (v : Value) (l : List UInt8) (s : ByteArray) (hs : a.eval sl = v) (hx : a.eval x = .string s) (h : Bytes w B v l) (hB : B ≤ w.heap.size) (hl : l.length + s.size ≤ 100000000)
    (hK : ∀ v' w', Bytes w' B v' (l ++ s.data.toList) → Ext w w' v v' → wpList Tryz.prog ops Q rest (a.put o.dst v') w') : wpList Tryz.prog ops Q (o :: rest) a w := by
  refine wpList_plain hgd fun K hK' => ?_
  obtain ⟨v', w', hr, h1, h2⟩ := str_ext h hB s hl o.type
  unfold Oper.wp execOp
  simp only [ho, resolve, invoke, builtin, Sem.run_bind, Sem.run_pure, Result.andThen_ok, List.map_toArray, List.map_cons, List.map_nil, hs, hx, hr]
  exact hK' _ _ (hK v' w' h1 h2)
end Go.Proofs.YtpphjddljngkmaaGreatDoor
