/- Faults of a program are small; two faults that are the same. -/
import Derived.Test.YtpphjddljngkmaaDoorCkU0M
import Derived.DeepKeys
import Derived.Test.YtpphjddljngkmaaDoorRefChIP
import Derived.Test.YtpphjddljngkmaaDoorRefChQP
import Derived.Test.YtpphjddljngkmaaDoorCkXP
namespace Go.Proofs.YtpphjddljngkmaaDoor
open Go.RowKit

def Sm (e : Int) : Prop := 0 ≤ e ∧ e ≤ 20
theorem firstTo_sm {f : Nat → Int} : ∀ n, (∀ i, i < n → Sm (f i)) → Sm (firstTo f n)
  | 0, _ => ⟨Int.le_refl 0, (by decide : (0 : Int) ≤ 20)⟩
  | n + 1, h => by
    have ih := firstTo_sm n fun i hi => h i (by omega)
    rw [firstTo]
    split
    · exact h n (by omega)
    · exact ih
theorem errX_sm (T : PT) : Sm (errX T) := by unfold errX; (repeat' split) <;> exact ⟨by decide, by decide⟩
theorem errN_sm (T : PT) : Sm (errN T) := by unfold errN; (repeat' split) <;> exact ⟨by decide, by decide⟩
theorem badX_sm : ∀ T : PT, Sm T.badX := PT.ind fun T ih => by
  rw [T.badX_eq]
  split
  · exact firstTo_sm _ ih
  · exact errX_sm T
theorem bad_sm : ∀ T : PT, Sm T.bad := PT.ind fun T ih => by
  rw [T.bad_eq]
  split
  · exact firstTo_sm _ ih
  · exact errN_sm T
theorem wrongX_sm (T : PT) : Sm T.wrongX := by unfold PT.wrongX; split; exact badX_sm T; exact ⟨by decide, by decide⟩
theorem wrong_sm (T : PT) : Sm T.wrong := by unfold PT.wrong; split; exact bad_sm T; exact ⟨by decide, by decide⟩
theorem fst0_sm : ∀ l : List Int, (∀ x ∈ l, Sm x) → Sm (fst0 l)
  | [], _ => ⟨by decide, by decide⟩
  | x :: l, h => by
    unfold fst0
    split
    · exact fst0_sm l fun y hy => h y (List.mem_cons_of_mem _ hy)
    · exact h x List.mem_cons_self
theorem nmsE_sm (l : List ByteArray) : Sm (nmsE l) := by unfold nmsE; split <;> exact ⟨by decide, by decide⟩
theorem tgE_sm (T : PT) : Sm (tgE T) := by
  unfold tgE
  split
  · exact wrongX_sm T
  · split <;> exact ⟨by decide, by decide⟩
theorem sm2 {a b : Int} (ha : Sm a) (hb : Sm b) : Sm (fst0 [a, b]) := fst0_sm _ fun x hx => by
  simp only [List.mem_cons, List.not_mem_nil, or_false] at hx
  rcases hx with rfl | rfl
  · exact ha
  · exact hb
theorem sm3 {a b c : Int} (ha : Sm a) (hb : Sm b) (hc : Sm c) : Sm (fst0 [a, b, c]) := fst0_sm _ fun x hx => by
  simp only [List.mem_cons, List.not_mem_nil, or_false] at hx
  rcases hx with rfl | rfl | rfl
  · exact ha
  · exact hb
  · exact hc
theorem sv_sm (S : SV) : Sm S.wrong := by
  have h5 : Sm 5 := ⟨by decide, by decide⟩
  have h0 : Sm 0 := ⟨by decide, by decide⟩
  have h1 : Sm 1 := ⟨by decide, by decide⟩
  have hd : Sm S.dfE := by
    unfold SV.dfE
    split
    · exact h5
    · exact sm3 (nmsE_sm _) (nmsE_sm _) (nmsE_sm _)
  have hk : Sm S.kndE := by
    unfold SV.kndE
    (repeat' split)
    · exact h0
    · exact wrongX_sm _
    · exact sm2 (wrongX_sm _) (wrong_sm _)
    · exact sm2 (tgE_sm _) (wrongX_sm _)
    · exact sm3 (tgE_sm _) (wrong_sm _) (wrongX_sm _)
    · exact sm2 (nmsE_sm _) (wrong_sm _)
    · exact hd
    · exact h1
  unfold SV.wrong
  split
  · split
    · exact ⟨by decide, by decide⟩
    · exact hk
  · exact ⟨by decide, by decide⟩
/-- A fault is small. -/
def CSm (c : CS) : Prop := Sm c.er ∧ 0 ≤ c.at_ ∧ c.at_ ≤ 100000
theorem tell_sm {c : CS} {e i : Int} (h : CSm c) (he : Sm e) (h0 : 0 ≤ i) (h1 : i ≤ 100000) : CSm (c.tell e i) := by
  refine ⟨?_, ?_⟩
  · show Sm (tE c.er e)
    unfold tE
    split
    · exact he
    · exact h.1
  · show 0 ≤ tA c.er e c.at_ i ∧ tA c.er e c.at_ i ≤ 100000
    unfold tA
    split
    · exact ⟨h0, h1⟩
    · exact h.2
theorem tellIf_sm {c : CS} {b : Bool} {e i : Int} (h : CSm c) (he : Sm e) (h0 : 0 ≤ i) (h1 : i ≤ 100000) : CSm (c.tellIf b e i) := by
  unfold CS.tellIf
  split
  · exact tell_sm h he h0 h1
  · exact h
theorem learn_sm {c : CS} {i : Int} {S : SV} (h : CSm c) (h0 : 0 ≤ i) (h1 : i ≤ 100000) : CSm (c.learn i S) := by
  have hl : CSm (c.labS i S) := by
    unfold CS.labS
    split
    · exact h
    · exact tellIf_sm h ⟨by decide, by decide⟩ h0 h1
  show CSm ((c.labS i S).defS i S)
  unfold CS.defS
  split
  · exact tellIf_sm hl ⟨by decide, by decide⟩ h0 h1
  · exact hl
theorem wCall_sm (P : List SV) (ff : ByteArray → Option Int) (T : PT) : Sm (wCall P ff T) := by
  unfold wCall
  (repeat' split) <;> exact ⟨by decide, by decide⟩
theorem fold_sm {α : Type} {f : CS → α → CS} (hf : ∀ c a, CSm c → CSm (f c a)) : ∀ (l : List α) (c : CS), CSm c → CSm (l.foldl f c)
  | [], _, h => h
  | a :: l, c, h => fold_sm hf l _ (hf c a h)
theorem follow_sm {P : List SV} {c : CS} {i : Int} {S : SV} (h : CSm c) (h0 : 0 ≤ i) (h1 : i ≤ 100000) : CSm (c.follow P i S) := by
  have hl : CSm ([S.al, S.ye, S.no].foldl (CS.folL i) c) := fold_sm (fun c a q => tellIf_sm q ⟨by decide, by decide⟩ h0 h1) _ _ h
  have hd : CSm (([S.al, S.ye, S.no].foldl (CS.folL i) c).folD i S) := tellIf_sm hl ⟨by decide, by decide⟩ h0 h1
  exact fold_sm (fun c a q => tell_sm q (wCall_sm _ _ _) h0 h1) _ _ hd
theorem rnd_sm {step : CS → Int → SV → CS} (hs : ∀ c (i : Int) S, CSm c → 0 ≤ i → i ≤ 100000 → CSm (step c i S)) : ∀ (l : List SV) (i : Nat) (c : CS), i + l.length ≤ 100000 → CSm c → CSm (rnd step l i c)
  | [], _, _, _, h => h
  | S :: l, i, c, hl, h => by
    unfold rnd
    rw [List.length_cons] at hl
    split
    · exact rnd_sm hs l (i + 1) _ (by omega) (hs c _ S h (by omega) (by omega))
    · exact h
theorem look_sm (P : List SV) : CSm (lookS P) := by
  have h0 : CSm (CS.start P) := tellIf_sm ⟨⟨by decide, by decide⟩, by decide, by decide⟩ ⟨by decide, by decide⟩ (by decide) (by decide)
  by_cases hP : P.length ≤ 1000
  · exact rnd_sm (fun c i S h a b => follow_sm h a b) P 0 _ (by omega) (rnd_sm (fun c i S h a b => learn_sm h a b) P 0 _ (by omega) (rnd_sm (fun c i S h a b => tell_sm h (sv_sm S) a b) P 0 _ (by omega) h0))
  · have e : (CS.start P).er ≠ 0 := by
      have : decide (1000 < P.length) = true := decide_eq_true (by omega)
      unfold CS.start CS.tellIf
      rw [if_pos this]
      show tE 0 5 ≠ 0
      decide
    have e1 : look1 P = CS.start P := rnd_stop _ _ _ e
    have e2 : look2 P = CS.start P := by unfold look2; rw [e1]; exact rnd_stop _ _ _ e
    have e3 : lookS P = CS.start P := by unfold lookS; rw [e2]; exact rnd_stop _ _ _ e
    rw [e3]; exact h0
theorem wf_i64 (n : Int) (h0 : 0 ≤ n) (h : n ≤ 4294967296) : (Lit.int .i64 n).wf = true := by
  simp [Lit.wf, IntKind.min, IntKind.max, IntKind.signed, IntKind.bits]
  omega
theorem cells_fau : Tryd.prog.cellsOf 25 = 2 := by kernel_rfl
theorem cells_int : Tryd.prog.cellsOf 3 = 1 := by kernel_rfl
theorem cells_err : Tryd.prog.cellsOf 23 = 1 := by kernel_rfl
theorem key_fau : Tryd.prog.keyTypeAt 3 25 = true := by kernel_rfl
theorem lits_int (n : Int) (h0 : 0 ≤ n) (h : n ≤ 4294967296) : Tryd.prog.keyLits 1 3 [.int .i64 n] = some [.int .i64 n] := by
  unfold Program.keyLits
  rw [Tryd.underlying3]
  simp [wf_i64 n h0 h]
theorem lits_err (n : Int) (h0 : 0 ≤ n) (h : n ≤ 4294967296) : Tryd.prog.keyLits 1 23 [.int .i64 n] = some [.int .i64 n] := by
  unfold Program.keyLits
  rw [Tryd.underlying23]
  simp [wf_i64 n h0 h]
theorem lits_fau (x y : Int) (h0 : 0 ≤ x) (h : x ≤ 4294967296) (h1 : 0 ≤ y) (h2 : y ≤ 4294967296) : ∃ la, Tryd.prog.keyLits 2 25 (Value.agg #[.int .i64 x, .int .i64 y]).cells.toList = some la := by
  have e0 := lits_err x h0 h
  have e1 := lits_int y h1 h2
  unfold Program.keyLits
  rw [Tryd.underlying25]
  simp only [Value.cells, cells_fau, List.length_cons, List.length_nil]
  simp [cells_int, cells_err, e0, e1]
theorem eq_fau (x y : Int) (h0 : 0 ≤ x) (h : x ≤ 4294967296) (h1 : 0 ≤ y) (h2 : y ≤ 4294967296) (w : World) : (Op.equalIn 10000 25 (.agg #[.int .i64 x, .int .i64 y]) (.agg #[.int .i64 x, .int .i64 y])).run Tryd.prog w = .ok true w := by
  obtain ⟨la, hk⟩ := lits_fau x y h0 h h1 h2
  have hf : (Value.agg #[.int .i64 x, .int .i64 y]).formed Tryd.prog 25 = true := by simp [Value.formed, Tryd.underlying25, cells_fau]
  obtain ⟨r, q1, q2⟩ := run_equalIn_deep (P := Tryd.prog) 9997 3 25 key_fau w 2 2 _ _ la la hf hf hk hk
  rw [q1, q2.2 rfl]
end Go.Proofs.YtpphjddljngkmaaDoor
namespace Go.Proofs.YtpphjddljngkmaaDoor
open Go.RowKit

/-- The document's Check says what the checker says. -/
theorem refCheck_look (V : PV) (P : List SV) (w : World) (hp : PIn w V P) (hM : Sml P) :
    Calls Tryd.prog 5 #[V.v P.length] w fun e w' => e = .returned (.agg #[.int .i64 (lookS P).er, .int .i64 (lookS P).at_]) ∧ Below w.heap.size w w' := by
  have h := chk_look P
  rw [h.1, h.2.1]
  exact refCheck_any V P w hp hM
theorem refReached_look (V : PV) (P : List SV) (w : World) (hp : PIn w V P) (hM : Sml P) : Calls Tryd.prog 9 #[V.v P.length] w (ReachPost w P) := by
  have h := chk_look P
  refine (refReached_any V P w hp hM).mono fun e w' q => ?_
  obtain ⟨q, hb⟩ := q
  refine ⟨?_, hb⟩
  rcases q with ⟨h0, rfl⟩ | ⟨h0, rb, o, hR, rfl, hr, hrB⟩
  · exact .inl ⟨by rw [h.1]; exact h0, by rw [h.1, h.2.1]⟩
  · have e : o = reachS P (lookS P) := rch_reach (chk_ok h0) (h.2.2 h0) hR
    exact .inr ⟨by rw [h.1]; exact h0, rb, rfl, by rw [← e]; exact hr, hrB⟩
set_option maxRecDepth 100000 in
set_option maxHeartbeats 8000000 in
theorem checkTells_walk (V : PV) (P : List SV) (nm : ByteArray) (w : World) (hX : ShapesX w) (hP : Shapes w) (hPr : PIn w V P) (hM : Sml P) :
    Calls Tryd.prog 3 #[V.v P.length, .string nm] w fun e w' => e = .returned (.bool true) ∧ Below w.heap.size w w' := by
  have HEN := hide (fun W (q : Below w.heap.size w W) => (⟨fun W' q' => hPr.later (bnext q q'), fun W' q' => (hX.later q).later q', fun W' q' => (hP.later q).later q'⟩ : Env W.heap.size W V P))
  have HPR := hide (fun W (q : Below w.heap.size w W) => hPr.later q)
  have HM := hide hM
  have HC1 := hide (check_any w V P (unhide HEN w (Below.refl _ _)))
  have hsm := look_sm P
  have heq := eq_fau (lookS P).er (lookS P).at_ hsm.1.1 (by have := hsm.1.2; omega) hsm.2.1 (by have := hsm.2.2; omega)
  have hmx := hPr.max
  unfold maxLen at hmx
  have hcap := hPr.cap
  unfold ChkPost at HC1
  have HC2 := hide (fun W (q : Below w.heap.size w W) => refCheck_look V P W (unhide HPR W q) (unhide HM))
  have HR1 := hide (fun W (q : Below w.heap.size w W) => reached_any W V P (unhide HEN W q))
  have HR2 := hide (fun W (q : Below w.heap.size w W) => refReached_look V P W (unhide HPR W q) (unhide HM))
  have HBU := hide (fun W => builtin_any nm W)
  have HAR := hide (fun W => refArgs_any nm W)
  have HRL := hide (reach_len P (lookS P))
  unfold ReachPost at HR1 HR2
  unfold PV.v at HC1 HC2 HR1 HR2 ⊢
  clear hX hP hPr hM hsm
  generalize reachS P (lookS P) = r at *
  generalize (lookS P).er = er at *
  generalize (lookS P).at_ = at2 at *
  go_enter Tryd.func3, Tryd.ntmps3
  go_wp2_with fail
  refine (unhide HC1).mono ?_
  rintro e w1 ⟨rfl, hb1⟩
  have HB1 := hide hb1
  clear hb1 HC1
  go_wp2_with fail
  refine (unhide HC2 w1 (unhide HB1)).mono ?_
  rintro e w2 ⟨rfl, hb2⟩
  have HB2 := hide (bnext2 (unhide HB1) hb2)
  clear hb2 HC2
  go_wp2_with fail
  refine (unhide HBU w2).mono ?_
  rintro e w3 ⟨rfl, rfl⟩
  go_wp2_with fail
  refine (unhide HAR w3).mono ?_
  rintro e w4 ⟨rfl, hb4⟩
  have HB4 := hide (bnext2 (unhide HB2) hb4)
  clear hb4
  generalize blt nm = bb at *
  go_wp2_with fail
  refine (unhide HR1 w4 (unhide HB4)).mono ?_
  rintro e w5 ⟨hr, hb5⟩
  have HB5 := hide (bnext2 (unhide HB4) hb5)
  clear hb5 HR1
  rcases hr with ⟨he, rfl⟩ | ⟨he, rb, rfl, hrb, hrB⟩
  case inl =>
    have HBA := hide ((unhide HB5).alloc (unhide HB5).size (.cells #[.int .i64 er, .int .i64 at2] 25))
    go_wp2_with fail
    refine (unhide HR2 _ (unhide HBA)).mono ?_
    rintro e w6 ⟨hr2, hb6⟩
    have HB6 := hide (bnext2 (unhide HBA) hb6)
    have hf := row_below (show (w5.alloc (.cells #[.int .i64 er, .int .i64 at2] 25)).heap[w5.heap.size]? = some (.cells #[.int .i64 er, .int .i64 at2] 25 (0, 0)) from at_new rfl) hb6
    have hlt6 : w5.heap.size < w6.heap.size := (Array.getElem?_eq_some_iff.1 hf).1
    rcases hr2 with ⟨-, rfl⟩ | ⟨h0, -⟩
    case inr => exact absurd h0 he
    have HR6 := hide (show (w6.alloc (.cells #[.int .i64 er, .int .i64 at2] 25)).heap[w5.heap.size]? = some (.cells #[.int .i64 er, .int .i64 at2] 25 (0, 0)) from at_old hlt6 hf)
    have c0 : (w6.alloc (.cells #[.int .i64 er, .int .i64 at2] 25)).cell? ⟨w5.heap.size, 0, none⟩ = some (.int .i64 er) := cr (unhide HR6)
    have c1 : (w6.alloc (.cells #[.int .i64 er, .int .i64 at2] 25)).cell? ⟨w5.heap.size, 1, none⟩ = some (.int .i64 at2) := cr (unhide HR6)
    have d0 : (w6.alloc (.cells #[.int .i64 er, .int .i64 at2] 25)).cell? ⟨w6.heap.size, 0, none⟩ = some (.int .i64 er) := cr (at_new rfl)
    have d1 : (w6.alloc (.cells #[.int .i64 er, .int .i64 at2] 25)).cell? ⟨w6.heap.size, 1, none⟩ = some (.int .i64 at2) := cr (at_new rfl)
    have HB7 := hide ((unhide HB6).alloc (unhide HB6).size (.cells #[.int .i64 er, .int .i64 at2] 25))
    clear hb6 hf he HR2
    go_wp2_with fail
    go_loopw [54] (fun i wl => i = .int .i64 0 ∧ Hid (Below w.heap.size w wl)) (fun _ _ => 0)
    case atStart => exact ⟨rfl, HB7⟩
    case round =>
      obtain ⟨rfl, HBL⟩ := hrel
      go_wp2_with fail
      go_ret
      exact ⟨rfl, unhide HBL⟩
  case inr =>
    have HBA := hide ((unhide HB5).alloc (unhide HB5).size (.cells #[.int .i64 0, .int .i64 0] 25))
    go_wp2_with fail
    refine (unhide HR2 _ (unhide HBA)).mono ?_
    rintro e w6 ⟨hr2, hb6⟩
    have HB6 := hide (bnext2 (unhide HBA) hb6)
    have hf := row_below (show (w5.alloc (.cells #[.int .i64 0, .int .i64 0] 25)).heap[w5.heap.size]? = some (.cells #[.int .i64 0, .int .i64 0] 25 (0, 0)) from at_new rfl) hb6
    have hrb6 := row_below (at_old (o := .cells #[.int .i64 0, .int .i64 0] 25) (Array.getElem?_eq_some_iff.1 hrb).1 hrb) hb6
    have hlt6 : w5.heap.size < w6.heap.size := (Array.getElem?_eq_some_iff.1 hf).1
    rcases hr2 with ⟨h0, -⟩ | ⟨-, rb2, rfl, hrb2, -⟩
    case inl => exact absurd he h0
    have HR6 := hide (show (w6.alloc (.cells #[.int .i64 0, .int .i64 0] 25)).heap[w5.heap.size]? = some (.cells #[.int .i64 0, .int .i64 0] 25 (0, 0)) from at_old hlt6 hf)
    obtain ⟨w7, hw7⟩ : ∃ w7, w7 = w6.alloc (.cells #[.int .i64 0, .int .i64 0] 25) := ⟨_, rfl⟩
    have HS6 := hide (show w7.heap[w6.heap.size]? = some (.cells #[.int .i64 0, .int .i64 0] 25 (0, 0)) by rw [hw7]; exact at_new rfl)
    have HRB := hide (show w7.heap[rb]? = some (.cells (bV r) 4 (0, 0)) by rw [hw7]; exact at_old (Array.getElem?_eq_some_iff.1 hrb6).1 hrb6)
    have HRC := hide (show w7.heap[rb2]? = some (.cells (bV r) 4 (0, 0)) by rw [hw7]; exact at_old (Array.getElem?_eq_some_iff.1 hrb2).1 hrb2)
    have HB7 := hide (show Below w.heap.size w w7 by rw [hw7]; exact (unhide HB6).alloc (unhide HB6).size _)
    rw [← hw7] at HR6
    clear hb6 hf hrb hrb6 hrb2 HR2
    go_upto_region 9 with fail
    rw [← hw7]
    clear hw7
    subst he
    have c0 : w7.cell? ⟨w5.heap.size, 0, none⟩ = some (.int .i64 0) := cr (unhide HR6)
    have c1 : w7.cell? ⟨w5.heap.size, 1, none⟩ = some (.int .i64 0) := cr (unhide HR6)
    have d0 : w7.cell? ⟨w6.heap.size, 0, none⟩ = some (.int .i64 0) := cr (unhide HS6)
    have d1 : w7.cell? ⟨w6.heap.size, 1, none⟩ = some (.int .i64 0) := cr (unhide HS6)
    have heq0 := fun w => eq_fau 0 0 (by decide) (by decide) (by decide) (by decide) w
    go_wp2_with fail
    go_loopw [54] (fun i wl => ∃ k : Nat, k ≤ P.length ∧ i = .int .i64 (k : Int) ∧ Hid (Below w7.heap.size w7 wl)) (fun i _ => P.length - (intOf i).toNat)
    case atStart => exact ⟨0, by omega, rfl, Below.refl _ _⟩
    case round =>
      obtain ⟨k, hk, rfl, HBL⟩ := hrel
      rcases Nat.lt_or_ge k P.length with hlt | hge
      · obtain ⟨b, hb⟩ : ∃ b, r[k]? = some b := ⟨r[k]'(by rw [unhide HRL]; exact hlt), List.getElem?_eq_getElem _⟩
        have ca := bool_cell (row_below (unhide HRB) (unhide HBL)) hb
        have cb := bool_cell (row_below (unhide HRC) (unhide HBL)) hb
        have hia := sl_idx (g := rb) (o := 0) (cap := P.length) (i := k) (n := P.length) Tryd.underlying28 size_boolS hlt
        have hib := sl_idx (g := rb2) (o := 0) (cap := P.length) (i := k) (n := P.length) Tryd.underlying28 size_boolS hlt
        rw [Nat.zero_add] at hia hib
        have hkk : (k : Int) < (P.length : Int) := by omega
        clear hb
        go_wp2_with fail
        go_quiet (fail)
        go_wp2_with fail
        exact ⟨⟨k + 1, by omega, by go_num, hide (below_drewN (unhide HBL) _)⟩, by simp [intOf]; omega⟩
      · obtain rfl : k = P.length := by omega
        have HBE := hide (bnext2 (unhide HB7) (unhide HBL))
        go_wp2_with fail
        go_ret
        exact ⟨rfl, unhide HBE⟩
end Go.Proofs.YtpphjddljngkmaaDoor
