/- Faults of a program are small; two faults that are the same. -/
import Derived.Test.YtpphjddljngkmaaDoorCkU0M
import Derived.DeepKeys
namespace Go.Proofs.YtpphjddljngkmaaDoor
open Go.RowKit

def Sm (e : Int) : Prop := 0 ≤ e ∧ e ≤ 20
theorem firstTo_sm {f : Nat → Int} : ∀ n, (∀ i, i < n → Sm (f i)) → Sm (firstTo f n)
  | 0, _ => ⟨Int.le_refl 0, (by decide : (0 : Int) ≤ 20)⟩
  | n + 1, h => by
    have ih := firstTo_sm n fun i hi => h i (by omega)
    rw [firstTo]
    split
    · exact h n (by omega)
    · exact ih
theorem errX_sm (T : PT) : Sm (errX T) := by unfold errX; (repeat' split) <;> exact ⟨by decide, by decide⟩
theorem errN_sm (T : PT) : Sm (errN T) := by unfold errN; (repeat' split) <;> exact ⟨by decide, by decide⟩
theorem badX_sm : ∀ T : PT, Sm T.badX := PT.ind fun T ih => by
  rw [T.badX_eq]
  split
  · exact firstTo_sm _ ih
  · exact errX_sm T
theorem bad_sm : ∀ T : PT, Sm T.bad := PT.ind fun T ih => by
  rw [T.bad_eq]
  split
  · exact firstTo_sm _ ih
  · exact errN_sm T
theorem wrongX_sm (T : PT) : Sm T.wrongX := by unfold PT.wrongX; split; exact badX_sm T; exact ⟨by decide, by decide⟩
theorem wrong_sm (T : PT) : Sm T.wrong := by unfold PT.wrong; split; exact bad_sm T; exact ⟨by decide, by decide⟩
theorem fst0_sm : ∀ l : List Int, (∀ x ∈ l, Sm x) → Sm (fst0 l)
  | [], _ => ⟨by decide, by decide⟩
  | x :: l, h => by
    unfold fst0
    split
    · exact fst0_sm l fun y hy => h y (List.mem_cons_of_mem _ hy)
    · exact h x List.mem_cons_self
theorem nmsE_sm (l : List ByteArray) : Sm (nmsE l) := by unfold nmsE; split <;> exact ⟨by decide, by decide⟩
theorem tgE_sm (T : PT) : Sm (tgE T) := by
  unfold tgE
  split
  · exact wrongX_sm T
  · split <;> exact ⟨by decide, by decide⟩
theorem sm2 {a b : Int} (ha : Sm a) (hb : Sm b) : Sm (fst0 [a, b]) := fst0_sm _ fun x hx => by
  simp only [List.mem_cons, List.not_mem_nil, or_false] at hx
  rcases hx with rfl | rfl
  · exact ha
  · exact hb
theorem sm3 {a b c : Int} (ha : Sm a) (hb : Sm b) (hc : Sm c) : Sm (fst0 [a, b, c]) := fst0_sm _ fun x hx => by
  simp only [List.mem_cons, List.not_mem_nil, or_false] at hx
  rcases hx with rfl | rfl | rfl
  · exact ha
  · exact hb
  · exact hc
theorem sv_sm (S : SV) : Sm S.wrong := by
  have h5 : Sm 5 := ⟨by decide, by decide⟩
  have h0 : Sm 0 := ⟨by decide, by decide⟩
  have h1 : Sm 1 := ⟨by decide, by decide⟩
  have hd : Sm S.dfE := by
    unfold SV.dfE
    split
    · exact h5
    · exact sm3 (nmsE_sm _) (nmsE_sm _) (nmsE_sm _)
  have hk : Sm S.kndE := by
    unfold SV.kndE
    (repeat' split)
    · exact h0
    · exact wrongX_sm _
    · exact sm2 (wrongX_sm _) (wrong_sm _)
    · exact sm2 (tgE_sm _) (wrongX_sm _)
    · exact sm3 (tgE_sm _) (wrong_sm _) (wrongX_sm _)
    · exact sm2 (nmsE_sm _) (wrong_sm _)
    · exact hd
    · exact h1
  unfold SV.wrong
  split
  · split
    · exact ⟨by decide, by decide⟩
    · exact hk
  · exact ⟨by decide, by decide⟩
/-- A fault is small. -/
def CSm (c : CS) : Prop := Sm c.er ∧ 0 ≤ c.at_ ∧ c.at_ ≤ 100000
theorem tell_sm {c : CS} {e i : Int} (h : CSm c) (he : Sm e) (h0 : 0 ≤ i) (h1 : i ≤ 100000) : CSm (c.tell e i) := by
  refine ⟨?_, ?_⟩
  · show Sm (tE c.er e)
    unfold tE
    split
    · exact he
    · exact h.1
  · show 0 ≤ tA c.er e c.at_ i ∧ tA c.er e c.at_ i ≤ 100000
    unfold tA
    split
    · exact ⟨h0, h1⟩
    · exact h.2
theorem tellIf_sm {c : CS} {b : Bool} {e i : Int} (h : CSm c) (he : Sm e) (h0 : 0 ≤ i) (h1 : i ≤ 100000) : CSm (c.tellIf b e i) := by
  unfold CS.tellIf
  split
  · exact tell_sm h he h0 h1
  · exact h
theorem learn_sm {c : CS} {i : Int} {S : SV} (h : CSm c) (h0 : 0 ≤ i) (h1 : i ≤ 100000) : CSm (c.learn i S) := by
  have hl : CSm (c.labS i S) := by
    unfold CS.labS
    split
    · exact h
    · exact tellIf_sm h ⟨by decide, by decide⟩ h0 h1
  show CSm ((c.labS i S).defS i S)
  unfold CS.defS
  split
  · exact tellIf_sm hl ⟨by decide, by decide⟩ h0 h1
  · exact hl
theorem wCall_sm (P : List SV) (ff : ByteArray → Option Int) (T : PT) : Sm (wCall P ff T) := by
  unfold wCall
  (repeat' split) <;> exact ⟨by decide, by decide⟩
theorem fold_sm {α : Type} {f : CS → α → CS} (hf : ∀ c a, CSm c → CSm (f c a)) : ∀ (l : List α) (c : CS), CSm c → CSm (l.foldl f c)
  | [], _, h => h
  | a :: l, c, h => fold_sm hf l _ (hf c a h)
theorem follow_sm {P : List SV} {c : CS} {i : Int} {S : SV} (h : CSm c) (h0 : 0 ≤ i) (h1 : i ≤ 100000) : CSm (c.follow P i S) := by
  have hl : CSm ([S.al, S.ye, S.no].foldl (CS.folL i) c) := fold_sm (fun c a q => tellIf_sm q ⟨by decide, by decide⟩ h0 h1) _ _ h
  have hd : CSm (([S.al, S.ye, S.no].foldl (CS.folL i) c).folD i S) := tellIf_sm hl ⟨by decide, by decide⟩ h0 h1
  exact fold_sm (fun c a q => tell_sm q (wCall_sm _ _ _) h0 h1) _ _ hd
theorem rnd_sm {step : CS → Int → SV → CS} (hs : ∀ c (i : Int) S, CSm c → 0 ≤ i → i ≤ 100000 → CSm (step c i S)) : ∀ (l : List SV) (i : Nat) (c : CS), i + l.length ≤ 100000 → CSm c → CSm (rnd step l i c)
  | [], _, _, _, h => h
  | S :: l, i, c, hl, h => by
    unfold rnd
    rw [List.length_cons] at hl
    split
    · exact rnd_sm hs l (i + 1) _ (by omega) (hs c _ S h (by omega) (by omega))
    · exact h
theorem look_sm (P : List SV) : CSm (lookS P) := by
  have h0 : CSm (CS.start P) := tellIf_sm ⟨⟨by decide, by decide⟩, by decide, by decide⟩ ⟨by decide, by decide⟩ (by decide) (by decide)
  by_cases hP : P.length ≤ 1000
  · exact rnd_sm (fun c i S h a b => follow_sm h a b) P 0 _ (by omega) (rnd_sm (fun c i S h a b => learn_sm h a b) P 0 _ (by omega) (rnd_sm (fun c i S h a b => tell_sm h (sv_sm S) a b) P 0 _ (by omega) h0))
  · have e : (CS.start P).er ≠ 0 := by
      have : decide (1000 < P.length) = true := decide_eq_true (by omega)
      unfold CS.start CS.tellIf
      rw [if_pos this]
      show tE 0 5 ≠ 0
      decide
    have e1 : look1 P = CS.start P := rnd_stop _ _ _ e
    have e2 : look2 P = CS.start P := by unfold look2; rw [e1]; exact rnd_stop _ _ _ e
    have e3 : lookS P = CS.start P := by unfold lookS; rw [e2]; exact rnd_stop _ _ _ e
    rw [e3]; exact h0
theorem wf_i64 (n : Int) (h0 : 0 ≤ n) (h : n ≤ 4294967296) : (Lit.int .i64 n).wf = true := by
  simp [Lit.wf, IntKind.min, IntKind.max, IntKind.signed, IntKind.bits]
  omega
theorem cells_fau : Tryd.prog.cellsOf 25 = 2 := by kernel_rfl
theorem cells_int : Tryd.prog.cellsOf 3 = 1 := by kernel_rfl
theorem cells_err : Tryd.prog.cellsOf 23 = 1 := by kernel_rfl
theorem key_fau : Tryd.prog.keyTypeAt 3 25 = true := by kernel_rfl
theorem lits_int (n : Int) (h0 : 0 ≤ n) (h : n ≤ 4294967296) : Tryd.prog.keyLits 1 3 [.int .i64 n] = some [.int .i64 n] := by
  unfold Program.keyLits
  rw [Tryd.underlying3]
  simp [wf_i64 n h0 h]
theorem lits_err (n : Int) (h0 : 0 ≤ n) (h : n ≤ 4294967296) : Tryd.prog.keyLits 1 23 [.int .i64 n] = some [.int .i64 n] := by
  unfold Program.keyLits
  rw [Tryd.underlying23]
  simp [wf_i64 n h0 h]
theorem lits_fau (x y : Int) (h0 : 0 ≤ x) (h : x ≤ 4294967296) (h1 : 0 ≤ y) (h2 : y ≤ 4294967296) : ∃ la, Tryd.prog.keyLits 2 25 (Value.agg #[.int .i64 x, .int .i64 y]).cells.toList = some la := by
  have e0 := lits_err x h0 h
  have e1 := lits_int y h1 h2
  unfold Program.keyLits
  rw [Tryd.underlying25]
  simp only [Value.cells, cells_fau, List.length_cons, List.length_nil]
  simp [cells_int, cells_err, e0, e1]
theorem eq_fau (x y : Int) (h0 : 0 ≤ x) (h : x ≤ 4294967296) (h1 : 0 ≤ y) (h2 : y ≤ 4294967296) (w : World) : (Op.equalIn 10000 25 (.agg #[.int .i64 x, .int .i64 y]) (.agg #[.int .i64 x, .int .i64 y])).run Tryd.prog w = .ok true w := by
  obtain ⟨la, hk⟩ := lits_fau x y h0 h h1 h2
  have hf : (Value.agg #[.int .i64 x, .int .i64 y]).formed Tryd.prog 25 = true := by simp [Value.formed, Tryd.underlying25, cells_fau]
  obtain ⟨r, q1, q2⟩ := run_equalIn_deep (P := Tryd.prog) 9997 3 25 key_fau w 2 2 _ _ la la hf hf hk hk
  rw [q1, q2.2 rfl]
end Go.Proofs.YtpphjddljngkmaaDoor
