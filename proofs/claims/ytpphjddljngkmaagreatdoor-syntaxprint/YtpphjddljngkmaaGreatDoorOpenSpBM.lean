/- Errors are small; two faults that are the same (split from CdS). SyntaxPrint, the law's walk. The table of kinds, out of what the row lists. A pattern that came in, opened: its nodes lie in memory, and there are no more of them than the reading has values. A pattern, and rules, that came in, opened. The table of expressions' kinds, out of what the row lists; statements that came in, opened. Statements that came in, opened; how large their patterns and lists of names are. -/
import Derived.Test.YtpphjddljngkmaaGreatDoorStCP
import Derived.DeepKeys
import Derived.Test.YtpphjddljngkmaaGreatDoorTxFP
import Derived.Test.YtpphjddljngkmaaGreatDoorRows
import Derived.Test.YtpphjddljngkmaaGreatDoorPatWrongP
import Derived.ProofKit
import Derived.OpenShut
import Derived.LaidLaws
import Derived.Lib.LaidTab
import Derived.Test.YtpphjddljngkmaaGreatDoorPatNamedM
import Derived.Deep.Slices
import Derived.WalkKit
import Derived.Test.YtpphjddljngkmaaGreatDoorStBM
import Derived.Stop.LaidErr
namespace Go.Proofs.YtpphjddljngkmaaGreatDoor
open Go.RowKit

def Sm (e : Int) : Prop := 0 ≤ e ∧ e ≤ 20
theorem firstTo_sm {f : Nat → Int} : ∀ n, (∀ i, i < n → Sm (f i)) → Sm (firstTo f n)
  | 0, _ => ⟨Int.le_refl 0, (by decide : (0 : Int) ≤ 20)⟩
  | n + 1, h => by
    have ih := firstTo_sm n fun i hi => h i (by omega)
    rw [firstTo]
    split
    · exact h n (by omega)
    · exact ih
theorem errX_sm (T : PT) : Sm (errX T) := by unfold errX; (repeat' split) <;> exact ⟨by decide, by decide⟩
theorem errN_sm (T : PT) : Sm (errN T) := by unfold errN; (repeat' split) <;> exact ⟨by decide, by decide⟩
theorem badX_sm : ∀ T : PT, Sm T.badX := PT.ind fun T ih => by
  rw [T.badX_eq]
  split
  · exact firstTo_sm _ ih
  · exact errX_sm T
theorem bad_sm : ∀ T : PT, Sm T.bad := PT.ind fun T ih => by
  rw [T.bad_eq]
  split
  · exact firstTo_sm _ ih
  · exact errN_sm T
theorem wrongX_sm (T : PT) : Sm T.wrongX := by unfold PT.wrongX; split; exact badX_sm T; exact ⟨by decide, by decide⟩
theorem wrong_sm (T : PT) : Sm T.wrong := by unfold PT.wrong; split; exact bad_sm T; exact ⟨by decide, by decide⟩
theorem fst0_sm : ∀ l : List Int, (∀ x ∈ l, Sm x) → Sm (fst0 l)
  | [], _ => ⟨by decide, by decide⟩
  | x :: l, h => by
    unfold fst0
    split
    · exact fst0_sm l fun y hy => h y (List.mem_cons_of_mem _ hy)
    · exact h x List.mem_cons_self
theorem nmsE_sm (l : List ByteArray) : Sm (nmsE l) := by unfold nmsE; split <;> exact ⟨by decide, by decide⟩
theorem tgE_sm (T : PT) : Sm (tgE T) := by
  unfold tgE
  split
  · exact wrongX_sm T
  · split <;> exact ⟨by decide, by decide⟩
theorem sm2 {a b : Int} (ha : Sm a) (hb : Sm b) : Sm (fst0 [a, b]) := fst0_sm _ fun x hx => by
  simp only [List.mem_cons, List.not_mem_nil, or_false] at hx
  rcases hx with rfl | rfl
  · exact ha
  · exact hb
theorem sm3 {a b c : Int} (ha : Sm a) (hb : Sm b) (hc : Sm c) : Sm (fst0 [a, b, c]) := fst0_sm _ fun x hx => by
  simp only [List.mem_cons, List.not_mem_nil, or_false] at hx
  rcases hx with rfl | rfl | rfl
  · exact ha
  · exact hb
  · exact hc
theorem sv_sm (S : SV) : Sm S.wrong := by
  have h5 : Sm 5 := ⟨by decide, by decide⟩
  have h0 : Sm 0 := ⟨by decide, by decide⟩
  have h1 : Sm 1 := ⟨by decide, by decide⟩
  have hd : Sm S.dfE := by
    unfold SV.dfE
    split
    · exact h5
    · exact sm3 (nmsE_sm _) (nmsE_sm _) (nmsE_sm _)
  have hk : Sm S.kndE := by
    unfold SV.kndE
    (repeat' split)
    · exact h0
    · exact wrongX_sm _
    · exact sm2 (wrongX_sm _) (wrong_sm _)
    · exact sm2 (tgE_sm _) (wrongX_sm _)
    · exact sm3 (tgE_sm _) (wrong_sm _) (wrongX_sm _)
    · exact sm2 (nmsE_sm _) (wrong_sm _)
    · exact hd
    · exact h1
  unfold SV.wrong
  split
  · split
    · exact ⟨by decide, by decide⟩
    · exact hk
  · exact ⟨by decide, by decide⟩
theorem wf_i64 (n : Int) (h0 : 0 ≤ n) (h : n ≤ 4294967296) : (Lit.int .i64 n).wf = true := by
  simp [Lit.wf, IntKind.min, IntKind.max, IntKind.signed, IntKind.bits]
  omega
theorem cells_fau : Tryz.prog.cellsOf 38 = 2 := by kernel_rfl
theorem cells_int : Tryz.prog.cellsOf 3 = 1 := by kernel_rfl
theorem cells_err : Tryz.prog.cellsOf 26 = 1 := by kernel_rfl
theorem key_fau : Tryz.prog.keyTypeAt 3 38 = true := by kernel_rfl
theorem lits_int (n : Int) (h0 : 0 ≤ n) (h : n ≤ 4294967296) : Tryz.prog.keyLits 1 3 [.int .i64 n] = some [.int .i64 n] := by
  unfold Program.keyLits
  rw [Tryz.underlying3]
  simp [wf_i64 n h0 h]
theorem lits_err (n : Int) (h0 : 0 ≤ n) (h : n ≤ 4294967296) : Tryz.prog.keyLits 1 26 [.int .i64 n] = some [.int .i64 n] := by
  unfold Program.keyLits
  rw [Tryz.underlying26]
  simp [wf_i64 n h0 h]
theorem lits_fau (x y : Int) (h0 : 0 ≤ x) (h : x ≤ 4294967296) (h1 : 0 ≤ y) (h2 : y ≤ 4294967296) : ∃ la, Tryz.prog.keyLits 2 38 (Value.agg #[.int .i64 x, .int .i64 y]).cells.toList = some la := by
  have e0 := lits_err x h0 h
  have e1 := lits_int y h1 h2
  unfold Program.keyLits
  rw [Tryz.underlying38]
  simp only [Value.cells, cells_fau, List.length_cons, List.length_nil]
  simp [cells_int, cells_err, e0, e1]
theorem eq_fau (x y : Int) (h0 : 0 ≤ x) (h : x ≤ 4294967296) (h1 : 0 ≤ y) (h2 : y ≤ 4294967296) (w : World) : (Op.equalIn 10000 38 (.agg #[.int .i64 x, .int .i64 y]) (.agg #[.int .i64 x, .int .i64 y])).run Tryz.prog w = .ok true w := by
  obtain ⟨la, hk⟩ := lits_fau x y h0 h h1 h2
  have hf : (Value.agg #[.int .i64 x, .int .i64 y]).formed Tryz.prog 38 = true := by simp [Value.formed, Tryz.underlying38, cells_fau]
  obtain ⟨r, q1, q2⟩ := run_equalIn_deep (P := Tryz.prog) 9997 3 38 key_fau w 2 2 _ _ la la hf hf hk hk
  rw [q1, q2.2 rfl]
end Go.Proofs.YtpphjddljngkmaaGreatDoor

namespace Go.Proofs.YtpphjddljngkmaaGreatDoor
open Go.RowKit

theorem yieldsR {P : Program} {ops : Array Oper} {S : World → Prop} {o : Oper} {a : Act} (ty : TypeId) (x : Operand) (ho : o.op = .load ty x) (hw : Region.wanted o (yielded ops a.tmps) = true)
    (g : Nat) (hx : a.eval x = .pointer (some ⟨g, 0, none⟩)) (t : TypeId) (cs : Array Value) (fr : Nat × Nat) (d : TypeDesc) (hg : ∀ w, S w → w.heap[g]? = some (.cells cs t fr))
    (hu : P.underlying ty = some d) (hd : (match d with | .struct _ | .array _ _ => true | _ => false) = true) (hi : (P.info? ty).map (·.size) = some cs.size) : YieldsIf P ops S o (.agg cs) a :=
  Or.inl ⟨hw, fun w hS => by
    unfold execOp
    simp only [ho, hx, Instr.loadAt, Instr.sureAddr, Sem.run_bind, Sem.run_pure, Result.andThen_ok, run_loadVar_row w g t ty cs fr d (hg w hS) hu hd hi]⟩
theorem prA_small (S : SV) : 0 ≤ (prA S).2 ∧ (prA S).2 ≤ 4294967296 := by
  unfold prA
  have h := sv_sm S
  unfold Sm at h
  split
  · exact ⟨h.1, by have := h.2; show S.wrong ≤ _; omega⟩
  · split
    · show (0 : Int) ≤ 4 ∧ (4 : Int) ≤ 4294967296; decide
    · split
      · show (0 : Int) ≤ 2 ∧ (2 : Int) ≤ 4294967296; decide
      · split
        · show (0 : Int) ≤ 4 ∧ (4 : Int) ≤ 4294967296; decide
        · show (0 : Int) ≤ 0 ∧ (0 : Int) ≤ 4294967296; decide
theorem shF_small : ∀ (l : List SV) (i : Nat), i + l.length ≤ 1000000 → (0 ≤ (shF l i).1 ∧ (shF l i).1 ≤ 4294967296) ∧ (0 ≤ (shF l i).2 ∧ (shF l i).2 ≤ 4294967296)
  | [], _, _ => by show ((0 : Int) ≤ 0 ∧ (0 : Int) ≤ 4294967296) ∧ ((0 : Int) ≤ 0 ∧ (0 : Int) ≤ 4294967296); decide
  | S :: l, i, h => by
    rw [List.length_cons] at h
    rw [shF]
    split
    · exact shF_small l (i + 1) (by omega)
    · exact ⟨prA_small S, by show (0 : Int) ≤ (i : Int); omega, by show (i : Int) ≤ _; omega⟩
theorem shV_two (P : List SV) : ∃ (a : ByteArray) (e i : Int), shV P = shT a e i ∧ (0 ≤ e ∧ e ≤ 4294967296) ∧ (0 ≤ i ∧ i ≤ 4294967296) := by
  unfold shV
  by_cases h1 : 1000 < P.length
  · rw [if_pos h1]; exact ⟨_, _, _, rfl, by decide, by decide⟩
  rw [if_neg h1]
  by_cases h2 : (shF P 0).1 ≠ 0
  · rw [if_pos h2]
    exact ⟨_, _, _, rfl, (shF_small P 0 (by omega)).1, (shF_small P 0 (by omega)).2⟩
  rw [if_neg h2]
  by_cases h3 : 65536 < (shB P).length
  · rw [if_pos h3]; exact ⟨_, _, _, rfl, by decide, by decide⟩
  · rw [if_neg h3]; exact ⟨_, _, _, rfl, by decide, by decide⟩
set_option maxRecDepth 100000 in
set_option maxHeartbeats 16000000 in
theorem syntaxPrint_walk (V : PV) (P : List SV) (x : PT) (w : World) (hW : PrW w) (hSh : Shapes w) (hV : PIn w V P) (hX : x.In w) (hM : ∀ (i : Nat) S, P[i]? = some S → S.pa.cnt ≤ 1048576 ∧ S.ps.l.length + S.ls.l.length ≤ 7000000000000) :
    Calls Tryz.prog 3 #[V.v P.length, pv x] w fun e w' => e = .returned (.bool true) ∧ Below w.heap.size w w' := by
  have hmx := hV.max
  have hcp := hV.cap
  unfold maxLen at hmx
  have HV := hide (fun W (q : Below w.heap.size w W) => hV.later q)
  have HW := hide (fun W (q : Below w.heap.size w W) => hW.later q)
  have HSH := hide (fun W (q : Below w.heap.size w W) => hSh.later q)
  have HM := hide hM
  have HE1 := hide (fun W (q : Below w.heap.size w W) => expr_any x W (PT.In.later q hX) (hW.later q).env.shx)
  have HE2 := hide (fun W (q : Below w.heap.size w W) => refExpr_any x W (PT.In.later q hX))
  obtain ⟨ta, te, ti, hsh, hse, hsi⟩ := shV_two P
  have HS1 := hide (fun W (q : Below w.heap.size w W) => (show Calls Tryz.prog 10 #[V.v P.length] W fun e w' => e = .returned (shT ta te ti) ∧ Below W.heap.size W w' by rw [← hsh]; exact showS_any V P W (hW.later q) (hV.later q)))
  have HS2 := hide (fun W (q : Below w.heap.size w W) => (show Calls Tryz.prog 11 #[V.v P.length] W fun e w' => e = .returned (shT ta te ti) ∧ Below W.heap.size W w' by rw [← hsh]; exact refShowS_any V P W hM (hV.later q)))
  have heq := eq_fau te ti hse.1 hse.2 hsi.1 hsi.2
  unfold shT PV.v at HS1 HS2
  unfold pv at HE1 HE2 ⊢
  unfold PV.v
  clear hV hW hSh hM hX hsh hse hsi
  generalize x.wrongX = ex at *
  obtain ⟨w1, hw1⟩ : ∃ w1, w1 = w.alloc (.cells #[.int .i64 x.k, .string x.t, .int .i64 x.n, .string x.nm, .slice x.xa x.len x.cap] 25) := ⟨_, rfl⟩
  have HB1 := hide (show Below w.heap.size w w1 by rw [hw1]; exact ba _)
  have HR1 := hide (show w1.heap[w.heap.size]? = some (.cells #[.int .i64 x.k, .string x.t, .int .i64 x.n, .string x.nm, .slice x.xa x.len x.cap] 25 (0, 0)) by rw [hw1]; exact at_new rfl)
  have HKP : Hid (∀ w' : World, Below w1.heap.size w1 w' → (w'.cell? ⟨w.heap.size, 0, none⟩ = some (.int .i64 x.k) ∧ w'.cell? ⟨w.heap.size, 1, none⟩ = some (.string x.t) ∧ w'.cell? ⟨w.heap.size, 2, none⟩ = some (.int .i64 x.n) ∧ w'.cell? ⟨w.heap.size, 3, none⟩ = some (.string x.nm) ∧ w'.cell? ⟨w.heap.size, 4, none⟩ = some (.slice x.xa x.len x.cap))) := hide (fun w' h => cells5 (row_below (unhide HR1) h))
  have hA : Below w1.heap.size w1 w1 := Below.refl _ _
  go_enter Tryz.func3, Tryz.ntmps3
  go_upto_region 1 with fail
  rw [← hw1]
  clear hw1
  go_cut [19] from 15 to 19 (fun s wx => s = .bool false ∧ Hid (Below w1.heap.size w1 wx))
  case first =>
    go_region_held3 (fun w' => w'.cell? ⟨w.heap.size, 0, none⟩ = some (.int .i64 x.k) ∧ w'.cell? ⟨w.heap.size, 1, none⟩ = some (.string x.t) ∧ w'.cell? ⟨w.heap.size, 2, none⟩ = some (.int .i64 x.n) ∧ w'.cell? ⟨w.heap.size, 3, none⟩ = some (.string x.nm) ∧ w'.cell? ⟨w.heap.size, 4, none⟩ = some (.slice x.xa x.len x.cap))
      (first | exact unhide HKP _ (unhide HA) | exact unhide HKP _ (unhide HA).drew | exact unhide HKP _ hA | exact unhide HKP _ hA.drew)
      (first
        | (go_at_call 4; refine (unhide HE1 _ (bnext2 (unhide HB1) (by first | exact unhide HA | exact (unhide HA).drew | exact hA | exact hA.drew))).mono ?_; rintro e x3 ⟨rfl, hbq⟩; first | (have HA := hide (bnext2 (unhide HA) hbq); clear hbq) | (have HA := hide (bnext2 (unhide HA).drew hbq); clear hbq) | (have HA := hide (bnext2 hA hbq); clear hbq) | (have HA := hide (bnext2 hA.drew hbq); clear hbq))
        | (go_at_call 5; refine (unhide HE2 _ (bnext2 (unhide HB1) (by first | exact unhide HA | exact (unhide HA).drew | exact hA | exact hA.drew))).mono ?_; rintro e x3 ⟨rfl, hbq⟩; first | (have HA := hide (bnext2 (unhide HA) hbq); clear hbq) | (have HA := hide (bnext2 (unhide HA).drew hbq); clear hbq) | (have HA := hide (bnext2 hA hbq); clear hbq) | (have HA := hide (bnext2 hA.drew hbq); clear hbq)))
    all_goals
      go_wp2_with fail
      go_meet
      case rel => exact ⟨rfl, by first | exact HA | exact hide (unhide HA).drew⟩
  case rest =>
  obtain ⟨rfl, HB2⟩ := hcut
  have HX2 := hide (bnext2 (unhide HB1) (unhide HB2))
  clear HKP HR1 hA HB2 HE1 HE2
  go_wp2_with fail
  go_loopw [22] (fun i wl => ∃ k : Nat, k ≤ P.length ∧ i = .int .i64 (k : Int) ∧ Hid (Below w.heap.size w wl)) (fun i _ => P.length - (intOf i).toNat)
  case atStart => exact ⟨0, by omega, rfl, HX2⟩
  case round =>
    obtain ⟨k, hk, rfl, HBL⟩ := hrel
    rcases Nat.lt_or_ge k P.length with hlt | hge
    · obtain ⟨A, hA⟩ : ∃ A, P[k]? = some A := ⟨P[k], List.getElem?_eq_getElem _⟩
      have hpv := unhide HV _ (unhide HBL)
      have hav := hpv.at_ (by omega)
      have hix := idx24 (g := V.gb) (o := V.ob) (cap := V.cap) (n := P.length) (i := k) hlt
      rw [← hav] at hix
      have hRA := (hpv.row k A hA).1
      have hda : A.cells.toList.length = 24 := sv_size A
      have HON := hide (SV.cells_one A)
      have HIN := hide (fun W (q : Below w.heap.size w W) => ((unhide HV W q).row k A hA).2)
      have HWR1 := hide (fun W (q : Below w.heap.size w W) => stmt_any A W (unhide HIN W q) (unhide HW W q).env.shx (unhide HSH W q))
      have HWR2 := hide (fun W (q : Below w.heap.size w W) => refStmt_any A W (unhide HIN W q) (unhide HM k A hA))
      have HPR1 := hide (fun W (q : Below w.heap.size w W) => sprint_any A W (unhide HW W q) (unhide HIN W q))
      have HPR2 := hide (fun W (q : Below w.heap.size w W) => refPrintS_any A W (unhide HIN W q) (unhide HM k A hA))
      unfold SV.v at HWR1 HWR2 HPR1 HPR2
      unfold prV at HPR1 HPR2
      obtain ⟨L, hL⟩ : ∃ L, L = A.cells.toList := ⟨_, rfl⟩
      rw [show A.cells = L.toArray by rw [hL]] at HWR1 HWR2 HPR1 HPR2 HON
      rw [← hL] at hRA hda
      have HRG := hide hRA
      have hsz24 : L.toArray.size = 24 := List.size_toArray.trans hda
      obtain ⟨w2, hw2⟩ : ∃ w2, w2 = wr.alloc (.cells L.toArray 33) := ⟨_, rfl⟩
      have HB3 := hide (show Below w.heap.size w w2 by rw [hw2]; exact (unhide HBL).alloc (unhide HBL).size _)
      have HR2 : Hid (w2.heap[wr.heap.size]? = some (.cells L.toArray 33 (0, 0))) := hide (by rw [hw2]; exact at_new rfl)
      have g1 : (k : Int) < (P.length : Int) := by omega
      generalize (prA A).1 = pt at *
      generalize (prA A).2 = er at *
      generalize A.wrong = aw at *
      clear hA hpv hav hRA hL
      go_upto_region 6 with (first
        | (refine wpList_load_mid rfl 33 _ rfl V.gb (V.ob + k * 24) rfl L _ (unhide HRG) Tryz.underlying33 rfl (size_stmt.trans (by rw [hda])) ?_)
        | (refine wpList_store_row rfl 33 _ _ rfl wr.heap.size L.toArray rfl rfl 33 _ (at_new rfl) (size_stmt.trans (by rw [hsz24])) (by rw [hsz24]; rfl) (unhide HON) ?_; rw [World.setRow_alloc_new])
        | fail)
      rw [← hw2]
      clear hw2
      simp only [Act.put]
      obtain ⟨S0, hS0⟩ : ∃ S0 : World → Prop, S0 = fun w' => w'.heap[wr.heap.size]? = some (.cells L.toArray 33 (0, 0)) := ⟨_, rfl⟩
      have HKE : Hid (∀ X, Below w2.heap.size w2 X → S0 X) := hide (fun X h => by rw [hS0]; exact row_below (unhide HR2) h)
      have HS0 := hide hS0
      have hS : S0 w2.drew := unhide HKE _ (Below.refl _ _).drew
      clear hS0
      go_cut [30] from 26 to 30 (fun s wx => s = .bool false ∧ Hid (Below w2.heap.size w2 wx))
      case first =>
        refine startQ 4 S0 ?_
        intro F
        refine takeE F (i := 0) (oi := _) (v := .agg L.toArray) rfl (by kernel_rfl) (by kernel_rfl) (by rfl) (fun _ _ _ h => h) hS (yieldsR 33 _ rfl (by rfl) wr.heap.size rfl 33 L.toArray (0, 0) _ (fun X h => by rw [unhide HS0] at h; exact h) Tryz.underlying33 rfl (size_stmt.trans (by rw [hsz24]))) ?_
        (try simp only [List.getElem_toArray, List.getElem_cons_zero])
        (try go_frame)
        refine takeE F (i := 2) (oi := _) (v := .agg L.toArray) rfl (by kernel_rfl) (by kernel_rfl) (by rfl) (fun _ _ _ h => h) hS (yieldsR 33 _ rfl (by rfl) wr.heap.size rfl 33 L.toArray (0, 0) _ (fun X h => by rw [unhide HS0] at h; exact h) Tryz.underlying33 rfl (size_stmt.trans (by rw [hsz24]))) ?_
        (try simp only [List.getElem_toArray, List.getElem_cons_succ, List.getElem_cons_zero])
        (try go_frame)
        refine stepQ 1 (fun K2 hK2 => ?_)
        rw [if_pos (by rfl)]
        go_simp
        refine (unhide HWR1 w2.drew (unhide HB3).drew).mono ?_
        rintro e w4 ⟨rfl, hb4⟩
        have HB4 := hide ((Below.refl w2.heap.size w2).drew.trans hb4)
        clear hS hb4
        have hS : S0 w4 := unhide HKE _ (unhide HB4)
        refine hK2 _ _ hS ?_
        (try simp only [List.getElem_toArray, List.getElem_cons_succ, List.getElem_cons_zero])
        (try go_frame)
        refine stepQ 3 (fun K3 hK3 => ?_)
        rw [if_pos (by rfl)]
        go_simp
        refine (unhide HWR2 w4 (bnext2 (unhide HB3) (unhide HB4))).mono ?_
        rintro e w5 ⟨rfl, hb5⟩
        have HB5 := hide (bnext2 (unhide HB4) hb5)
        clear hS hb5
        have hS : S0 w5 := unhide HKE _ (unhide HB5)
        refine hK3 _ _ hS ?_
        (try simp only [List.getElem_toArray, List.getElem_cons_succ, List.getElem_cons_zero])
        (try go_frame)
        refine lastE (by kernel_rfl) rfl (by kernel_rfl) (fun K4 hK4 => ?_)
        rw [if_pos (by rfl)]
        go_simp
        refine hK4 _ _ ?_
        (try simp only [List.getElem_toArray, List.getElem_cons_succ, List.getElem_cons_zero])
        (try go_frame)
        clear hK2 hK3 hK4 K2 K3 K4 F hS HS0 HKE S0
        go_wp2_with fail
        go_meet
        case rel => exact ⟨rfl, HB5⟩
      case rest =>
      obtain ⟨rfl, HB4⟩ := hcut
      have HX4 := hide (bnext2 (unhide HB3) (unhide HB4))
      have HR4 := hide (row_below (unhide HR2) (unhide HB4))
      clear HKE HS0 hS S0 HB4 HR2 HWR1 HWR2
      go_wp2_with (first
        | (refine wpList_load_row rfl 33 _ rfl wr.heap.size rfl 33 L.toArray (0, 0) _ (unhide HR4) Tryz.underlying33 rfl (size_stmt.trans (by rw [hsz24])) ?_)
        | fail)
      refine (unhide HPR1 _ (unhide HX4)).mono ?_
      rintro e w5 ⟨rfl, hb5⟩
      have HX5 := hide (bnext2 (unhide HX4) hb5)
      have HR5 := hide (row_below (unhide HR4) hb5)
      clear hb5 HPR1
      go_wp2_with (first
        | (refine wpList_load_row rfl 33 _ rfl wr.heap.size rfl 33 L.toArray (0, 0) _ (unhide HR5) Tryz.underlying33 rfl (size_stmt.trans (by rw [hsz24])) ?_)
        | fail)
      refine (unhide HPR2 _ (unhide HX5)).mono ?_
      rintro e w6 ⟨rfl, hb6⟩
      have HX6 := hide (bnext2 (unhide HX5) hb6)
      clear hb6 HPR2
      go_wp2_with fail
      exact ⟨⟨k + 1, by omega, by go_num, HX6⟩, by simp [intOf]; omega⟩
    · obtain rfl : k = P.length := by omega
      go_wp2_with fail
      refine (unhide HS1 _ (unhide HBL)).mono ?_
      rintro e w5 ⟨rfl, hb5⟩
      have HX5 := hide (bnext2 (unhide HBL) hb5)
      have HBA := hide ((unhide HX5).alloc (unhide HX5).size (.cells #[.int .i64 te, .int .i64 ti] 38))
      clear hb5 HS1
      go_wp2_with fail
      refine (unhide HS2 _ (unhide HBA)).mono ?_
      rintro e w6 ⟨rfl, hb6⟩
      have HB6 := hide (bnext2 (unhide HBA) hb6)
      have hf := row_below (show (w5.alloc (.cells #[.int .i64 te, .int .i64 ti] 38)).heap[w5.heap.size]? = some (.cells #[.int .i64 te, .int .i64 ti] 38 (0, 0)) from at_new rfl) hb6
      have hlt6 : w5.heap.size < w6.heap.size := (Array.getElem?_eq_some_iff.1 hf).1
      have HR6 := hide (show (w6.alloc (.cells #[.int .i64 te, .int .i64 ti] 38)).heap[w5.heap.size]? = some (.cells #[.int .i64 te, .int .i64 ti] 38 (0, 0)) from at_old hlt6 hf)
      have c0 : (w6.alloc (.cells #[.int .i64 te, .int .i64 ti] 38)).cell? ⟨w5.heap.size, 0, none⟩ = some (.int .i64 te) := cr (unhide HR6)
      have c1 : (w6.alloc (.cells #[.int .i64 te, .int .i64 ti] 38)).cell? ⟨w5.heap.size, 1, none⟩ = some (.int .i64 ti) := cr (unhide HR6)
      have d0 : (w6.alloc (.cells #[.int .i64 te, .int .i64 ti] 38)).cell? ⟨w6.heap.size, 0, none⟩ = some (.int .i64 te) := cr (at_new rfl)
      have d1 : (w6.alloc (.cells #[.int .i64 te, .int .i64 ti] 38)).cell? ⟨w6.heap.size, 1, none⟩ = some (.int .i64 ti) := cr (at_new rfl)
      have HB7 := hide ((unhide HB6).alloc (unhide HB6).size (.cells #[.int .i64 te, .int .i64 ti] 38))
      clear hb6 hf HS2
      go_wp2_with fail
      go_ret
      exact ⟨rfl, unhide HB7⟩
end Go.Proofs.YtpphjddljngkmaaGreatDoor

namespace Go.Proofs.YtpphjddljngkmaaGreatDoor
open Go.ChangeShapes Go.WideShapes Go.ChangeAt Go.RowKit

theorem cells_shape : Tryz.prog.cellsOf 113 = 4 := by kernel_rfl
theorem cells_int4 : Tryz.prog.cellsOf 3 = 1 := by kernel_rfl
theorem cells_str4 : Tryz.prog.cellsOf 9 = 1 := by kernel_rfl
set_option maxRecDepth 100000 in
theorem shape_open {H : Type} {enc : TypeId × Value → H} {W : World} {base m : Nat} {spare : Nat → Bool} {held : Bool} {cs : List Value} {pl : List MemPlace} {s : List UInt8} {h a b : Int}
    (hd : DataW.trod enc Tryz.prog W base spare held m 113 cs = some (.agg [.lit (.string s), .lit (.int .i64 h), .lit (.int .i64 a), .lit (.int .i64 b)], pl)) :
    cs = [.string ⟨s.toArray⟩, .int .i64 h, .int .i64 a, .int .i64 b] := by
  obtain ⟨xs, n, -, hx, hl, hxs, hf⟩ := DataW.trod_struct Tryz.underlying113 hd
  rw [cells_shape] at hl
  replace hxs : xs.length = 4 := hxs
  simp only [Prod.mk.injEq, DataW.agg.injEq] at hx
  match xs, hxs, cs, hl with
  | [x0, x1, x2, x3], _, [c0, c1, c2, c3], _ =>
    have u0 := hf 0 _ rfl
    have u1 := hf 1 _ rfl
    have u2 := hf 2 _ rfl
    have u3 := hf 3 _ rfl
    simp [cells_str4] at u0
    simp [cells_int4] at u1 u2 u3
    obtain ⟨t, hc0, hd0, -⟩ := DataW.trod_string Tryz.underlying9 u0
    obtain ⟨k1, hc1, hd1, -⟩ := DataW.trod_int Tryz.underlying3 u1
    obtain ⟨k2, hc2, hd2, -⟩ := DataW.trod_int Tryz.underlying3 u2
    obtain ⟨k3, hc3, hd3, -⟩ := DataW.trod_int Tryz.underlying3 u3
    simp only [List.cons.injEq, and_true] at hc0 hc1 hc2 hc3
    subst hc0 hc1 hc2 hc3
    have hx1 := hx.1
    rw [hd0, hd1, hd2, hd3] at hx1
    simp only [List.map_cons, List.map_nil, List.cons.injEq, DataW.lit.injEq, Lit.string.injEq, Lit.int.injEq, and_true, true_and] at hx1
    obtain ⟨e0, e1, e2, e3⟩ := hx1
    subst e1 e2 e3
    rw [e0]
theorem shapes_lit (K : Nat) (h1 : 1 ≤ K) (h2 : K ≤ 24) : ∃ l, (Rows.laid_scanfail_pats_shapes (H := Unit)) = .agg l ∧ l[K]? = some (.agg [.lit (.string (wordK K).data.toList), .lit (.int .i64 (hasK K)), .lit (.int .i64 (leastK K)), .lit (.int .i64 (mostK K))]) := by
  refine ⟨_, rfl, ?_⟩
  have h : K = 1 ∨ K = 2 ∨ K = 3 ∨ K = 4 ∨ K = 5 ∨ K = 6 ∨ K = 7 ∨ K = 8 ∨ K = 9 ∨ K = 10 ∨ K = 11 ∨ K = 12 ∨ K = 13 ∨ K = 14 ∨ K = 15 ∨ K = 16 ∨ K = 17 ∨ K = 18 ∨ K = 19 ∨ K = 20 ∨ K = 21 ∨ K = 22 ∨ K = 23 ∨ K = 24 := by omega
  rcases h with rfl | rfl | rfl | rfl | rfl | rfl | rfl | rfl | rfl | rfl | rfl | rfl | rfl | rfl | rfl | rfl | rfl | rfl | rfl | rfl | rfl | rfl | rfl | rfl <;> rfl
set_option maxRecDepth 100000 in
theorem shapes_of {W : World} {rest : List (String × DataW Unit)} (h : laidMet Tryz.prog (("scanfail/pats.shapes", Rows.laid_scanfail_pats_shapes) :: rest) W) : Shapes W := by
  obtain ⟨ps, ⟨g', t', cs, fuel, p, q, hg', ht', hvar, hd, -, -⟩, -⟩ := h
  have hg : Tryz.prog.globalNamed "scanfail/pats.shapes" = some 1 := by kernel_rfl
  have hty : (Tryz.prog.globals[1]?).map (·.type) = some 114 := by kernel_rfl
  obtain rfl := Option.some.inj (hg.symm.trans hg')
  obtain rfl := Option.some.inj (hty.symm.trans ht')
  intro K h1 h2
  obtain ⟨l, hl, hlK⟩ := shapes_lit K h1 h2
  rw [hl] at hd
  obtain ⟨xs, m, -, hx, hcl, hxl, hf⟩ := DataW.trod_array Tryz.underlying114 hd
  simp only [Prod.mk.injEq, DataW.agg.injEq] at hx
  have hK := hf K (by omega)
  rw [cells_shape] at hK
  have hxK : ∃ y, xs[K]? = some y ∧ y.1 = .agg [.lit (.string (wordK K).data.toList), .lit (.int .i64 (hasK K)), .lit (.int .i64 (leastK K)), .lit (.int .i64 (mostK K))] := by
    rw [hx.1, List.getElem?_map] at hlK
    cases hy : xs[K]? with
    | none => rw [hy] at hlK; cases hlK
    | some y => rw [hy] at hlK; exact ⟨y, rfl, Option.some.inj hlK⟩
  obtain ⟨⟨y1, y2⟩, hy, hyd⟩ := hxK
  simp only at hyd
  rw [hy, hyd] at hK
  have hrow := shape_open hK
  have hc : ∀ j, j < 4 → W.cell? ⟨1, K * 4 + j, none⟩ = ((cs.toList.drop (K * 4)).take 4)[j]? := fun j hj => by
    have h3 := World.var?_cell hg hvar (K * 4 + j)
    rw [h3, List.getElem?_take, if_pos hj, List.getElem?_drop, Array.getElem?_toList]
  rw [hrow] at hc
  exact ⟨hc 0 (by omega), hc 1 (by omega), hc 2 (by omega), hc 3 (by omega)⟩
end Go.Proofs.YtpphjddljngkmaaGreatDoor

namespace Go.Proofs.YtpphjddljngkmaaGreatDoor
open Go.ChangeShapes Go.WideShapes Go.ChangeAt Go.RowKit Go.Deep

theorem cells_24 : Tryz.prog.cellsOf 30 = 5 := by kernel_rfl
theorem cells_str : Tryz.prog.cellsOf 9 = 1 := by kernel_rfl
theorem cells_sl : Tryz.prog.cellsOf 28 = 1 := by kernel_rfl
theorem bulk_mem {H : Type} : ∀ (l : List (DataW H)) (x : DataW H), x ∈ l → Rows.uptoBulk x ≤ Rows.uptoBulkAll l
  | [], x, h => by simp at h
  | y :: l, x, h => by
    simp only [Rows.uptoBulkAll]
    rcases List.mem_cons.1 h with rfl | h
    · omega
    · have := bulk_mem l x h; omega
theorem bulk_range {H : Type} (D : Nat → DataW H) (f : Nat → Nat) : ∀ n, (∀ i, i < n → f i ≤ Rows.uptoBulk (D i)) → sumTo f n ≤ Rows.uptoBulkAll ((List.range n).map D)
  | 0, _ => Nat.zero_le _
  | n + 1, h => by
    have ih := bulk_range D f n (fun i hi => h i (by omega))
    have hn := h n (by omega)
    have happ : ∀ (a : List (DataW H)) (x : DataW H), Rows.uptoBulkAll (a ++ [x]) = Rows.uptoBulkAll a + Rows.uptoBulk x := by
      intro a x
      induction a with
      | nil => simp [Rows.uptoBulkAll]
      | cons y a iha => simp only [List.cons_append, Rows.uptoBulkAll, iha]; omega
    rw [List.range_succ, List.map_append, List.map_cons, List.map_nil, happ]
    simp only [sumTo]
    omega
set_option maxRecDepth 100000 in
theorem open_pat {H : Type} {enc : TypeId × Value → H} {W : World} : ∀ (N fuel : Nat) (cs : List Value) (d : DataW H) (pl : List MemPlace), Rows.uptoBulk d ≤ N →
    DataW.trod enc Tryz.prog W 0 (fun _ => true) true fuel 30 cs = some (d, pl) →
    ∃ T : PT, T.In W ∧ cs = [.int .i64 T.k, .string T.t, .int .i64 T.n, .string T.nm, .slice T.xa T.len T.cap] ∧ T.cnt ≤ Rows.uptoBulk d := by
  intro N
  induction N with
  | zero =>
    intro fuel cs d pl hN h
    obtain ⟨xs, n, -, hx, -⟩ := DataW.trod_struct Tryz.underlying30 h
    simp only [Prod.mk.injEq] at hx
    rw [hx.1] at hN
    simp [Rows.uptoBulk] at hN
  | succ N ihN =>
    intro fuel cs d pl hN h
    obtain ⟨xs, n, -, hx, hl, hxs, hf⟩ := DataW.trod_struct Tryz.underlying30 h
    rw [cells_24] at hl
    simp only [Prod.mk.injEq] at hx
    obtain ⟨rfl, -⟩ := hx
    replace hxs : xs.length = 5 := hxs
    match xs, hxs, cs, hl with
    | [x0, x1, x2, x3, x4], _, [c0, c1, c2, c3, c4], _ =>
      have u0 := hf 0 _ rfl
      have u1 := hf 1 _ rfl
      have u2 := hf 2 _ rfl
      have u3 := hf 3 _ rfl
      have u4 := hf 4 _ rfl
      simp [cells_int] at u0 u2
      simp [cells_str] at u1 u3
      simp [cells_sl] at u4
      obtain ⟨k, hc0, hd0, hw0⟩ := DataW.trod_int Tryz.underlying3 u0
      obtain ⟨t, hc1, hd1, hs1⟩ := DataW.trod_string Tryz.underlying9 u1
      obtain ⟨m, hc2, hd2, hw2⟩ := DataW.trod_int Tryz.underlying3 u2
      obtain ⟨nm, hc3, hd3, hs3⟩ := DataW.trod_string Tryz.underlying9 u3
      simp only [List.cons.injEq, and_true] at hc0 hc1 hc2 hc3
      subst hc0 hc1 hc2 hc3
      have r0 : -9223372036854775808 ≤ k ∧ k ≤ 9223372036854775807 := by simpa [Lit.wf, show IntKind.i64.min = -9223372036854775808 from rfl] using hw0
      have r2 : -9223372036854775808 ≤ m ∧ m ≤ 9223372036854775807 := by simpa [Lit.wf, show IntKind.i64.min = -9223372036854775808 from rfl] using hw2
      rcases open_slice Tryz.underlying28 u4 with ⟨hc4, hx4⟩ | ⟨a, len, cap, mm, q, D, Pl, hc4, _, hlc, hcm, hmm, hx4, hall⟩
      · simp only [List.cons.injEq, and_true] at hc4
        subst hc4
        refine ⟨.node k t m nm none 0 0 0 0 fun i => i.elim0, ⟨r0, hs1, r2, hs3, Nat.zero_le _, Nat.le_refl _, fun h => absurd h (Nat.lt_irrefl 0), fun i => i.elim0⟩, rfl, ?_⟩
        simp [PT.cnt, sumTo, Rows.uptoBulk]
      · simp only [List.cons.injEq, and_true] at hc4
        subst hc4
        simp only [if_true] at hmm
        rw [cells_24] at hall
        have hel : ∀ i, i < len → ∃ T : PT, T.In W ∧ W.cells? 0 (a.add (i * 5)) 5 = some [.int .i64 T.k, .string T.t, .int .i64 T.n, .string T.nm, .slice T.xa T.len T.cap] ∧ T.cnt ≤ Rows.uptoBulk (D i) := by
          intro i hi
          obtain ⟨cs', h1, h2⟩ := hall i (by omega)
          have hsmall : Rows.uptoBulk (D i) ≤ N := by
            have h3 := bulk_mem ((List.range len).map D) (D i) (List.mem_map.2 ⟨i, List.mem_range.2 hi, rfl⟩)
            rw [hx4] at hN
            simp [Rows.uptoBulk, Rows.uptoBulkAll] at hN
            omega
          obtain ⟨T, hT, hrow, hcnt⟩ := ihN q cs' (D i) (Pl i) hsmall h2
          exact ⟨T, hT, by rw [h1, hrow], hcnt⟩
        obtain ⟨b, o, spot⟩ := a
        have hsp : 0 < len → spot = none := fun hp => by
          obtain ⟨T, -, hc, -⟩ := hel 0 hp
          obtain ⟨-, hlen, hcell⟩ := World.cells?_some hc
          simpa [Addr.add] using World.cell?_spot (hcell 0 (by omega))
        refine ⟨.node k t m nm (some ⟨b, o, spot⟩) b o len cap fun i => (hel i.val i.isLt).choose, ⟨r0, hs1, r2, hs3, by omega, hlc, fun hp => ?_, fun i => ?_⟩, rfl, ?_⟩
        · rw [hsp hp]
        · obtain ⟨i, hi⟩ := i
          obtain ⟨hT, hc, -⟩ := (hel i hi).choose_spec
          show (W.cell? ⟨b, o + i * 5, none⟩ = some (.int .i64 (hel i hi).choose.k) ∧ W.cell? ⟨b, o + i * 5 + 1, none⟩ = some (.string (hel i hi).choose.t) ∧ W.cell? ⟨b, o + i * 5 + 2, none⟩ = some (.int .i64 (hel i hi).choose.n) ∧ W.cell? ⟨b, o + i * 5 + 3, none⟩ = some (.string (hel i hi).choose.nm) ∧ W.cell? ⟨b, o + i * 5 + 4, none⟩ = some (hel i hi).choose.kv) ∧ PT.In W (hel i hi).choose
          generalize (hel i hi).choose = T at hT hc ⊢
          obtain ⟨-, hlen, hcell⟩ := World.cells?_some hc
          obtain rfl := hsp (by omega)
          have hj : ∀ j, (h : j < 5) → W.cell? ⟨b, o + i * 5 + j, none⟩ = [Value.int .i64 T.k, .string T.t, .int .i64 T.n, .string T.nm, .slice T.xa T.len T.cap][j]? := fun j h => by
            have := hcell j h
            rw [Addr.add_lit, Addr.add_lit] at this
            rw [this]
          exact ⟨⟨hj 0 (by omega), hj 1 (by omega), hj 2 (by omega), hj 3 (by omega), hj 4 (by omega)⟩, hT⟩
        · have hsum := bulk_range D (kf len 1 fun i => ((hel i.val i.isLt).choose).cnt) len (fun i hi => by rw [kf_at hi]; exact (hel i hi).choose_spec.2.2)
          rw [hx4]
          simp only [PT.cnt, List.map_cons, List.map_nil, Rows.uptoBulk, Rows.uptoBulkAll]
          omega
end Go.Proofs.YtpphjddljngkmaaGreatDoor

namespace Go.Proofs.YtpphjddljngkmaaGreatDoor
open Go.ChangeShapes Go.WideShapes Go.ChangeAt Go.RowKit Go.Deep

theorem cells_ex : Tryz.prog.cellsOf 25 = 5 := by kernel_rfl
theorem cells_slx : Tryz.prog.cellsOf 23 = 1 := by kernel_rfl
theorem cells_i64 : Tryz.prog.cellsOf 2 = 1 := by kernel_rfl
theorem cells_bo : Tryz.prog.cellsOf 4 = 1 := by kernel_rfl
theorem cells_sls : Tryz.prog.cellsOf 31 = 1 := by kernel_rfl
theorem cells_st : Tryz.prog.cellsOf 33 = 24 := by kernel_rfl
theorem cells_shx : Tryz.prog.cellsOf 78 = 5 := by kernel_rfl
set_option maxRecDepth 100000 in
theorem shapeX_open {H : Type} {enc : TypeId × Value → H} {W : World} {base m : Nat} {spare : Nat → Bool} {held : Bool} {cs : List Value} {pl : List MemPlace} {s : List UInt8} {h a b : Int} {q : Bool}
    (hd : DataW.trod enc Tryz.prog W base spare held m 78 cs = some (.agg [.lit (.string s), .lit (.int .i64 h), .lit (.bool q), .lit (.int .i64 a), .lit (.int .i64 b)], pl)) :
    cs = [.string ⟨s.toArray⟩, .int .i64 h, .bool q, .int .i64 a, .int .i64 b] := by
  obtain ⟨xs, n, -, hx, hl, hxs, hf⟩ := DataW.trod_struct Tryz.underlying78 hd
  rw [cells_shx] at hl
  replace hxs : xs.length = 5 := hxs
  simp only [Prod.mk.injEq, DataW.agg.injEq] at hx
  match xs, hxs, cs, hl with
  | [x0, x1, x2, x3, x4], _, [c0, c1, c2, c3, c4], _ =>
    have u0 := hf 0 _ rfl
    have u1 := hf 1 _ rfl
    have u2 := hf 2 _ rfl
    have u3 := hf 3 _ rfl
    have u4 := hf 4 _ rfl
    simp [cells_str4] at u0
    simp [cells_int4] at u1 u3 u4
    simp [cells_bo] at u2
    obtain ⟨t, hc0, hd0, -⟩ := DataW.trod_string Tryz.underlying9 u0
    obtain ⟨k1, hc1, hd1, -⟩ := DataW.trod_int Tryz.underlying3 u1
    obtain ⟨k2, hc2, hd2⟩ := DataW.trod_bool Tryz.underlying4 u2
    obtain ⟨k3, hc3, hd3, -⟩ := DataW.trod_int Tryz.underlying3 u3
    obtain ⟨k4, hc4, hd4, -⟩ := DataW.trod_int Tryz.underlying3 u4
    simp only [List.cons.injEq, and_true] at hc0 hc1 hc2 hc3 hc4
    subst hc0 hc1 hc2 hc3 hc4
    have hx1 := hx.1
    rw [hd0, hd1, hd2, hd3, hd4] at hx1
    simp only [List.map_cons, List.map_nil, List.cons.injEq, DataW.lit.injEq, Lit.string.injEq, Lit.int.injEq, Lit.bool.injEq, and_true, true_and] at hx1
    obtain ⟨e0, e1, e2, e3, e4⟩ := hx1
    subst e1 e2 e3 e4
    rw [e0]
theorem shapesX_lit (K : Nat) (h1 : 1 ≤ K) (h2 : K ≤ 13) : ∃ l, (Rows.laid_scanfail_syntax_shapes (H := Unit)) = .agg l ∧ l[K]? = some (.agg [.lit (.string (signX K).data.toList), .lit (.int .i64 (levelX K)), .lit (.bool (namedX K)), .lit (.int .i64 (leastX K)), .lit (.int .i64 (mostX K))]) := by
  refine ⟨_, rfl, ?_⟩
  have h : K = 1 ∨ K = 2 ∨ K = 3 ∨ K = 4 ∨ K = 5 ∨ K = 6 ∨ K = 7 ∨ K = 8 ∨ K = 9 ∨ K = 10 ∨ K = 11 ∨ K = 12 ∨ K = 13 := by omega
  rcases h with rfl | rfl | rfl | rfl | rfl | rfl | rfl | rfl | rfl | rfl | rfl | rfl | rfl <;> rfl
set_option maxRecDepth 100000 in
theorem shapesX_of {W : World} {rest : List (String × DataW Unit)} (h : laidMet Tryz.prog (("scanfail/syntax.shapes", Rows.laid_scanfail_syntax_shapes) :: rest) W) : ShapesX W := by
  obtain ⟨ps, ⟨g', t', cs, fuel, p, q, hg', ht', hvar, hd, -, -⟩, -⟩ := h
  have hg : Tryz.prog.globalNamed "scanfail/syntax.shapes" = some 0 := by kernel_rfl
  have hty : (Tryz.prog.globals[0]?).map (·.type) = some 79 := by kernel_rfl
  obtain rfl := Option.some.inj (hg.symm.trans hg')
  obtain rfl := Option.some.inj (hty.symm.trans ht')
  intro K h1 h2
  obtain ⟨l, hl, hlK⟩ := shapesX_lit K h1 h2
  rw [hl] at hd
  obtain ⟨xs, m, -, hx, hcl, hxl, hf⟩ := DataW.trod_array Tryz.underlying79 hd
  simp only [Prod.mk.injEq, DataW.agg.injEq] at hx
  have hK := hf K (by omega)
  rw [cells_shx] at hK
  have hxK : ∃ y, xs[K]? = some y ∧ y.1 = .agg [.lit (.string (signX K).data.toList), .lit (.int .i64 (levelX K)), .lit (.bool (namedX K)), .lit (.int .i64 (leastX K)), .lit (.int .i64 (mostX K))] := by
    rw [hx.1, List.getElem?_map] at hlK
    cases hy : xs[K]? with
    | none => rw [hy] at hlK; cases hlK
    | some y => rw [hy] at hlK; exact ⟨y, rfl, Option.some.inj hlK⟩
  obtain ⟨⟨y1, y2⟩, hy, hyd⟩ := hxK
  simp only at hyd
  rw [hy, hyd] at hK
  have hrow := shapeX_open hK
  have hc : ∀ j, j < 5 → W.cell? ⟨0, K * 5 + j, none⟩ = ((cs.toList.drop (K * 5)).take 5)[j]? := fun j hj => by
    have h3 := World.var?_cell hg hvar (K * 5 + j)
    rw [h3, List.getElem?_take, if_pos hj, List.getElem?_drop, Array.getElem?_toList]
  rw [hrow] at hc
  exact ⟨hc 0 (by omega), hc 1 (by omega), hc 2 (by omega), hc 3 (by omega), hc 4 (by omega)⟩
set_option maxRecDepth 100000 in
theorem open_expr {H : Type} {enc : TypeId × Value → H} {W : World} : ∀ (N fuel : Nat) (cs : List Value) (d : DataW H) (pl : List MemPlace), Rows.uptoBulk d ≤ N →
    DataW.trod enc Tryz.prog W 0 (fun _ => true) true fuel 25 cs = some (d, pl) →
    ∃ T : PT, T.In W ∧ cs = [.int .i64 T.k, .string T.t, .int .i64 T.n, .string T.nm, .slice T.xa T.len T.cap] ∧ T.cnt ≤ Rows.uptoBulk d := by
  intro N
  induction N with
  | zero =>
    intro fuel cs d pl hN h
    obtain ⟨xs, n, -, hx, -⟩ := DataW.trod_struct Tryz.underlying25 h
    simp only [Prod.mk.injEq] at hx
    rw [hx.1] at hN
    simp [Rows.uptoBulk] at hN
  | succ N ihN =>
    intro fuel cs d pl hN h
    obtain ⟨xs, n, -, hx, hl, hxs, hf⟩ := DataW.trod_struct Tryz.underlying25 h
    rw [cells_ex] at hl
    simp only [Prod.mk.injEq] at hx
    obtain ⟨rfl, -⟩ := hx
    replace hxs : xs.length = 5 := hxs
    match xs, hxs, cs, hl with
    | [x0, x1, x2, x3, x4], _, [c0, c1, c2, c3, c4], _ =>
      have u0 := hf 0 _ rfl
      have u1 := hf 1 _ rfl
      have u2 := hf 2 _ rfl
      have u3 := hf 3 _ rfl
      have u4 := hf 4 _ rfl
      simp [cells_int] at u0
      simp [cells_i64] at u2
      simp [cells_str] at u1 u3
      simp [cells_slx] at u4
      obtain ⟨k, hc0, hd0, hw0⟩ := DataW.trod_int Tryz.underlying3 u0
      obtain ⟨t, hc1, hd1, hs1⟩ := DataW.trod_string Tryz.underlying9 u1
      obtain ⟨m, hc2, hd2, hw2⟩ := DataW.trod_int Tryz.underlying2 u2
      obtain ⟨nm, hc3, hd3, hs3⟩ := DataW.trod_string Tryz.underlying9 u3
      simp only [List.cons.injEq, and_true] at hc0 hc1 hc2 hc3
      subst hc0 hc1 hc2 hc3
      have r0 : -9223372036854775808 ≤ k ∧ k ≤ 9223372036854775807 := by simpa [Lit.wf, show IntKind.i64.min = -9223372036854775808 from rfl] using hw0
      have r2 : -9223372036854775808 ≤ m ∧ m ≤ 9223372036854775807 := by simpa [Lit.wf, show IntKind.i64.min = -9223372036854775808 from rfl] using hw2
      rcases open_slice Tryz.underlying23 u4 with ⟨hc4, hx4⟩ | ⟨a, len, cap, mm, q, D, Pl, hc4, _, hlc, hcm, hmm, hx4, hall⟩
      · simp only [List.cons.injEq, and_true] at hc4
        subst hc4
        refine ⟨.node k t m nm none 0 0 0 0 fun i => i.elim0, ⟨r0, hs1, r2, hs3, Nat.zero_le _, Nat.le_refl _, fun h => absurd h (Nat.lt_irrefl 0), fun i => i.elim0⟩, rfl, ?_⟩
        simp [PT.cnt, sumTo, Rows.uptoBulk]
      · simp only [List.cons.injEq, and_true] at hc4
        subst hc4
        simp only [if_true] at hmm
        rw [cells_ex] at hall
        have hel : ∀ i, i < len → ∃ T : PT, T.In W ∧ W.cells? 0 (a.add (i * 5)) 5 = some [.int .i64 T.k, .string T.t, .int .i64 T.n, .string T.nm, .slice T.xa T.len T.cap] ∧ T.cnt ≤ Rows.uptoBulk (D i) := by
          intro i hi
          obtain ⟨cs', h1, h2⟩ := hall i (by omega)
          have hsmall : Rows.uptoBulk (D i) ≤ N := by
            have h3 := bulk_mem ((List.range len).map D) (D i) (List.mem_map.2 ⟨i, List.mem_range.2 hi, rfl⟩)
            rw [hx4] at hN
            simp [Rows.uptoBulk, Rows.uptoBulkAll] at hN
            omega
          obtain ⟨T, hT, hrow, hcnt⟩ := ihN q cs' (D i) (Pl i) hsmall h2
          exact ⟨T, hT, by rw [h1, hrow], hcnt⟩
        obtain ⟨b, o, spot⟩ := a
        have hsp : 0 < len → spot = none := fun hp => by
          obtain ⟨T, -, hc, -⟩ := hel 0 hp
          obtain ⟨-, hlen, hcell⟩ := World.cells?_some hc
          simpa [Addr.add] using World.cell?_spot (hcell 0 (by omega))
        refine ⟨.node k t m nm (some ⟨b, o, spot⟩) b o len cap fun i => (hel i.val i.isLt).choose, ⟨r0, hs1, r2, hs3, by omega, hlc, fun hp => ?_, fun i => ?_⟩, rfl, ?_⟩
        · rw [hsp hp]
        · obtain ⟨i, hi⟩ := i
          obtain ⟨hT, hc, -⟩ := (hel i hi).choose_spec
          show (W.cell? ⟨b, o + i * 5, none⟩ = some (.int .i64 (hel i hi).choose.k) ∧ W.cell? ⟨b, o + i * 5 + 1, none⟩ = some (.string (hel i hi).choose.t) ∧ W.cell? ⟨b, o + i * 5 + 2, none⟩ = some (.int .i64 (hel i hi).choose.n) ∧ W.cell? ⟨b, o + i * 5 + 3, none⟩ = some (.string (hel i hi).choose.nm) ∧ W.cell? ⟨b, o + i * 5 + 4, none⟩ = some (hel i hi).choose.kv) ∧ PT.In W (hel i hi).choose
          generalize (hel i hi).choose = T at hT hc ⊢
          obtain ⟨-, hlen, hcell⟩ := World.cells?_some hc
          obtain rfl := hsp (by omega)
          have hj : ∀ j, (h : j < 5) → W.cell? ⟨b, o + i * 5 + j, none⟩ = [Value.int .i64 T.k, .string T.t, .int .i64 T.n, .string T.nm, .slice T.xa T.len T.cap][j]? := fun j h => by
            have := hcell j h
            rw [Addr.add_lit, Addr.add_lit] at this
            rw [this]
          exact ⟨⟨hj 0 (by omega), hj 1 (by omega), hj 2 (by omega), hj 3 (by omega), hj 4 (by omega)⟩, hT⟩
        · have hsum := bulk_range D (kf len 1 fun i => ((hel i.val i.isLt).choose).cnt) len (fun i hi => by rw [kf_at hi]; exact (hel i hi).choose_spec.2.2)
          rw [hx4]
          simp only [PT.cnt, List.map_cons, List.map_nil, Rows.uptoBulk, Rows.uptoBulkAll]
          omega
end Go.Proofs.YtpphjddljngkmaaGreatDoor

namespace Go.Proofs.YtpphjddljngkmaaGreatDoor
open Go.ChangeShapes Go.WideShapes Go.ChangeAt Go.RowKit Go.Deep

theorem bulk_pos {H : Type} (d : DataW H) : 1 ≤ Rows.uptoBulk d := by
  unfold Rows.uptoBulk
  split <;> omega
theorem sum_one : ∀ n, sumTo (fun _ => 1) n = n
  | 0 => rfl
  | n + 1 => by
    rw [sumTo, sum_one n]
/-- Names that came in. -/
theorem open_nmsB {H : Type} {enc : TypeId × Value → H} {W : World} {fuel : Nat} {c : Value} {d : DataW H} {pl : List MemPlace} (h : DataW.trod enc Tryz.prog W 0 (fun _ => true) true fuel 31 [c] = some (d, pl)) : ∃ N : NL, N.In W ∧ c = N.v ∧ N.l.length ≤ Rows.uptoBulk d := by
  rcases open_slice Tryz.underlying31 h with ⟨hc, -⟩ | ⟨a, len, cap, mm, q, D, Pl, hc, _, hlc, hcm, hmm, hx, hall⟩
  · simp only [List.cons.injEq, and_true] at hc
    subst hc
    exact ⟨⟨none, 0, 0, 0, []⟩, ⟨Nat.le_refl _, Nat.zero_le _, fun h => absurd h (Nat.lt_irrefl 0), fun i t ht => by simp at ht⟩, rfl, Nat.zero_le _⟩
  · simp only [List.cons.injEq, and_true] at hc
    subst hc
    simp only [if_true] at hmm
    rw [cells_str] at hall
    have hel : ∀ i, i < len → ∃ t : ByteArray, t.size ≤ maxLen ∧ W.cells? 0 (a.add (i * 1)) 1 = some [.string t] := by
      intro i hi
      obtain ⟨cs', h1, h2⟩ := hall i (by omega)
      obtain ⟨t, ht, -, hs⟩ := DataW.trod_string Tryz.underlying9 h2
      exact ⟨t, hs, by rw [h1, ht]⟩
    obtain ⟨b, o, spot⟩ := a
    have hsp : 0 < len → spot = none := fun hp => by
      obtain ⟨T, -, hc⟩ := hel 0 hp
      obtain ⟨-, hlen, hcell⟩ := World.cells?_some hc
      simpa [Addr.add] using World.cell?_spot (hcell 0 (by omega))
    haveI : Inhabited ByteArray := ⟨ByteArray.empty⟩
    obtain ⟨F, hF⟩ := choose_lt (α := ByteArray) (p := fun i t => t.size ≤ maxLen ∧ W.cells? 0 ((⟨b, o, spot⟩ : Addr).add (i * 1)) 1 = some [.string t]) hel
    refine ⟨⟨some ⟨b, o, spot⟩, b, o, cap, (List.range len).map F⟩, ⟨by simpa using hlc, by simpa using hcm, fun hp => by rw [hsp (by simpa using hp)], fun i t ht => ?_⟩, by unfold NL.v; simp, by
      have hsum := bulk_range D (fun _ => 1) len (fun i _ => bulk_pos (D i))
      rw [sum_one] at hsum
      rw [show d = _ from congrArg Prod.fst hx]
      simp only [Rows.uptoBulk, List.length_map, List.length_range]
      omega⟩
    have ht : ((List.range len).map F)[i]? = some t := ht
    rw [List.getElem?_map] at ht
    rcases Nat.lt_or_ge i len with hi | hi
    · rw [List.getElem?_range hi] at ht
      obtain rfl := (Option.some.inj ht).symm
      obtain ⟨hs, hc⟩ := hF i hi
      obtain ⟨-, hlen, hcell⟩ := World.cells?_some hc
      obtain rfl := hsp (by omega)
      have := hcell 0 (by omega)
      rw [Addr.add_lit, Addr.add_lit, Nat.mul_one, Nat.add_zero] at this
      exact ⟨this, hs⟩
    · rw [List.getElem?_eq_none (by simpa using hi)] at ht
      cases ht
set_option maxRecDepth 100000 in
set_option maxHeartbeats 1000000 in
theorem open_stmtB {H : Type} {enc : TypeId × Value → H} {W : World} {fuel : Nat} {cs : List Value} {d : DataW H} {pl : List MemPlace} (h : DataW.trod enc Tryz.prog W 0 (fun _ => true) true fuel 33 cs = some (d, pl)) :
    ∃ S : SV, S.In W ∧ cs = S.cells.toList ∧ S.pa.cnt ≤ Rows.uptoBulk d ∧ S.ps.l.length + S.ls.l.length ≤ Rows.uptoBulk d := by
  obtain ⟨xs, n, -, hx, hl, hxs, hf⟩ := DataW.trod_struct Tryz.underlying33 h
  rw [cells_st] at hl
  simp only [Prod.mk.injEq] at hx
  obtain ⟨rfl, -⟩ := hx
  replace hxs : xs.length = 12 := hxs
  match xs, hxs, cs, hl with
  | [x0, x1, x2, x3, x4, x5, x6, x7, x8, x9, x10, x11], _, [c0, c1, c2, c3, c4, c5, c6, c7, c8, c9, c10, c11, c12, c13, c14, c15, c16, c17, c18, c19, c20, c21, c22, c23], _ =>
    have u0 := hf 0 _ rfl
    have u1 := hf 1 _ rfl
    have u2 := hf 2 _ rfl
    have u3 := hf 3 _ rfl
    have u4 := hf 4 _ rfl
    have u5 := hf 5 _ rfl
    have u6 := hf 6 _ rfl
    have u7 := hf 7 _ rfl
    have u8 := hf 8 _ rfl
    have u9 := hf 9 _ rfl
    have u10 := hf 10 _ rfl
    have u11 := hf 11 _ rfl
    simp [cells_str] at u0 u5 u6 u9 u10 u11
    simp [cells_int] at u1
    simp [cells_ex] at u2 u3
    simp [cells_24] at u4
    simp [cells_sls] at u7 u8
    obtain ⟨lab, h0, -, s0⟩ := DataW.trod_string Tryz.underlying9 u0
    obtain ⟨k, h1, -, -⟩ := DataW.trod_int Tryz.underlying3 u1
    obtain ⟨tg, i2, h2, -⟩ := open_expr _ n _ x2.1 x2.2 (Nat.le_refl _) u2
    obtain ⟨va, i3, h3, -⟩ := open_expr _ n _ x3.1 x3.2 (Nat.le_refl _) u3
    obtain ⟨pa, i4, h4, n4⟩ := open_pat _ n _ x4.1 x4.2 (Nat.le_refl _) u4
    obtain ⟨nm, h5, -, s5⟩ := DataW.trod_string Tryz.underlying9 u5
    obtain ⟨en, h6, -, s6⟩ := DataW.trod_string Tryz.underlying9 u6
    obtain ⟨ps, i7, h7, n7⟩ := open_nmsB u7
    obtain ⟨ls, i8, h8, n8⟩ := open_nmsB u8
    obtain ⟨al, h9, -, s9⟩ := DataW.trod_string Tryz.underlying9 u9
    obtain ⟨ye, h10, -, s10⟩ := DataW.trod_string Tryz.underlying9 u10
    obtain ⟨no, h11, -, s11⟩ := DataW.trod_string Tryz.underlying9 u11
    simp only [List.cons.injEq, and_true] at h0 h1 h2 h3 h4 h5 h6 h9 h10 h11
    refine ⟨⟨lab, k, tg, va, pa, nm, en, ps, ls, al, ye, no⟩, ⟨⟨s0, s5, s6, s9, s10, s11⟩, i2, i3, i4, i7, i8⟩, ?_, ?_, ?_⟩
    rotate_left
    · show pa.cnt ≤ _
      simp only [List.map_cons, List.map_nil, Rows.uptoBulk, Rows.uptoBulkAll]
      omega
    · show ps.l.length + ls.l.length ≤ _
      simp only [List.map_cons, List.map_nil, Rows.uptoBulk, Rows.uptoBulkAll]
      omega
    obtain ⟨a2, b2, c2', d2, e2⟩ := h2
    obtain ⟨a3, b3, c3', d3, e3⟩ := h3
    obtain ⟨a4, b4, c4', d4, e4⟩ := h4
    rw [h0, h1, a2, b2, c2', d2, e2, a3, b3, c3', d3, e3, a4, b4, c4', d4, e4, h5, h6, h7, h8, h9, h10, h11]
    rfl
set_option maxRecDepth 100000 in
theorem open_argStmtsB {H : Type} {enc : TypeId × Value → H} {W : World} {base : Nat} {v : Value} {d : DataW H} {p : List MemPlace}
    (hval : Value.okWide Tryz.prog W .any base 22 v) (h : DataW.Trod enc Tryz.prog W 0 (fun _ => true) true 22 v d p) : ∃ (V : PV) (P : List SV), v = V.v P.length ∧ PIn W V P ∧ ∀ (i : Nat) S, P[i]? = some S → S.pa.cnt ≤ Rows.uptoBulk d ∧ S.ps.l.length + S.ls.l.length ≤ Rows.uptoBulk d := by
  obtain ⟨a0, n0, c0, rfl⟩ := okWide_slice Tryz.underlying22 hval
  obtain ⟨fuel, hf⟩ := h
  rcases open_slice Tryz.underlying22 (show DataW.trod enc Tryz.prog W 0 (fun _ => true) true fuel 22 [.slice a0 n0 c0] = some (d, p) from hf) with ⟨hc, -⟩ | ⟨a, len, cap, mm, q, D, Pl, hc, _, hlc, hcm, hmm, hx, hall⟩
  · simp only [List.cons.injEq, and_true] at hc
    rw [hc]
    exact ⟨⟨none, 0, 0, 0⟩, [], rfl, ⟨Nat.le_refl _, Nat.zero_le _, fun h => absurd h (Nat.lt_irrefl 0), fun i S h => by simp at h⟩, fun i S h => by simp at h⟩
  · simp only [List.cons.injEq, and_true] at hc
    rw [hc]
    simp only [if_true] at hmm
    rw [cells_st] at hall
    have hel : ∀ i, i < len → ∃ S : SV, S.In W ∧ W.cells? 0 (a.add (i * 24)) 24 = some S.cells.toList ∧ S.pa.cnt ≤ Rows.uptoBulk d ∧ S.ps.l.length + S.ls.l.length ≤ Rows.uptoBulk d := by
      intro i hi
      obtain ⟨cs', h1, h2⟩ := hall i (by omega)
      obtain ⟨S, hS, hrow, n1, n2⟩ := open_stmtB h2
      have hsm : Rows.uptoBulk (D i) ≤ Rows.uptoBulk d := by
        have h3 := bulk_mem ((List.range len).map D) (D i) (List.mem_map.2 ⟨i, List.mem_range.2 hi, rfl⟩)
        rw [show d = _ from congrArg Prod.fst hx]
        simp only [Rows.uptoBulk]
        omega
      exact ⟨S, hS, by rw [h1, hrow], Nat.le_trans n1 hsm, Nat.le_trans n2 hsm⟩
    obtain ⟨b, o, spot⟩ := a
    have hsp : 0 < len → spot = none := fun hp => by
      obtain ⟨T, -, hc, -⟩ := hel 0 hp
      obtain ⟨-, hlen, hcell⟩ := World.cells?_some hc
      simpa [Addr.add] using World.cell?_spot (hcell 0 (by decide))
    haveI : Inhabited SV := ⟨⟨ByteArray.empty, 0, PT.nul, PT.nul, PT.nul, ByteArray.empty, ByteArray.empty, ⟨none, 0, 0, 0, []⟩, ⟨none, 0, 0, 0, []⟩, ByteArray.empty, ByteArray.empty, ByteArray.empty⟩⟩
    obtain ⟨F, hF⟩ := choose_lt (α := SV) (p := fun i S => S.In W ∧ W.cells? 0 ((⟨b, o, spot⟩ : Addr).add (i * 24)) 24 = some S.cells.toList ∧ S.pa.cnt ≤ Rows.uptoBulk d ∧ S.ps.l.length + S.ls.l.length ≤ Rows.uptoBulk d) hel
    refine ⟨⟨some ⟨b, o, spot⟩, b, o, cap⟩, (List.range len).map F, by unfold PV.v; simp, ⟨by simpa using hlc, by simpa using hcm, fun hp => by rw [hsp (by simpa using hp)], fun i S hS => ?_⟩, fun i S hS => ?_⟩
    rotate_left
    · rw [List.getElem?_map] at hS
      rcases Nat.lt_or_ge i len with hi | hi
      · rw [List.getElem?_range hi] at hS
        obtain rfl := (Option.some.inj hS).symm
        exact (hF i hi).2.2
      · rw [List.getElem?_eq_none (by simpa using hi)] at hS
        cases hS
    rw [List.getElem?_map] at hS
    rcases Nat.lt_or_ge i len with hi | hi
    · rw [List.getElem?_range hi] at hS
      obtain rfl := (Option.some.inj hS).symm
      obtain ⟨hs, hc, -⟩ := hF i hi
      obtain ⟨-, hlen, hcell⟩ := World.cells?_some hc
      obtain rfl := hsp (by omega)
      refine ⟨fun j u hj => ?_, hs⟩
      have hjl : j < (F i).cells.toList.length := (List.getElem?_eq_some_iff.1 hj).1
      have := hcell j (by first | exact hjl | omega)
      rw [Addr.add_lit, Addr.add_lit] at this
      rw [this]
      exact hj
    · rw [List.getElem?_eq_none (by simpa using hi)] at hS
      cases hS
set_option maxRecDepth 100000 in
theorem open_argExpr {H : Type} {enc : TypeId × Value → H} {W : World} {base : Nat} {v : Value} {d : DataW H} {p : List MemPlace}
    (hval : Value.okWide Tryz.prog W .any base 25 v) (h : DataW.Trod enc Tryz.prog W 0 (fun _ => true) true 25 v d p) : ∃ T : PT, T.In W ∧ v = pv T := by
  obtain ⟨cs, rfl, hsz⟩ : ∃ cs, v = .agg cs ∧ cs.size = Tryz.prog.cellsOf 25 := by
    simp only [Value.okWide, Tryz.underlying25] at hval
    obtain ⟨cs, h1, h2, _⟩ := hval
    exact ⟨cs, h1, h2⟩
  obtain ⟨fuel, hf⟩ := h
  obtain ⟨T, hT, hrow, -⟩ := open_expr _ fuel _ d p (Nat.le_refl _) hf
  refine ⟨T, hT, ?_⟩
  unfold pv
  have : cs.toList = [.int .i64 T.k, .string T.t, .int .i64 T.n, .string T.nm, .slice T.xa T.len T.cap] := hrow
  rw [← this]
def Sml (P : List SV) : Prop := ∀ (i : Nat) S, P[i]? = some S → S.pa.cnt ≤ 1048576 ∧ S.ps.l.length + S.ls.l.length ≤ 7000000000000
theorem tabs_sp {w : World} (h : laidMetH Tryz.prog Rows.syntaxPrintUptoRow.laid w) (hm : ∃ m, w.cell? ⟨2, 0, none⟩ = some (.int .i64 m)) : PrW w ∧ Shapes w := by
  have e : (Rows.syntaxPrintUptoRow.laid.filter fun x => x.2.handleName?.isSome) = [] := by kernel_rfl
  have h' : laidMet Tryz.prog Rows.syntaxPrintUptoRow.laid w := by
    have hp := h
    unfold laidMetH at hp
    rw [e] at hp
    exact hp
  have h2 := h'.tail.tail
  have hp := h2.tail.tail
  have hx := hp.tail
  have ht : Lib.TabIs Tryz.prog w "internal/strconv.uint64pow10" .u64 Lib.pow10Tab := Lib.tabIs_of_head (g := 3) (t := 155) (e := 127) (n := 20) (by kernel_rfl) (by kernel_rfl) Tryz.underlying155 Tryz.underlying127 (by kernel_rfl) (by kernel_rfl) (rest := _) (show laidMet Tryz.prog (("internal/strconv.uint64pow10", Lib.tabData .u64 Lib.pow10Tab) :: _) w from h2)
  have hb := Lib.tabBelow_of_tabIs ht
  have hS : Shapes w := shapes_of (rest := _) hp
  have hX : ShapesX w := shapesX_of (rest := _) hx
  exact ⟨⟨⟨hX, hm, hb⟩, ⟨hS, hm, hb⟩⟩, hS⟩
end Go.Proofs.YtpphjddljngkmaaGreatDoor
