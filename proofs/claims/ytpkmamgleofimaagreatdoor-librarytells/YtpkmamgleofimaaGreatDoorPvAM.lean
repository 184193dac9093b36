/- The reader of lines: what is thrown is caught. A program in memory. -/
import Derived.Test.YtpkmamgleofimaaGreatDoorSyT2M
import Derived.Defers
import Derived.Test.YtpkmamgleofimaaGreatDoorStCP
import Derived.Test.YtpkmamgleofimaaGreatDoorRowBaseM
import Derived.Deep.MidRow
namespace Go.Proofs.YtpkmamgleofimaaGreatDoor
open Go.RowKit

theorem sySize_stm : (Tryz.prog.info? 47).map (·.size) = some 24 := by kernel_rfl
theorem sySize_fau : (Tryz.prog.info? 30).map (·.size) = some 2 := by kernel_rfl
set_option maxRecDepth 100000 in
theorem scatch_panicking (g : Nat) (er : Int) (i : Nat) (old : Array Value) (older : List PanicEntry) (w : World) (hg : w.heap[g]? = some (.cells old 30 (0, 0))) (ho : old.size = 2) :
    CallsD Tryz.prog 33 #[.pointer (some ⟨g, 0, none⟩)] (.panicking ({ v := .iface 30 (fauV er i), recovered := false } :: older)) w fun e u' w' =>
      e = .returned (.tuple #[]) ∧ u' = .panicking ({ v := .iface 30 (fauV er i), recovered := true } :: older) ∧ w' = w.setRow g #[.int .i64 er, .int .i64 (i : Int)] := by
  refine callsD_of_wpS Tryz.func33 rfl fun c₀ cs hu => ?_
  apply wpS_seq
  apply wpS_region
  simp [wpOpsS, go_sem, recoverD, hu, Tryz.ntmps33, Exit.thenS]
  refine wpS_of_wp ?_
  rw [show (#[Value.pointer (some ⟨g, 0, none⟩)] ++ ((Array.replicate 6 undef).setIfInBounds 1 (Value.iface 30 (fauV er i))).setIfInBounds 0 (Value.iface 30 (fauV er i)) : Array Value) = #[.pointer (some ⟨g, 0, none⟩), .iface 30 (fauV er i), .iface 30 (fauV er i), undef, undef, undef, undef] from rfl]
  have HG := hide hg
  clear hg
  have hta : ∀ (v : Value) (x : TypeId) (w : World), (Instr.typeAssert (.iface 30 v) x 30 false).run Tryz.prog w = .ok v w := fun v x w => by
    simp [Instr.typeAssert, run_underlying Tryz.underlying30, go_sem, Result.andThen]
  unfold fauV
  go_wp2_with (first
    | (refine wpList_store_row rfl 30 _ _ rfl g #[.int .i64 er, .int .i64 (i : Int)] rfl rfl 30 old (unhide HG) sySize_fau ho (by simp [Value.oneCell']) ?_)
    | fail)
  exact ⟨rfl, _, rfl, _, results_none rfl _ _ _, rfl, rfl, rfl⟩
theorem scatch_idle (p : Addr) (w : World) :
    CallsD Tryz.prog 33 #[.pointer (some p)] .returning w fun e u' w' => e = .returned (.tuple #[]) ∧ u' = .returning ∧ w' = w := by
  refine callsD_of_wpS Tryz.func33 rfl fun c₀ cs hu => ?_
  apply wpS_seq
  apply wpS_region
  simp [wpOpsS, go_sem, recoverD, hu, Tryz.ntmps33, Exit.thenS]
  refine wpS_of_wp ?_
  rw [show (#[Value.pointer (some p)] ++ ((Array.replicate 6 undef).setIfInBounds 1 Value.nilIface).setIfInBounds 0 Value.nilIface : Array Value) = #[.pointer (some p), .nilIface, .nilIface, undef, undef, undef, undef] from rfl]
  go_wp2_with fail
  exact ⟨rfl, _, by cases c₀; simp_all, _, results_none rfl _ _ _, rfl, rfl, rfl⟩
theorem sres_two (tmps : Array Value) (W : World) (gp gf : Nat) (cs fs : Array Value) (h4 : tmps.getD 4 undef = .pointer (some ⟨gp, 0, none⟩)) (h5 : tmps.getD 5 undef = .pointer (some ⟨gf, 0, none⟩)) (hp : W.heap[gp]? = some (.cells cs 47 (0, 0))) (hf : W.heap[gf]? = some (.cells fs 30 (0, 0))) (hcs : cs.size = 24) (hfs : fs.size = 2) :
    (results Tryz.f19 tmps).run Tryz.prog W = .ok (.tuple #[.agg cs, .agg fs]) W := by
  have h4' : tmps[4]?.getD undef = .pointer (some ⟨gp, 0, none⟩) := by simpa using h4
  have h5' : tmps[5]?.getD undef = .pointer (some ⟨gf, 0, none⟩) := by simpa using h5
  have e1 := run_loadVar_row (P := Tryz.prog) W gp 47 47 cs (0, 0) _ hp Tryz.underlying47 rfl (by rw [hcs]; exact sySize_stm)
  have e2 := run_loadVar_row (P := Tryz.prog) W gf 30 30 fs (0, 0) _ hf Tryz.underlying30 rfl (by rw [hfs]; exact sySize_fau)
  simp [results, Tryz.results19, h4', h5', asAddr, e1, e2]
structure SLies (B : Nat) (w : World) (S : SV) : Prop where
  txt : S.lab.size ≤ 2000 ∧ S.nm.size ≤ 2000 ∧ S.en.size ≤ 2000 ∧ S.al.size ≤ 2000 ∧ S.ye.size ≤ 2000 ∧ S.no.size ≤ 2000
  tg : Lies B w S.tg
  va : Lies B w S.va
  pa : Lies B w S.pa
  ps : NLies B w S.ps
  ls : NLies B w S.ls
theorem SLies.step {B : Nat} {w w' : World} {S : SV} (h : SLies B w S) (hs : w.heap.size ≤ w'.heap.size) (hb : ∀ i, B ≤ i → i < w.heap.size → w'.heap[i]? = w.heap[i]?) : SLies B w' S := ⟨h.txt, h.tg.step hs hb, h.va.step hs hb, h.pa.step hs hb, h.ps.step hs hb, h.ls.step hs hb⟩
theorem SLies.below {B : Nat} {w w' : World} {S : SV} (h : SLies B w S) (hb : Below w.heap.size w w') : SLies B w' S := h.step hb.size fun i _ h2 => hb.block i h2
theorem SLies.setRow {B g : Nat} {w : World} {S : SV} (h : SLies B w S) (hg : g < B) (cs : Array Value) : SLies B (w.setRow g cs) S := h.step (by simp) fun i h1 _ => setRow_other w g i cs (by omega)
theorem SLies.mono {B C : Nat} {w : World} {S : SV} (h : SLies C w S) (hc : B ≤ C) : SLies B w S := ⟨h.txt, h.tg.mono hc, h.va.mono hc, h.pa.mono hc, fun X hX => h.ps X fun i h1 h2 => hX i (by omega) h2, fun X hX => h.ls X fun i h1 h2 => hX i (by omega) h2⟩
theorem SLies.here {B : Nat} {w : World} {S : SV} (h : SLies B w S) : S.In w := by
  obtain ⟨a, b, c, d, e, f⟩ := h.txt
  exact ⟨⟨by unfold maxLen; omega, by unfold maxLen; omega, by unfold maxLen; omega, by unfold maxLen; omega, by unfold maxLen; omega, by unfold maxLen; omega⟩, h.tg.here, h.va.here, h.pa.here, h.ps w fun _ _ _ => rfl, h.ls w fun _ _ _ => rfl⟩
theorem SV.cells_one (S : SV) : S.cells.all (·.oneCell') = true := by
  unfold SV.cells NL.v
  simp [Value.oneCell']
def RaPost (s : ByteArray) (l : List Tk) (w : World) (e : Ending) (w' : World) : Prop :=
  Below w.heap.size w w' ∧ (∀ P m, raS s l = .ok (P, m) → ∃ S : SV, e = .returned (.tuple #[S.v, fauV 0 0]) ∧ S.can = P ∧ SLies w.heap.size w' S) ∧
    (∀ er a, raS s l = .error (er, a) → ∃ C : Array Value, e = .returned (.tuple #[.agg C, fauV er a]) ∧ C.size = 24 ∧ C.all (·.oneCell') = true)
def raB (s : ByteArray) (S : SV) (l : List Tk) : Sy SV := sbd (ddS s.size 400 S l) fun S q => sbd (wyS s.size S q) fun S m => if m.length = 0 then .ok (S, m) else .error (2, (ahd s.size 0 m).a)
theorem nul_in (w : World) : PT.nul.In w := ⟨⟨by decide, by decide⟩, by decide, ⟨by decide, by decide⟩, by decide, by decide, by decide, fun h => absurd h (by decide), fun i => i.elim0⟩
theorem nlO_lies (B : Nat) (w : World) : NLies B w (nlO []) := fun X _ => ⟨Nat.le_refl _, Nat.zero_le _, fun h => absurd h (by decide), fun i t h => by cases h⟩
theorem nul_can : PT.nul.can = PT.nul := by
  rw [PT.can_eq]
  show mkP 0 ByteArray.empty 0 ByteArray.empty [] = PT.nul
  unfold mkP PT.nul
  congr 1
  funext i
  exact i.elim0
theorem zSV_can : zSV.can = zSV := by
  show SV.mk ByteArray.empty 0 PT.nul.can PT.nul.can PT.nul.can ByteArray.empty ByteArray.empty (nlO []) (nlO []) ByteArray.empty ByteArray.empty ByteArray.empty = zSV
  rw [nul_can]; rfl
theorem zSV_in {w : World} {sb : Nat} (B : Nat) (h : w.heap[sb]? = some (.cells zSV.cells 47 (0, 0))) : StIn B sb w zSV zSV :=
  ⟨h, zSV_can, by decide, fun X _ => nul_in X, fun X _ => nul_in X, fun X _ => nul_in X, nlO_lies B w, nlO_lies B w⟩
theorem StR.lab {C : SyC} {o B sb : Nat} {w W : World} {l : List Tk} {S P : SV} (h : StR C o B sb w W l S P) (hS : SyS C B sb) {t : ByteArray} (ht : t.size ≤ 2000) : StR C o B sb w (W.setCell ⟨sb, 0, none⟩ (.string t)) l { S with lab := t } { P with lab := t } :=
  ⟨h.but.set _ _, h.rdr.stm hS, h.stm.put hS.s rfl (by rw [← h.stm.can]; rfl) ⟨ht, h.stm.txt.2⟩ rfl rfl rfl rfl rfl⟩
end Go.Proofs.YtpkmamgleofimaaGreatDoor

namespace Go.Proofs.YtpkmamgleofimaaGreatDoor
open Go.RowKit

structure PV where
  xa : Option Addr
  gb : Nat
  ob : Nat
  cap : Nat
def PV.v (V : PV) (n : Nat) : Value := .slice V.xa n V.cap
structure PIn (w : World) (V : PV) (P : List SV) : Prop where
  cap : P.length ≤ V.cap
  max : V.cap ≤ maxLen
  at_ : 0 < P.length → V.xa = some ⟨V.gb, V.ob, none⟩
  row : ∀ (i : Nat) S, P[i]? = some S → w.rangeAt V.gb (V.ob + i * 24) S.cells.toList ∧ S.In w
theorem idx24 {g o n cap i : Nat} (hi : i < n) (w : World) :
    (Instr.indexAt 28 (.slice (some ⟨g, o, none⟩) n cap) (.int .i64 (i : Int))).run Tryz.prog w = .ok (.pointer (some ⟨g, o + i * 24, none⟩)) w := by
  have h0 : (0 : Int) ≤ (i : Int) ∧ (i : Int) < (n : Int) := by omega
  cases hq : Tryz.prog.info? 47 with
  | none => have := size_stmt; simp [hq] at this
  | some x =>
    have hz : x.size = 24 := by have := size_stmt; simpa [hq] using this
    simp [Instr.indexAt, asIntOf, run_underlying Tryz.underlying28, h0, sizeOf, typeInfo, hq, hz, Addr.add_lit]
    intro h
    omega
def cT (S : SV) : List Value := S.cells.toList
theorem cT_len (S : SV) : (cT S).length = 24 := sv_size S
theorem cT_one : ∀ (S : SV), ∀ u ∈ cT S, u.oneCell' = true := fun S u hu => (Array.all_eq_true_iff_forall_mem.1 (SV.cells_one S)) u (by simpa [cT] using hu)
theorem stmtRow : (Tryz.prog.info? 47).map (fun i => (i.zero, i.size, i.bytes)) = some (some (.agg #[.string ⟨#[]⟩, .int .i64 0, .int .i64 0, .string ⟨#[]⟩, .int .i64 0, .string ⟨#[]⟩, .slice none 0 0, .int .i64 0, .string ⟨#[]⟩, .int .i64 0, .string ⟨#[]⟩, .slice none 0 0, .int .i64 0, .string ⟨#[]⟩, .int .i64 0, .string ⟨#[]⟩, .slice none 0 0, .string ⟨#[]⟩, .string ⟨#[]⟩, .slice none 0 0, .slice none 0 0, .string ⟨#[]⟩, .string ⟨#[]⟩, .string ⟨#[]⟩]), 24, 368) := by kernel_rfl
theorem cT_cell {w : World} {g : Nat} {S : SV} (h : w.heap[g]? = some (.cells S.cells 47 (0, 0))) : ∀ k u, (cT S)[k]? = some u → w.cell? ⟨g, k, none⟩ = some u := fun k u hu => by
  rw [cell_of_row _ _ _ _ _ _ h, ← Array.getElem?_toList]; exact hu
theorem fold24 : ∀ (L : List Value) (_ : L.length = 24), List.foldl (fun (cs : Array Value) (x : Value × Nat) => cs.setIfInBounds x.snd x.fst) #[.string ⟨#[]⟩, .int .i64 0, .int .i64 0, .string ⟨#[]⟩, .int .i64 0, .string ⟨#[]⟩, .slice none 0 0, .int .i64 0, .string ⟨#[]⟩, .int .i64 0, .string ⟨#[]⟩, .slice none 0 0, .int .i64 0, .string ⟨#[]⟩, .int .i64 0, .string ⟨#[]⟩, .slice none 0 0, .string ⟨#[]⟩, .string ⟨#[]⟩, .slice none 0 0, .slice none 0 0, .string ⟨#[]⟩, .string ⟨#[]⟩, .string ⟨#[]⟩] L.zipIdx = L.toArray
  | [x0, x1, x2, x3, x4, x5, x6, x7, x8, x9, x10, x11, x12, x13, x14, x15, x16, x17, x18, x19, x20, x21, x22, x23], _ => by kernel_rfl
theorem row_prog {w : World} {B : Nat} {v : Value} {P : List SV} (h : Row w B 47 24 cT v P) (hS : ∀ S ∈ P, ∀ W, Below w.heap.size w W → S.In W) : ∃ V : PV, v = V.v P.length ∧ ∀ W, Below w.heap.size w W → PIn W V P := by
  obtain ⟨a, cap, rfl, hn, hc⟩ := h.len
  rcases Nat.eq_zero_or_pos P.length with h0 | h0
  · refine ⟨⟨a, 0, 0, cap⟩, rfl, fun W q => ⟨hc, ?_, fun hp => by omega, fun i S hi => by have := (List.getElem?_eq_some_iff.1 hi).1; omega⟩⟩
    rcases h.2 with ⟨e, _⟩ | ⟨g, cap', cur, e, _, _, h1, h2, _⟩
    · injection e with _ _ e3; subst e3; exact Nat.zero_le _
    · injection e with _ _ e3; subst e3; exact h2
  · obtain ⟨g, cap', hv, h1, h2⟩ := h.form (fun e => by rw [e] at h0; simp at h0)
    injection hv with e1 _ e3
    subst e1 e3
    refine ⟨⟨some ⟨g, 0, none⟩, g, 0, cap⟩, rfl, fun W q => ⟨h1, h2, fun _ => rfl, fun i S hi => ⟨fun j u hj => ?_, hS S (List.mem_of_getElem? hi) W q⟩⟩⟩
    have := cell_later q (h.cell cT_len rfl hi (show (cT S)[j]? = some u from hj))
    rw [show (0 : Nat) + i * 24 + j = i * 24 + j by omega]
    exact this
end Go.Proofs.YtpkmamgleofimaaGreatDoor
