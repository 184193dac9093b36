/- The reader of lines: a line. -/
import Derived.Test.YtpkmamgleofimaaGreatDoorSyUM
import Derived.Test.YtpkmamgleofimaaGreatDoorSplLibM
import Derived.Test.YtpkmamgleofimaaGreatDoorSyNzM
import Derived.Test.YtpkmamgleofimaaGreatDoorStAM
namespace Go.Proofs.YtpkmamgleofimaaGreatDoor
open Go.RowKit

def LnPost (s : ByteArray) (w : World) (e : Ending) (w' : World) : Prop :=
  Below w.heap.size w w' ∧ (∀ er a, lnS s = .error (er, a) → e = .returned (.tuple #[zSV.v, .bool false, fauV er a])) ∧ (lnS s = .ok none → e = .returned (.tuple #[zSV.v, .bool false, fauV 0 0])) ∧
    (∀ P, lnS s = .ok (some P) → ∃ S : SV, e = .returned (.tuple #[S.v, .bool true, fauV 0 0]) ∧ S.can = P ∧ SLies w.heap.size w' S)
structure LnS (w : World) (B : Nat) (W : World) (C F : Array Value) : Prop where
  bel : Below B w W
  s : W.heap[B]? = some (.cells C 47 (0, 0))
  f : W.heap[B + 1]? = some (.cells F 30 (0, 0))
section
variable {w W W' : World} {B : Nat} {C F : Array Value}
theorem LnS.st (h : LnS w B W C F) (D : Array Value) : LnS w B (W.setRow B D) D F := ⟨below_setRow h.bel B (Nat.le_refl _) D, setRow_heap _ _ _ _ _ _ h.s, (setRow_other W B (B + 1) D (by omega)).trans h.f⟩
theorem LnS.fa (h : LnS w B W C F) (D : Array Value) : LnS w B (W.setRow (B + 1) D) C D := ⟨below_setRow h.bel (B + 1) (by omega) D, (setRow_other W (B + 1) B D (by omega)).trans h.s, setRow_heap _ _ _ _ _ _ h.f⟩
theorem LnS.lt (h : LnS w B W C F) : B + 1 < W.heap.size := (Array.getElem?_eq_some_iff.1 h.f).1
theorem LnS.below (h : LnS w B W C F) (hb : Below W.heap.size W W') : LnS w B W' C F := ⟨h.bel.trans (hb.mono (by have := h.lt; omega)), row_below h.s hb, row_below h.f hb⟩
end
theorem sres_three (tmps : Array Value) (W : World) (gp gf : Nat) (cs fs : Array Value) (b : Value) (h2 : tmps.getD 2 undef = .pointer (some ⟨gp, 0, none⟩)) (h3 : tmps.getD 3 undef = b) (h4 : tmps.getD 4 undef = .pointer (some ⟨gf, 0, none⟩)) (hp : W.heap[gp]? = some (.cells cs 47 (0, 0))) (hf : W.heap[gf]? = some (.cells fs 30 (0, 0))) (hcs : cs.size = 24) (hfs : fs.size = 2) :
    (results Tryz.f13 tmps).run Tryz.prog W = .ok (.tuple #[.agg cs, b, .agg fs]) W := by
  have h2' : tmps[2]?.getD undef = .pointer (some ⟨gp, 0, none⟩) := by simpa using h2
  have h3' : tmps[3]?.getD undef = b := by simpa using h3
  have h4' : tmps[4]?.getD undef = .pointer (some ⟨gf, 0, none⟩) := by simpa using h4
  have e1 := run_loadVar_row (P := Tryz.prog) W gp 47 47 cs (0, 0) _ hp Tryz.underlying47 rfl (by rw [hcs]; exact sySize_stm)
  have e2 := run_loadVar_row (P := Tryz.prog) W gf 30 30 fs (0, 0) _ hf Tryz.underlying30 rfl (by rw [hfs]; exact sySize_fau)
  simp [results, Tryz.results13, h2', h3', h4', asAddr, e1, e2]
theorem pref_bat (s : ByteArray) : Lib.hasPrefix s.data.toList [42] = decide (bat s 0 = 42) := by
  unfold Lib.hasPrefix bat
  cases h : s.data.toList with
  | nil => rfl
  | cons c r =>
    show ((42 : UInt8) == c && List.isPrefixOf [] r) = decide (c.toNat = 42)
    rw [show List.isPrefixOf ([] : List UInt8) r = true from by cases r <;> rfl, Bool.and_true]
    by_cases q : c = 42
    · subst q; rfl
    · rw [decide_eq_false (fun z : c.toNat = 42 => q (UInt8.toNat_inj.1 (z.trans rfl))), beq_eq_false_iff_ne]
      exact fun z => q z.symm
theorem can_fits (T : PT) : T.can.fits = T.fits := by unfold PT.fits; rw [can_cnt, can_dep]
theorem lineP_len (s : ByteArray) (h : (lineP s).2.1 = 0) : s.size ≤ 2000 := by
  unfold lineP at h
  split at h
  · exact absurd h (by decide)
  · omega
theorem row_SyTk {w w' : World} {v : Value} {s : ByteArray} (h : Row w' w.heap.size 78 3 tkV v (lineP s).1) (h0 : 0 < w'.heap.size) : ∃ g, SyTk w' v (lineP s).1 g ∧ ((lineP s).1 = [] ∨ w.heap.size ≤ g) := by
  rcases h.2 with ⟨rfl, e0⟩ | ⟨g, cap, cur, rfl, hlow, hgg, hle, hmax, -, -⟩
  · refine ⟨0, ⟨⟨none, 0, 0, by rw [e0], by omega, Nat.zero_le _, fun q => absurd (List.eq_nil_of_length_eq_zero e0) q, fun i t ht => ?_⟩, h0, line_TkS s⟩, .inl (List.eq_nil_of_length_eq_zero e0)⟩
    rw [List.eq_nil_of_length_eq_zero e0] at ht; cases ht
  · refine ⟨g, ⟨⟨_, cap, 0, rfl, hle, hmax, fun _ => rfl, fun i t ht => ?_⟩, (Array.getElem?_eq_some_iff.1 hgg).1, line_TkS s⟩, .inr hlow⟩
    rw [Nat.zero_add]
    exact ⟨h.cell tkV_len rfl ht (k := 0) rfl, h.cell tkV_len rfl ht (k := 1) rfl, h.cell tkV_len rfl ht (k := 2) rfl⟩
theorem SyTk.set {w : World} {v : Value} {l : List Tk} {g k : Nat} (h : SyTk w v l g) (hg : l = [] ∨ k < g) (D : Array Value) : SyTk (w.setRow k D) v l g := by
  obtain ⟨⟨xa, cap, off, h1, h2, h3, h4, h5⟩, h6, h7⟩ := h
  refine ⟨⟨xa, cap, off, h1, h2, h3, h4, fun i t ht => ?_⟩, by simpa using h6, h7⟩
  rcases hg with hg | hg
  · subst hg; cases ht
  · exact h5.same (setRow_other w k g D (by omega)) i t ht
theorem cells24 {w : World} {g : Nat} {C : Array Value} (h : w.heap[g]? = some (.cells C 47 (0, 0))) {k : Nat} {u : Value} (hk : C[k]? = some u) : w.cell? ⟨g, k, none⟩ = some u := by rw [cell_of_row _ _ _ _ _ _ h]; exact hk
theorem wp_store_any {o : Oper} {a : Act} {w : World} {K : Act → World → Prop} {Q : Exit → Act → World → Prop} {E : Prop} {ops : Array Oper} (hgd : o.guard = none) (ty : TypeId) (x y : Operand) (ho : o.op = .store ty x y)
    (g : Nat) (cells : Array Value) (hx : a.eval x = .pointer (some ⟨g, 0, none⟩)) (hy : a.eval y = .agg cells) (t : TypeId) (old : Array Value) (hg : w.heap[g]? = some (.cells old t (0, 0))) (hi : (Tryz.prog.info? ty).map (·.size) = some cells.size)
    (hold : old.size = cells.size) (h1 : cells.all (·.oneCell') = true) (h : K (a.put o.dst undef) (w.setRow g cells)) : if Region.wanted o (yielded ops a.tmps) = true then Oper.wp Tryz.prog o a w K Q else E := by
  have hw : Region.wanted o (yielded ops a.tmps) = true := by simp [Region.wanted, hgd]
  rw [if_pos hw]
  exact wp_store_row ty x y ho g cells hx hy t old hg hi hold h1 h
set_option maxRecDepth 100000 in
set_option maxHeartbeats 8000000 in
theorem sline_any (s : ByteArray) (w : World) (hs : s.size ≤ maxLen) (hW : SyW w) (m : Int) (hm : w.cell? ⟨1, 0, none⟩ = some (.int .i64 m)) : Calls Tryz.prog 13 #[.string s] w fun e w' => LnPost s w e w' := by
  obtain ⟨B, hB⟩ : ∃ B, B = w.heap.size := ⟨_, rfl⟩
  obtain ⟨w0, hw0⟩ : ∃ w0, w0 = (w.alloc (.cells #[.string ⟨#[]⟩, .int .i64 0, .int .i64 0, .string ⟨#[]⟩, .int .i64 0, .string ⟨#[]⟩, .slice none 0 0, .int .i64 0, .string ⟨#[]⟩, .int .i64 0, .string ⟨#[]⟩, .slice none 0 0, .int .i64 0, .string ⟨#[]⟩, .int .i64 0, .string ⟨#[]⟩, .slice none 0 0, .string ⟨#[]⟩, .string ⟨#[]⟩, .slice none 0 0, .slice none 0 0, .string ⟨#[]⟩, .string ⟨#[]⟩, .string ⟨#[]⟩] 47)).alloc (.cells #[.int .i64 0, .int .i64 0] 30) := ⟨_, rfl⟩
  have H0 : Hid (LnS w B w0 #[.string ⟨#[]⟩, .int .i64 0, .int .i64 0, .string ⟨#[]⟩, .int .i64 0, .string ⟨#[]⟩, .slice none 0 0, .int .i64 0, .string ⟨#[]⟩, .int .i64 0, .string ⟨#[]⟩, .slice none 0 0, .int .i64 0, .string ⟨#[]⟩, .int .i64 0, .string ⟨#[]⟩, .slice none 0 0, .string ⟨#[]⟩, .string ⟨#[]⟩, .slice none 0 0, .slice none 0 0, .string ⟨#[]⟩, .string ⟨#[]⟩, .string ⟨#[]⟩] #[.int .i64 0, .int .i64 0]) := hide (by
    refine ⟨?_, ?_, ?_⟩
    · rw [hw0, hB]; exact (ba _).alloc (by simp) _
    · rw [hw0, hB]; exact at_old (by simp) (at_new rfl)
    · rw [hw0, hB]; exact at_new (by simp))
  have HPF := hide (fun W => show Calls Tryz.prog 17 #[.string s, .string ⟨#[42]⟩] W fun e w' => e = .returned (.bool (decide (bat s 0 = 42))) ∧ w' = W from pref_bat s ▸ Tryz.strings_HasPrefix s ⟨#[42]⟩ W)
  have HLX := hide (fun W (hb : Below B w W) => line_any s W hs m (cell_later (hB ▸ hb) hm))
  have HRA := hide (fun W v g h1 (hb : Below B w W) h => sreadAll_any s (lineP s).1 v g W h1 (hW.later (hB ▸ hb)) h)
  obtain ⟨RR, hRR⟩ : ∃ RR, RR = lnS s := ⟨_, rfl⟩
  have HPO := hide (show ∀ e w', (Below B w w' ∧ (∀ er a, RR = .error (er, a) → e = .returned (.tuple #[zSV.v, .bool false, fauV er a])) ∧ (RR = .ok none → e = .returned (.tuple #[zSV.v, .bool false, fauV 0 0])) ∧
    (∀ P, RR = .ok (some P) → ∃ S : SV, e = .returned (.tuple #[S.v, .bool true, fauV 0 0]) ∧ S.can = P ∧ SLies B w' S)) → LnPost s w e w' from fun e w' h => by rw [hB, hRR] at h; exact h)
  have hbad : ∀ er a W, RR = .error (er, a) → Below B w W → LnPost s w (.returned (.tuple #[zSV.v, .bool false, fauV er a])) W := fun er a W h hb => unhide HPO _ _ ⟨hb, fun er' a' h' => (by rw [h] at h'; injection h' with h'; injection h' with h1 h2; rw [h1, h2]), fun h' => (by rw [h] at h'; cases h'), fun P h' => (by rw [h] at h'; cases h')⟩
  have HBAD := hide hbad
  have HQ := hide (show RR = if bat s 0 = 42 ∧ s.size ≤ 2000 then .ok none else if (lineP s).2.1 ≠ 0 then .error ((lineP s).2.1, (lineP s).2.2) else match raS s (lineP s).1 with
    | .error e => .error e
    | .ok x => if x.1.tg.fits = true ∧ x.1.va.fits = true then .ok (some x.1) else .error (4, 0) from hRR)
  have HWD : Hid ((w.alloc (.cells #[.string ⟨#[]⟩, .int .i64 0, .int .i64 0, .string ⟨#[]⟩, .int .i64 0, .string ⟨#[]⟩, .slice none 0 0, .int .i64 0, .string ⟨#[]⟩, .int .i64 0, .string ⟨#[]⟩, .slice none 0 0, .int .i64 0, .string ⟨#[]⟩, .int .i64 0, .string ⟨#[]⟩, .slice none 0 0, .string ⟨#[]⟩, .string ⟨#[]⟩, .slice none 0 0, .slice none 0 0, .string ⟨#[]⟩, .string ⟨#[]⟩, .string ⟨#[]⟩] 47)).alloc (.cells #[.int .i64 0, .int .i64 0] 30) = w0) := hide (hw0.symm)
  have HB := hide hB
  have HLN := hide (lineP_len s)
  have HPT := hide (fun (W W' : World) (v : Value) (h : Row W' W.heap.size 78 3 tkV v (lineP s).1) h0 => row_SyTk h h0)
  clear hw0 hRR hB hs hm hW hbad
  unfold LinePost at HLX
  generalize (lineP s).2.2 = la at *
  generalize hle : (lineP s).2.1 = le at *
  clear hle
  generalize (lineP s).1 = ll at *
  go_enter Tryz.func13, Tryz.ntmps13
  go_wp2_with fail
  rw [unhide HWD]
  rw [show w.heap.size = B from (unhide HB).symm]
  refine (unhide HPF w0).mono ?_
  rintro e w0 ⟨rfl, rfl⟩
  clear HPF HWD HB
  generalize bat s 0 = b at *
  by_cases hb : b = 42
  · rw [decide_eq_true hb]
    by_cases h2 : s.size ≤ 2000
    · have HE : Hid (RR = .ok none) := hide (by rw [unhide HQ, if_pos ⟨hb, h2⟩])
      have q2 : (s.size : Int) ≤ 2000 := by omega
      clear hb h2 HQ
      have H1 := hide ((unhide H0).st #[.string ⟨#[]⟩, .int .i64 0, .int .i64 0, .string ⟨#[]⟩, .int .i64 0, .string ⟨#[]⟩, .slice none 0 0, .int .i64 0, .string ⟨#[]⟩, .int .i64 0, .string ⟨#[]⟩, .slice none 0 0, .int .i64 0, .string ⟨#[]⟩, .int .i64 0, .string ⟨#[]⟩, .slice none 0 0, .string ⟨#[]⟩, .string ⟨#[]⟩, .slice none 0 0, .slice none 0 0, .string ⟨#[]⟩, .string ⟨#[]⟩, .string ⟨#[]⟩])
      have H2 := hide ((unhide H1).fa #[.int .i64 0, .int .i64 0])
      go_wp2_with (first
        | (refine wpList_store_row rfl 47 _ _ rfl B #[.string ⟨#[]⟩, .int .i64 0, .int .i64 0, .string ⟨#[]⟩, .int .i64 0, .string ⟨#[]⟩, .slice none 0 0, .int .i64 0, .string ⟨#[]⟩, .int .i64 0, .string ⟨#[]⟩, .slice none 0 0, .int .i64 0, .string ⟨#[]⟩, .int .i64 0, .string ⟨#[]⟩, .slice none 0 0, .string ⟨#[]⟩, .string ⟨#[]⟩, .slice none 0 0, .slice none 0 0, .string ⟨#[]⟩, .string ⟨#[]⟩, .string ⟨#[]⟩] rfl rfl 47 #[.string ⟨#[]⟩, .int .i64 0, .int .i64 0, .string ⟨#[]⟩, .int .i64 0, .string ⟨#[]⟩, .slice none 0 0, .int .i64 0, .string ⟨#[]⟩, .int .i64 0, .string ⟨#[]⟩, .slice none 0 0, .int .i64 0, .string ⟨#[]⟩, .int .i64 0, .string ⟨#[]⟩, .slice none 0 0, .string ⟨#[]⟩, .string ⟨#[]⟩, .slice none 0 0, .slice none 0 0, .string ⟨#[]⟩, .string ⟨#[]⟩, .string ⟨#[]⟩] (by with_reducible exact (unhide H0).s) sySize_stm rfl (SV.cells_one zSV) ?_)
        | (refine wpList_store_row rfl 30 _ _ rfl (B + 1) #[.int .i64 0, .int .i64 0] rfl rfl 30 #[.int .i64 0, .int .i64 0] (by with_reducible exact (unhide H1).f) sySize_fau rfl (by simp [Value.oneCell']) ?_)
        | fail)
      exact bodyPost_ret (sres_three _ _ B (B + 1) #[.string ⟨#[]⟩, .int .i64 0, .int .i64 0, .string ⟨#[]⟩, .int .i64 0, .string ⟨#[]⟩, .slice none 0 0, .int .i64 0, .string ⟨#[]⟩, .int .i64 0, .string ⟨#[]⟩, .slice none 0 0, .int .i64 0, .string ⟨#[]⟩, .int .i64 0, .string ⟨#[]⟩, .slice none 0 0, .string ⟨#[]⟩, .string ⟨#[]⟩, .slice none 0 0, .slice none 0 0, .string ⟨#[]⟩, .string ⟨#[]⟩, .string ⟨#[]⟩] #[.int .i64 0, .int .i64 0] (.bool false) rfl rfl rfl (unhide H2).s (unhide H2).f rfl rfl) rfl (unhide HPO _ _ ⟨(unhide H2).bel, fun er a h => (by rw [unhide HE] at h; cases h), fun _ => rfl, fun P h => (by rw [unhide HE] at h; cases h)⟩)
    · have HQ1 := hide ((unhide HQ).trans (if_neg (fun q => h2 q.2)))
      have q2 : (2000 : Int) < (s.size : Int) := by omega
      clear hb h2 HQ
      go_wp2_with fail
      refine (unhide HLX w0 (unhide H0).bel).mono ?_
      rintro e w1 ⟨v, rfl, hrow, hb1⟩
      have H1 := hide ((unhide H0).below hb1)
      have HTK := hide (unhide HPT w0 w1 v hrow (by have := (unhide H1).lt; omega))
      have H2 := hide ((unhide H1).fa (fau le la))
      have HLT := hide (unhide H0).lt
      clear hb1 hrow HLX HPT
      unfold fau at H2
      unfold fau
      obtain ⟨f0, f1⟩ := fault2 (unhide H2).f
      by_cases h0 : le = 0
      · have q0 : ((le : Int) != 0) = false := by simp; omega
        have HQ2 := hide ((unhide HQ1).trans (if_neg (fun q => q h0)))
        have HL2 := hide (unhide HLN h0)
        clear h0 HQ1 HLN
        go_wp2_with (first
          | (refine wpList_store_row rfl 30 _ _ rfl (B + 1) #[.int .i64 (le : Int), .int .i64 (la : Int)] rfl rfl 30 #[.int .i64 0, .int .i64 0] (by with_reducible exact (unhide H1).f) sySize_fau rfl (by simp [Value.oneCell']) ?_)
          | fail)
        obtain ⟨g, hTK, hlow⟩ := unhide HTK
        have HR := hide (unhide HRA _ v g (unhide HL2) (unhide H2).bel (hTK.set (hlow.imp id fun q => by have := unhide HLT; omega) #[.int .i64 (le : Int), .int .i64 (la : Int)]))
        clear f0 f1 hTK hlow HTK H1 HRA
        generalize w1.setRow (B + 1) #[.int .i64 (le : Int), .int .i64 (la : Int)] = w2 at *
        refine (unhide HR).mono ?_
        rintro e w3 ⟨hb3, hok, her⟩
        have H3 := hide ((unhide H2).below hb3)
        cases hr : raS s ll with
        | error x =>
          obtain ⟨er, i⟩ := x
          obtain ⟨C, rfl, hC1, hC2⟩ := her er i hr
          have hnz := raS_nz s ll er i hr
          have hE := unhide HQ2
          rw [hr] at hE
          have HE : Hid (RR = .error (er, i)) := hide (hE)
          have q1 : (er != 0) = true := by simp; exact hnz
          have H4 := hide ((unhide H3).st C)
          have H5 := hide ((unhide H4).fa #[.int .i64 er, .int .i64 (i : Int)])
          have HC1 := hide hC1
          have HC2 := hide hC2
          obtain ⟨f0, f1⟩ := fault2 (unhide H5).f
          clear hok her hr hE hC1 hC2 hb3 HQ2 HR hnz
          unfold fauV
          go_wp2_with (first
            | (refine wpList_store_row rfl 47 _ _ rfl B C rfl rfl 47 #[.string ⟨#[]⟩, .int .i64 0, .int .i64 0, .string ⟨#[]⟩, .int .i64 0, .string ⟨#[]⟩, .slice none 0 0, .int .i64 0, .string ⟨#[]⟩, .int .i64 0, .string ⟨#[]⟩, .slice none 0 0, .int .i64 0, .string ⟨#[]⟩, .int .i64 0, .string ⟨#[]⟩, .slice none 0 0, .string ⟨#[]⟩, .string ⟨#[]⟩, .slice none 0 0, .slice none 0 0, .string ⟨#[]⟩, .string ⟨#[]⟩, .string ⟨#[]⟩] (by with_reducible exact (unhide H3).s) (sySize_stm.trans (by rw [unhide HC1])) (by rw [unhide HC1]; rfl) (unhide HC2) ?_)
            | (refine wpList_store_row rfl 30 _ _ rfl (B + 1) #[.int .i64 er, .int .i64 (i : Int)] rfl rfl 30 #[.int .i64 (le : Int), .int .i64 (la : Int)] (by with_reducible exact (unhide H4).f) sySize_fau rfl (by simp [Value.oneCell']) ?_)
            | fail)
          generalize (w3.setRow B C).setRow (B + 1) #[.int .i64 er, .int .i64 (i : Int)] = w5 at *
          clear f0 f1
          have h6 := (unhide H5).st #[.string ⟨#[]⟩, .int .i64 0, .int .i64 0, .string ⟨#[]⟩, .int .i64 0, .string ⟨#[]⟩, .slice none 0 0, .int .i64 0, .string ⟨#[]⟩, .int .i64 0, .string ⟨#[]⟩, .slice none 0 0, .int .i64 0, .string ⟨#[]⟩, .int .i64 0, .string ⟨#[]⟩, .slice none 0 0, .string ⟨#[]⟩, .string ⟨#[]⟩, .slice none 0 0, .slice none 0 0, .string ⟨#[]⟩, .string ⟨#[]⟩, .string ⟨#[]⟩]
          have hS0w : LnS w B w5.drew C #[.int .i64 er, .int .i64 (i : Int)] := ⟨(unhide H5).bel.drew, (unhide H5).s, (unhide H5).f⟩
          have h6d : LnS w B (w5.drew.setRow B #[.string ⟨#[]⟩, .int .i64 0, .int .i64 0, .string ⟨#[]⟩, .int .i64 0, .string ⟨#[]⟩, .slice none 0 0, .int .i64 0, .string ⟨#[]⟩, .int .i64 0, .string ⟨#[]⟩, .slice none 0 0, .int .i64 0, .string ⟨#[]⟩, .int .i64 0, .string ⟨#[]⟩, .slice none 0 0, .string ⟨#[]⟩, .string ⟨#[]⟩, .slice none 0 0, .slice none 0 0, .string ⟨#[]⟩, .string ⟨#[]⟩, .string ⟨#[]⟩]) #[.string ⟨#[]⟩, .int .i64 0, .int .i64 0, .string ⟨#[]⟩, .int .i64 0, .string ⟨#[]⟩, .slice none 0 0, .int .i64 0, .string ⟨#[]⟩, .int .i64 0, .string ⟨#[]⟩, .slice none 0 0, .int .i64 0, .string ⟨#[]⟩, .int .i64 0, .string ⟨#[]⟩, .slice none 0 0, .string ⟨#[]⟩, .string ⟨#[]⟩, .slice none 0 0, .slice none 0 0, .string ⟨#[]⟩, .string ⟨#[]⟩, .string ⟨#[]⟩] #[.int .i64 er, .int .i64 (i : Int)] := hS0w.st #[.string ⟨#[]⟩, .int .i64 0, .int .i64 0, .string ⟨#[]⟩, .int .i64 0, .string ⟨#[]⟩, .slice none 0 0, .int .i64 0, .string ⟨#[]⟩, .int .i64 0, .string ⟨#[]⟩, .slice none 0 0, .int .i64 0, .string ⟨#[]⟩, .int .i64 0, .string ⟨#[]⟩, .slice none 0 0, .string ⟨#[]⟩, .string ⟨#[]⟩, .slice none 0 0, .slice none 0 0, .string ⟨#[]⟩, .string ⟨#[]⟩, .string ⟨#[]⟩]
          have H7 := hide (h6d.fa #[.int .i64 er, .int .i64 (i : Int)])
          obtain ⟨S0, hS0⟩ : ∃ S0 : World → Prop, S0 = fun W => W.cell? ⟨B + 1, 0, none⟩ = some (.int .i64 er) ∧ W.cell? ⟨B + 1, 1, none⟩ = some (.int .i64 (i : Int)) := ⟨_, rfl⟩
          have HS0 := hide hS0
          have HKE : Hid (∀ W D, LnS w B W D #[.int .i64 er, .int .i64 (i : Int)] → S0 W) := hide (fun W D h => by rw [hS0]; exact fault2 h.f)
          clear hS0
          have hS1 := unhide HKE _ _ hS0w
          refine startQ 4 S0 ?_
          intro F
          refine takeR F 0 HS0 hS1 ?_
          (try simp only [List.getElem_toArray, List.getElem_cons_zero])
          (try go_frame)
          refine takeR F 1 HS0 hS1 ?_
          (try simp only [List.getElem_toArray, List.getElem_cons_succ, List.getElem_cons_zero])
          (try go_frame)
          refine stepQ 2 (fun K2 hK2 => ?_)
          refine wp_store_any rfl 47 _ _ rfl B #[.string ⟨#[]⟩, .int .i64 0, .int .i64 0, .string ⟨#[]⟩, .int .i64 0, .string ⟨#[]⟩, .slice none 0 0, .int .i64 0, .string ⟨#[]⟩, .int .i64 0, .string ⟨#[]⟩, .slice none 0 0, .int .i64 0, .string ⟨#[]⟩, .int .i64 0, .string ⟨#[]⟩, .slice none 0 0, .string ⟨#[]⟩, .string ⟨#[]⟩, .slice none 0 0, .slice none 0 0, .string ⟨#[]⟩, .string ⟨#[]⟩, .string ⟨#[]⟩] rfl rfl 47 C hS0w.s sySize_stm (unhide HC1) (SV.cells_one zSV) ?_
          have hS2 := unhide HKE _ _ h6d
          refine hK2 _ _ hS2 ?_
          (try simp only [List.getElem_toArray, List.getElem_cons_succ, List.getElem_cons_zero])
          (try go_frame)
          refine takeR F 3 HS0 hS2 ?_
          (try simp only [List.getElem_toArray, List.getElem_cons_succ, List.getElem_cons_zero])
          (try go_frame)
          refine lastE (by kernel_rfl) rfl (by kernel_rfl) (fun K4 hK4 => ?_)
          refine wp_store_any rfl 30 _ _ rfl (B + 1) #[.int .i64 er, .int .i64 (i : Int)] rfl rfl 30 #[.int .i64 er, .int .i64 (i : Int)] h6d.f sySize_fau rfl (by simp [Value.oneCell']) ?_
          refine hK4 _ _ ?_
          (try simp only [List.getElem_toArray, List.getElem_cons_succ, List.getElem_cons_zero])
          (try go_frame)
          clear hK4 hK2 K4 K2 F hS2 hS1 h6d hS0w h6 HKE HS0
          go_wp2_with fail
          exact bodyPost_ret (sres_three _ _ B (B + 1) #[.string ⟨#[]⟩, .int .i64 0, .int .i64 0, .string ⟨#[]⟩, .int .i64 0, .string ⟨#[]⟩, .slice none 0 0, .int .i64 0, .string ⟨#[]⟩, .int .i64 0, .string ⟨#[]⟩, .slice none 0 0, .int .i64 0, .string ⟨#[]⟩, .int .i64 0, .string ⟨#[]⟩, .slice none 0 0, .string ⟨#[]⟩, .string ⟨#[]⟩, .slice none 0 0, .slice none 0 0, .string ⟨#[]⟩, .string ⟨#[]⟩, .string ⟨#[]⟩] #[.int .i64 er, .int .i64 (i : Int)] (.bool false) rfl rfl rfl (unhide H7).s (unhide H7).f rfl rfl) rfl (unhide HBAD er i _ (unhide HE) (unhide H7).bel)
        | ok x =>
          obtain ⟨P, m⟩ := x
          obtain ⟨S, rfl, hcan, hlie⟩ := hok P m hr
          have hE := unhide HQ2
          rw [hr] at hE
          have HQ3 : Hid (RR = if P.tg.fits = true ∧ P.va.fits = true then .ok (some P) else .error (4, 0)) := hide (hE)
          have hPt : P.tg.fits = S.tg.fits := by rw [← hcan]; exact can_fits S.tg
          have hPv : P.va.fits = S.va.fits := by rw [← hcan]; exact can_fits S.va
          rw [hPt, hPv] at HQ3
          have HTM := hide (fun W (hb : Below w3.heap.size w3 W) => tooMuch_any S.tg W (PT.In.later hb hlie.here.tg))
          have HVM := hide (fun W (hb : Below w3.heap.size w3 W) => tooMuch_any S.va W (PT.In.later hb hlie.here.va))
          have HLIE := hide hlie
          have HCAN := hide hcan
          obtain ⟨C, hC⟩ : ∃ C, C = S.cells := ⟨_, rfl⟩
          have hsv : S.v = .agg C := by rw [hC]; rfl
          have HSV := hide hsv
          have hC1 : C.size = 24 := by rw [hC]; rfl
          have hC2 : C.all (·.oneCell') = true := by rw [hC]; exact SV.cells_one S
          have hk2 : C[2]? = some (.int .i64 S.tg.k) ∧ C[3]? = some (.string S.tg.t) ∧ C[4]? = some (.int .i64 S.tg.n) ∧ C[5]? = some (.string S.tg.nm) ∧ C[6]? = some (.slice S.tg.xa S.tg.len S.tg.cap) := by rw [hC]; exact ⟨rfl, rfl, rfl, rfl, rfl⟩
          have hk7 : C[7]? = some (.int .i64 S.va.k) ∧ C[8]? = some (.string S.va.t) ∧ C[9]? = some (.int .i64 S.va.n) ∧ C[10]? = some (.string S.va.nm) ∧ C[11]? = some (.slice S.va.xa S.va.len S.va.cap) := by rw [hC]; exact ⟨rfl, rfl, rfl, rfl, rfl⟩
          have HC1 := hide hC1
          have HC2 := hide hC2
          have HK7 := hide hk7
          have H4 := hide ((unhide H3).st C)
          have H5 := hide ((unhide H4).fa #[.int .i64 0, .int .i64 0])
          obtain ⟨f0, f1⟩ := fault2 (unhide H5).f
          have s2 := cells24 (unhide H5).s hk2.1
          have s3 := cells24 (unhide H5).s hk2.2.1
          have s4 := cells24 (unhide H5).s hk2.2.2.1
          have s5 := cells24 (unhide H5).s hk2.2.2.2.1
          have s6 := cells24 (unhide H5).s hk2.2.2.2.2
          have s7 := cells24 (unhide H5).s hk7.1
          have s8 := cells24 (unhide H5).s hk7.2.1
          have s9 := cells24 (unhide H5).s hk7.2.2.1
          have s10 := cells24 (unhide H5).s hk7.2.2.2.1
          have s11 := cells24 (unhide H5).s hk7.2.2.2.2
          have HB35 : Hid (∀ W, LnS w B W C #[.int .i64 0, .int .i64 0] → True) := hide (fun _ _ => trivial)
          have hsz35 : w3.heap.size = ((w3.setRow B C).setRow (B + 1) #[.int .i64 0, .int .i64 0]).heap.size := by simp
          have HT5 : Hid (S.tg.In ((w3.setRow B C).setRow (B + 1) #[.int .i64 0, .int .i64 0]) ∧ S.va.In ((w3.setRow B C).setRow (B + 1) #[.int .i64 0, .int .i64 0]) ∧ SLies (B + 2) ((w3.setRow B C).setRow (B + 1) #[.int .i64 0, .int .i64 0]) S) := hide (by
            have h1 := ((hlie.setRow (g := B) (by have := (unhide H2).lt; omega) C).setRow (g := B + 1) (by have := (unhide H2).lt; omega) #[.int .i64 0, .int .i64 0])
            exact ⟨h1.here.tg, h1.here.va, h1.mono (by have := (unhide H2).lt; omega)⟩)
          clear hok her hr hE hC1 hC2 hb3 HQ2 HR hC hsv hk2 hk7 hcan hlie hPt hPv HTM HVM HB35 hsz35
          rw [unhide HSV]
          unfold fauV
          go_wp2_with (first
            | (refine wpList_store_row rfl 47 _ _ rfl B C rfl rfl 47 #[.string ⟨#[]⟩, .int .i64 0, .int .i64 0, .string ⟨#[]⟩, .int .i64 0, .string ⟨#[]⟩, .slice none 0 0, .int .i64 0, .string ⟨#[]⟩, .int .i64 0, .string ⟨#[]⟩, .slice none 0 0, .int .i64 0, .string ⟨#[]⟩, .int .i64 0, .string ⟨#[]⟩, .slice none 0 0, .string ⟨#[]⟩, .string ⟨#[]⟩, .slice none 0 0, .slice none 0 0, .string ⟨#[]⟩, .string ⟨#[]⟩, .string ⟨#[]⟩] (by with_reducible exact (unhide H3).s) (sySize_stm.trans (by rw [unhide HC1])) (by rw [unhide HC1]; rfl) (unhide HC2) ?_)
            | (refine wpList_store_row rfl 30 _ _ rfl (B + 1) #[.int .i64 0, .int .i64 0] rfl rfl 30 #[.int .i64 (le : Int), .int .i64 (la : Int)] (by with_reducible exact (unhide H4).f) sySize_fau rfl (by simp [Value.oneCell']) ?_)
            | fail)
          clear f0 f1 s2 s3 s4 s5 s6 s7 s8 s9 s10 s11
          generalize (w3.setRow B C).setRow (B + 1) #[.int .i64 0, .int .i64 0] = w5 at *
          clear H3 H4
          have HTC := hide (tooMuch_any S.tg w5 (unhide HT5).1)
          unfold pv at HTC
          cases hf : S.tg.fits
          · rw [hf] at HTC HQ3
            have HE : Hid (RR = .error (4, 0)) := hide ((unhide HQ3).trans (if_neg (fun q => absurd q.1 (by decide))))
            clear HQ3 hf
            refine (unhide HTC).mono ?_
            rintro e w6 ⟨rfl, hb6⟩
            have H6 := hide ((unhide H5).below hb6)
            have H7 := hide ((unhide H6).st #[.string ⟨#[]⟩, .int .i64 0, .int .i64 0, .string ⟨#[]⟩, .int .i64 0, .string ⟨#[]⟩, .slice none 0 0, .int .i64 0, .string ⟨#[]⟩, .int .i64 0, .string ⟨#[]⟩, .slice none 0 0, .int .i64 0, .string ⟨#[]⟩, .int .i64 0, .string ⟨#[]⟩, .slice none 0 0, .string ⟨#[]⟩, .string ⟨#[]⟩, .slice none 0 0, .slice none 0 0, .string ⟨#[]⟩, .string ⟨#[]⟩, .string ⟨#[]⟩])
            have H8 := hide ((unhide H7).fa #[.int .i64 4, .int .i64 0])
            clear hb6
            go_wp2_with (first
              | (refine wpList_store_row rfl 47 _ _ rfl B #[.string ⟨#[]⟩, .int .i64 0, .int .i64 0, .string ⟨#[]⟩, .int .i64 0, .string ⟨#[]⟩, .slice none 0 0, .int .i64 0, .string ⟨#[]⟩, .int .i64 0, .string ⟨#[]⟩, .slice none 0 0, .int .i64 0, .string ⟨#[]⟩, .int .i64 0, .string ⟨#[]⟩, .slice none 0 0, .string ⟨#[]⟩, .string ⟨#[]⟩, .slice none 0 0, .slice none 0 0, .string ⟨#[]⟩, .string ⟨#[]⟩, .string ⟨#[]⟩] rfl rfl 47 C (by with_reducible exact (unhide H6).s) sySize_stm (unhide HC1) (SV.cells_one zSV) ?_)
              | (refine wpList_store_row rfl 30 _ _ rfl (B + 1) #[.int .i64 4, .int .i64 0] rfl rfl 30 #[.int .i64 0, .int .i64 0] (by with_reducible exact (unhide H7).f) sySize_fau rfl (by simp [Value.oneCell']) ?_)
              | fail)
            exact bodyPost_ret (sres_three _ _ B (B + 1) #[.string ⟨#[]⟩, .int .i64 0, .int .i64 0, .string ⟨#[]⟩, .int .i64 0, .string ⟨#[]⟩, .slice none 0 0, .int .i64 0, .string ⟨#[]⟩, .int .i64 0, .string ⟨#[]⟩, .slice none 0 0, .int .i64 0, .string ⟨#[]⟩, .int .i64 0, .string ⟨#[]⟩, .slice none 0 0, .string ⟨#[]⟩, .string ⟨#[]⟩, .slice none 0 0, .slice none 0 0, .string ⟨#[]⟩, .string ⟨#[]⟩, .string ⟨#[]⟩] #[.int .i64 4, .int .i64 0] (.bool false) rfl rfl rfl (unhide H8).s (unhide H8).f rfl rfl) rfl (unhide HBAD 4 0 _ (unhide HE) (unhide H8).bel)
          · rw [hf] at HTC HQ3
            clear hf
            refine (unhide HTC).mono ?_
            rintro e w6 ⟨rfl, hb6⟩
            have H6 := hide ((unhide H5).below hb6)
            have HL6 := hide ((unhide HT5).2.2.below hb6)
            have HVC := hide (tooMuch_any S.va w6 (PT.In.later hb6 (unhide HT5).2.1))
            unfold pv at HVC
            have s7 := cells24 (unhide H6).s (unhide HK7).1
            have s8 := cells24 (unhide H6).s (unhide HK7).2.1
            have s9 := cells24 (unhide H6).s (unhide HK7).2.2.1
            have s10 := cells24 (unhide H6).s (unhide HK7).2.2.2.1
            have s11 := cells24 (unhide H6).s (unhide HK7).2.2.2.2
            clear hb6 HTC HT5
            go_wp2_with fail
            clear s7 s8 s9 s10 s11
            refine (unhide HVC).mono ?_
            rintro e w7 ⟨rfl, hb7⟩
            have H7 := hide ((unhide H6).below hb7)
            have HL7 := hide ((unhide HL6).below hb7)
            clear hb7 HVC HL6
            cases hf : S.va.fits
            · rw [hf] at HQ3
              have HE : Hid (RR = .error (4, 0)) := hide ((unhide HQ3).trans (if_neg (fun q => absurd q.2 (by decide))))
              clear HQ3 hf
              have H8 := hide ((unhide H7).st #[.string ⟨#[]⟩, .int .i64 0, .int .i64 0, .string ⟨#[]⟩, .int .i64 0, .string ⟨#[]⟩, .slice none 0 0, .int .i64 0, .string ⟨#[]⟩, .int .i64 0, .string ⟨#[]⟩, .slice none 0 0, .int .i64 0, .string ⟨#[]⟩, .int .i64 0, .string ⟨#[]⟩, .slice none 0 0, .string ⟨#[]⟩, .string ⟨#[]⟩, .slice none 0 0, .slice none 0 0, .string ⟨#[]⟩, .string ⟨#[]⟩, .string ⟨#[]⟩])
              have H9 := hide ((unhide H8).fa #[.int .i64 4, .int .i64 0])
              go_wp2_with (first
                | (refine wpList_store_row rfl 47 _ _ rfl B #[.string ⟨#[]⟩, .int .i64 0, .int .i64 0, .string ⟨#[]⟩, .int .i64 0, .string ⟨#[]⟩, .slice none 0 0, .int .i64 0, .string ⟨#[]⟩, .int .i64 0, .string ⟨#[]⟩, .slice none 0 0, .int .i64 0, .string ⟨#[]⟩, .int .i64 0, .string ⟨#[]⟩, .slice none 0 0, .string ⟨#[]⟩, .string ⟨#[]⟩, .slice none 0 0, .slice none 0 0, .string ⟨#[]⟩, .string ⟨#[]⟩, .string ⟨#[]⟩] rfl rfl 47 C (by with_reducible exact (unhide H7).s) sySize_stm (unhide HC1) (SV.cells_one zSV) ?_)
                | (refine wpList_store_row rfl 30 _ _ rfl (B + 1) #[.int .i64 4, .int .i64 0] rfl rfl 30 #[.int .i64 0, .int .i64 0] (by with_reducible exact (unhide H8).f) sySize_fau rfl (by simp [Value.oneCell']) ?_)
                | fail)
              exact bodyPost_ret (sres_three _ _ B (B + 1) #[.string ⟨#[]⟩, .int .i64 0, .int .i64 0, .string ⟨#[]⟩, .int .i64 0, .string ⟨#[]⟩, .slice none 0 0, .int .i64 0, .string ⟨#[]⟩, .int .i64 0, .string ⟨#[]⟩, .slice none 0 0, .int .i64 0, .string ⟨#[]⟩, .int .i64 0, .string ⟨#[]⟩, .slice none 0 0, .string ⟨#[]⟩, .string ⟨#[]⟩, .slice none 0 0, .slice none 0 0, .string ⟨#[]⟩, .string ⟨#[]⟩, .string ⟨#[]⟩] #[.int .i64 4, .int .i64 0] (.bool false) rfl rfl rfl (unhide H9).s (unhide H9).f rfl rfl) rfl (unhide HBAD 4 0 _ (unhide HE) (unhide H9).bel)
            · rw [hf] at HQ3
              have HE : Hid (RR = .ok (some P)) := hide ((unhide HQ3).trans (if_pos (by simp)))
              clear HQ3 hf
              have H8 := hide ((unhide H7).st C)
              have H9 := hide ((unhide H8).fa #[.int .i64 0, .int .i64 0])
              go_wp2_with (first
                | (refine wpList_load_row rfl 47 _ rfl B rfl 47 C (0, 0) _ (by with_reducible exact (unhide H7).s) Tryz.underlying47 rfl (sySize_stm.trans (by rw [unhide HC1])) ?_)
                | (refine wpList_store_row rfl 47 _ _ rfl B C rfl rfl 47 C (by with_reducible exact (unhide H7).s) (sySize_stm.trans (by rw [unhide HC1])) rfl (unhide HC2) ?_)
                | (refine wpList_store_row rfl 30 _ _ rfl (B + 1) #[.int .i64 0, .int .i64 0] rfl rfl 30 #[.int .i64 0, .int .i64 0] (by with_reducible exact (unhide H8).f) sySize_fau rfl (by simp [Value.oneCell']) ?_)
                | fail)
              exact bodyPost_ret (sres_three _ _ B (B + 1) C #[.int .i64 0, .int .i64 0] (.bool true) rfl rfl rfl (unhide H9).s (unhide H9).f (unhide HC1) rfl) rfl (unhide HPO _ _ ⟨(unhide H9).bel, fun er a h => (by rw [unhide HE] at h; cases h), fun h => (by rw [unhide HE] at h; cases h), fun P' h => (by
                rw [unhide HE] at h; injection h with h; injection h with h
                subst h
                exact ⟨S, by rw [unhide HSV]; rfl, unhide HCAN, (((unhide HL7).setRow (g := B) (by omega) C).setRow (g := B + 1) (by omega) _).mono (by omega)⟩)⟩)
      · have q0 : ((le : Int) != 0) = true := by simp; omega
        have HE : Hid (RR = .error ((le : Int), la)) := hide ((unhide HQ1).trans (if_pos (fun q => h0 (by omega))))
        clear h0 HQ1 HLN HTK HRA
        go_wp2_with (first
          | (refine wpList_store_row rfl 30 _ _ rfl (B + 1) #[.int .i64 (le : Int), .int .i64 (la : Int)] rfl rfl 30 #[.int .i64 0, .int .i64 0] (by with_reducible exact (unhide H1).f) sySize_fau rfl (by simp [Value.oneCell']) ?_)
          | fail)
        clear f0 f1 H1
        generalize w1.setRow (B + 1) #[.int .i64 (le : Int), .int .i64 (la : Int)] = w2 at *
        have h6 := (unhide H2).st #[.string ⟨#[]⟩, .int .i64 0, .int .i64 0, .string ⟨#[]⟩, .int .i64 0, .string ⟨#[]⟩, .slice none 0 0, .int .i64 0, .string ⟨#[]⟩, .int .i64 0, .string ⟨#[]⟩, .slice none 0 0, .int .i64 0, .string ⟨#[]⟩, .int .i64 0, .string ⟨#[]⟩, .slice none 0 0, .string ⟨#[]⟩, .string ⟨#[]⟩, .slice none 0 0, .slice none 0 0, .string ⟨#[]⟩, .string ⟨#[]⟩, .string ⟨#[]⟩]
        have hS0w : LnS w B w2.drew #[.string ⟨#[]⟩, .int .i64 0, .int .i64 0, .string ⟨#[]⟩, .int .i64 0, .string ⟨#[]⟩, .slice none 0 0, .int .i64 0, .string ⟨#[]⟩, .int .i64 0, .string ⟨#[]⟩, .slice none 0 0, .int .i64 0, .string ⟨#[]⟩, .int .i64 0, .string ⟨#[]⟩, .slice none 0 0, .string ⟨#[]⟩, .string ⟨#[]⟩, .slice none 0 0, .slice none 0 0, .string ⟨#[]⟩, .string ⟨#[]⟩, .string ⟨#[]⟩] #[.int .i64 (le : Int), .int .i64 (la : Int)] := ⟨(unhide H2).bel.drew, (unhide H2).s, (unhide H2).f⟩
        have h6d : LnS w B (w2.drew.setRow B #[.string ⟨#[]⟩, .int .i64 0, .int .i64 0, .string ⟨#[]⟩, .int .i64 0, .string ⟨#[]⟩, .slice none 0 0, .int .i64 0, .string ⟨#[]⟩, .int .i64 0, .string ⟨#[]⟩, .slice none 0 0, .int .i64 0, .string ⟨#[]⟩, .int .i64 0, .string ⟨#[]⟩, .slice none 0 0, .string ⟨#[]⟩, .string ⟨#[]⟩, .slice none 0 0, .slice none 0 0, .string ⟨#[]⟩, .string ⟨#[]⟩, .string ⟨#[]⟩]) #[.string ⟨#[]⟩, .int .i64 0, .int .i64 0, .string ⟨#[]⟩, .int .i64 0, .string ⟨#[]⟩, .slice none 0 0, .int .i64 0, .string ⟨#[]⟩, .int .i64 0, .string ⟨#[]⟩, .slice none 0 0, .int .i64 0, .string ⟨#[]⟩, .int .i64 0, .string ⟨#[]⟩, .slice none 0 0, .string ⟨#[]⟩, .string ⟨#[]⟩, .slice none 0 0, .slice none 0 0, .string ⟨#[]⟩, .string ⟨#[]⟩, .string ⟨#[]⟩] #[.int .i64 (le : Int), .int .i64 (la : Int)] := hS0w.st #[.string ⟨#[]⟩, .int .i64 0, .int .i64 0, .string ⟨#[]⟩, .int .i64 0, .string ⟨#[]⟩, .slice none 0 0, .int .i64 0, .string ⟨#[]⟩, .int .i64 0, .string ⟨#[]⟩, .slice none 0 0, .int .i64 0, .string ⟨#[]⟩, .int .i64 0, .string ⟨#[]⟩, .slice none 0 0, .string ⟨#[]⟩, .string ⟨#[]⟩, .slice none 0 0, .slice none 0 0, .string ⟨#[]⟩, .string ⟨#[]⟩, .string ⟨#[]⟩]
        have H7 := hide (h6d.fa #[.int .i64 (le : Int), .int .i64 (la : Int)])
        obtain ⟨S0, hS0⟩ : ∃ S0 : World → Prop, S0 = fun W => W.cell? ⟨B + 1, 0, none⟩ = some (.int .i64 (le : Int)) ∧ W.cell? ⟨B + 1, 1, none⟩ = some (.int .i64 (la : Int)) := ⟨_, rfl⟩
        have HS0 := hide hS0
        have HKE : Hid (∀ W D, LnS w B W D #[.int .i64 (le : Int), .int .i64 (la : Int)] → S0 W) := hide (fun W D h => by rw [hS0]; exact fault2 h.f)
        clear hS0
        have hS1 := unhide HKE _ _ hS0w
        refine startQ 4 S0 ?_
        intro F
        refine takeR F 0 HS0 hS1 ?_
        (try simp only [List.getElem_toArray, List.getElem_cons_zero])
        (try go_frame)
        refine takeR F 1 HS0 hS1 ?_
        (try simp only [List.getElem_toArray, List.getElem_cons_succ, List.getElem_cons_zero])
        (try go_frame)
        refine stepQ 2 (fun K2 hK2 => ?_)
        refine wp_store_any rfl 47 _ _ rfl B #[.string ⟨#[]⟩, .int .i64 0, .int .i64 0, .string ⟨#[]⟩, .int .i64 0, .string ⟨#[]⟩, .slice none 0 0, .int .i64 0, .string ⟨#[]⟩, .int .i64 0, .string ⟨#[]⟩, .slice none 0 0, .int .i64 0, .string ⟨#[]⟩, .int .i64 0, .string ⟨#[]⟩, .slice none 0 0, .string ⟨#[]⟩, .string ⟨#[]⟩, .slice none 0 0, .slice none 0 0, .string ⟨#[]⟩, .string ⟨#[]⟩, .string ⟨#[]⟩] rfl rfl 47 #[.string ⟨#[]⟩, .int .i64 0, .int .i64 0, .string ⟨#[]⟩, .int .i64 0, .string ⟨#[]⟩, .slice none 0 0, .int .i64 0, .string ⟨#[]⟩, .int .i64 0, .string ⟨#[]⟩, .slice none 0 0, .int .i64 0, .string ⟨#[]⟩, .int .i64 0, .string ⟨#[]⟩, .slice none 0 0, .string ⟨#[]⟩, .string ⟨#[]⟩, .slice none 0 0, .slice none 0 0, .string ⟨#[]⟩, .string ⟨#[]⟩, .string ⟨#[]⟩] hS0w.s sySize_stm (rfl) (SV.cells_one zSV) ?_
        have hS2 := unhide HKE _ _ h6d
        refine hK2 _ _ hS2 ?_
        (try simp only [List.getElem_toArray, List.getElem_cons_succ, List.getElem_cons_zero])
        (try go_frame)
        refine takeR F 3 HS0 hS2 ?_
        (try simp only [List.getElem_toArray, List.getElem_cons_succ, List.getElem_cons_zero])
        (try go_frame)
        refine lastE (by kernel_rfl) rfl (by kernel_rfl) (fun K4 hK4 => ?_)
        refine wp_store_any rfl 30 _ _ rfl (B + 1) #[.int .i64 (le : Int), .int .i64 (la : Int)] rfl rfl 30 #[.int .i64 (le : Int), .int .i64 (la : Int)] h6d.f sySize_fau rfl (by simp [Value.oneCell']) ?_
        refine hK4 _ _ ?_
        (try simp only [List.getElem_toArray, List.getElem_cons_succ, List.getElem_cons_zero])
        (try go_frame)
        clear hK4 hK2 K4 K2 F hS2 hS1 h6d hS0w h6 HKE HS0
        go_wp2_with fail
        exact bodyPost_ret (sres_three _ _ B (B + 1) #[.string ⟨#[]⟩, .int .i64 0, .int .i64 0, .string ⟨#[]⟩, .int .i64 0, .string ⟨#[]⟩, .slice none 0 0, .int .i64 0, .string ⟨#[]⟩, .int .i64 0, .string ⟨#[]⟩, .slice none 0 0, .int .i64 0, .string ⟨#[]⟩, .int .i64 0, .string ⟨#[]⟩, .slice none 0 0, .string ⟨#[]⟩, .string ⟨#[]⟩, .slice none 0 0, .slice none 0 0, .string ⟨#[]⟩, .string ⟨#[]⟩, .string ⟨#[]⟩] #[.int .i64 (le : Int), .int .i64 (la : Int)] (.bool false) rfl rfl rfl (unhide H7).s (unhide H7).f rfl rfl) rfl (unhide HBAD (le : Int) la _ (unhide HE) (unhide H7).bel)
  · have HQ1 := hide ((unhide HQ).trans (if_neg (fun q => hb q.1)))
    rw [decide_eq_false hb]
    clear hb HQ
    go_wp2_with fail
    refine (unhide HLX w0 (unhide H0).bel).mono ?_
    rintro e w1 ⟨v, rfl, hrow, hb1⟩
    have H1 := hide ((unhide H0).below hb1)
    have HTK := hide (unhide HPT w0 w1 v hrow (by have := (unhide H1).lt; omega))
    have H2 := hide ((unhide H1).fa (fau le la))
    have HLT := hide (unhide H0).lt
    clear hb1 hrow HLX HPT
    unfold fau at H2
    unfold fau
    obtain ⟨f0, f1⟩ := fault2 (unhide H2).f
    by_cases h0 : le = 0
    · have q0 : ((le : Int) != 0) = false := by simp; omega
      have HQ2 := hide ((unhide HQ1).trans (if_neg (fun q => q h0)))
      have HL2 := hide (unhide HLN h0)
      clear h0 HQ1 HLN
      go_wp2_with (first
        | (refine wpList_store_row rfl 30 _ _ rfl (B + 1) #[.int .i64 (le : Int), .int .i64 (la : Int)] rfl rfl 30 #[.int .i64 0, .int .i64 0] (by with_reducible exact (unhide H1).f) sySize_fau rfl (by simp [Value.oneCell']) ?_)
        | fail)
      obtain ⟨g, hTK, hlow⟩ := unhide HTK
      have HR := hide (unhide HRA _ v g (unhide HL2) (unhide H2).bel (hTK.set (hlow.imp id fun q => by have := unhide HLT; omega) #[.int .i64 (le : Int), .int .i64 (la : Int)]))
      clear f0 f1 hTK hlow HTK H1 HRA
      generalize w1.setRow (B + 1) #[.int .i64 (le : Int), .int .i64 (la : Int)] = w2 at *
      refine (unhide HR).mono ?_
      rintro e w3 ⟨hb3, hok, her⟩
      have H3 := hide ((unhide H2).below hb3)
      cases hr : raS s ll with
      | error x =>
        obtain ⟨er, i⟩ := x
        obtain ⟨C, rfl, hC1, hC2⟩ := her er i hr
        have hnz := raS_nz s ll er i hr
        have hE := unhide HQ2
        rw [hr] at hE
        have HE : Hid (RR = .error (er, i)) := hide (hE)
        have q1 : (er != 0) = true := by simp; exact hnz
        have H4 := hide ((unhide H3).st C)
        have H5 := hide ((unhide H4).fa #[.int .i64 er, .int .i64 (i : Int)])
        have HC1 := hide hC1
        have HC2 := hide hC2
        obtain ⟨f0, f1⟩ := fault2 (unhide H5).f
        clear hok her hr hE hC1 hC2 hb3 HQ2 HR hnz
        unfold fauV
        go_wp2_with (first
          | (refine wpList_store_row rfl 47 _ _ rfl B C rfl rfl 47 #[.string ⟨#[]⟩, .int .i64 0, .int .i64 0, .string ⟨#[]⟩, .int .i64 0, .string ⟨#[]⟩, .slice none 0 0, .int .i64 0, .string ⟨#[]⟩, .int .i64 0, .string ⟨#[]⟩, .slice none 0 0, .int .i64 0, .string ⟨#[]⟩, .int .i64 0, .string ⟨#[]⟩, .slice none 0 0, .string ⟨#[]⟩, .string ⟨#[]⟩, .slice none 0 0, .slice none 0 0, .string ⟨#[]⟩, .string ⟨#[]⟩, .string ⟨#[]⟩] (by with_reducible exact (unhide H3).s) (sySize_stm.trans (by rw [unhide HC1])) (by rw [unhide HC1]; rfl) (unhide HC2) ?_)
          | (refine wpList_store_row rfl 30 _ _ rfl (B + 1) #[.int .i64 er, .int .i64 (i : Int)] rfl rfl 30 #[.int .i64 (le : Int), .int .i64 (la : Int)] (by with_reducible exact (unhide H4).f) sySize_fau rfl (by simp [Value.oneCell']) ?_)
          | fail)
        generalize (w3.setRow B C).setRow (B + 1) #[.int .i64 er, .int .i64 (i : Int)] = w5 at *
        clear f0 f1
        have h6 := (unhide H5).st #[.string ⟨#[]⟩, .int .i64 0, .int .i64 0, .string ⟨#[]⟩, .int .i64 0, .string ⟨#[]⟩, .slice none 0 0, .int .i64 0, .string ⟨#[]⟩, .int .i64 0, .string ⟨#[]⟩, .slice none 0 0, .int .i64 0, .string ⟨#[]⟩, .int .i64 0, .string ⟨#[]⟩, .slice none 0 0, .string ⟨#[]⟩, .string ⟨#[]⟩, .slice none 0 0, .slice none 0 0, .string ⟨#[]⟩, .string ⟨#[]⟩, .string ⟨#[]⟩]
        have hS0w : LnS w B w5.drew C #[.int .i64 er, .int .i64 (i : Int)] := ⟨(unhide H5).bel.drew, (unhide H5).s, (unhide H5).f⟩
        have h6d : LnS w B (w5.drew.setRow B #[.string ⟨#[]⟩, .int .i64 0, .int .i64 0, .string ⟨#[]⟩, .int .i64 0, .string ⟨#[]⟩, .slice none 0 0, .int .i64 0, .string ⟨#[]⟩, .int .i64 0, .string ⟨#[]⟩, .slice none 0 0, .int .i64 0, .string ⟨#[]⟩, .int .i64 0, .string ⟨#[]⟩, .slice none 0 0, .string ⟨#[]⟩, .string ⟨#[]⟩, .slice none 0 0, .slice none 0 0, .string ⟨#[]⟩, .string ⟨#[]⟩, .string ⟨#[]⟩]) #[.string ⟨#[]⟩, .int .i64 0, .int .i64 0, .string ⟨#[]⟩, .int .i64 0, .string ⟨#[]⟩, .slice none 0 0, .int .i64 0, .string ⟨#[]⟩, .int .i64 0, .string ⟨#[]⟩, .slice none 0 0, .int .i64 0, .string ⟨#[]⟩, .int .i64 0, .string ⟨#[]⟩, .slice none 0 0, .string ⟨#[]⟩, .string ⟨#[]⟩, .slice none 0 0, .slice none 0 0, .string ⟨#[]⟩, .string ⟨#[]⟩, .string ⟨#[]⟩] #[.int .i64 er, .int .i64 (i : Int)] := hS0w.st #[.string ⟨#[]⟩, .int .i64 0, .int .i64 0, .string ⟨#[]⟩, .int .i64 0, .string ⟨#[]⟩, .slice none 0 0, .int .i64 0, .string ⟨#[]⟩, .int .i64 0, .string ⟨#[]⟩, .slice none 0 0, .int .i64 0, .string ⟨#[]⟩, .int .i64 0, .string ⟨#[]⟩, .slice none 0 0, .string ⟨#[]⟩, .string ⟨#[]⟩, .slice none 0 0, .slice none 0 0, .string ⟨#[]⟩, .string ⟨#[]⟩, .string ⟨#[]⟩]
        have H7 := hide (h6d.fa #[.int .i64 er, .int .i64 (i : Int)])
        obtain ⟨S0, hS0⟩ : ∃ S0 : World → Prop, S0 = fun W => W.cell? ⟨B + 1, 0, none⟩ = some (.int .i64 er) ∧ W.cell? ⟨B + 1, 1, none⟩ = some (.int .i64 (i : Int)) := ⟨_, rfl⟩
        have HS0 := hide hS0
        have HKE : Hid (∀ W D, LnS w B W D #[.int .i64 er, .int .i64 (i : Int)] → S0 W) := hide (fun W D h => by rw [hS0]; exact fault2 h.f)
        clear hS0
        have hS1 := unhide HKE _ _ hS0w
        refine startQ 4 S0 ?_
        intro F
        refine takeR F 0 HS0 hS1 ?_
        (try simp only [List.getElem_toArray, List.getElem_cons_zero])
        (try go_frame)
        refine takeR F 1 HS0 hS1 ?_
        (try simp only [List.getElem_toArray, List.getElem_cons_succ, List.getElem_cons_zero])
        (try go_frame)
        refine stepQ 2 (fun K2 hK2 => ?_)
        refine wp_store_any rfl 47 _ _ rfl B #[.string ⟨#[]⟩, .int .i64 0, .int .i64 0, .string ⟨#[]⟩, .int .i64 0, .string ⟨#[]⟩, .slice none 0 0, .int .i64 0, .string ⟨#[]⟩, .int .i64 0, .string ⟨#[]⟩, .slice none 0 0, .int .i64 0, .string ⟨#[]⟩, .int .i64 0, .string ⟨#[]⟩, .slice none 0 0, .string ⟨#[]⟩, .string ⟨#[]⟩, .slice none 0 0, .slice none 0 0, .string ⟨#[]⟩, .string ⟨#[]⟩, .string ⟨#[]⟩] rfl rfl 47 C hS0w.s sySize_stm (unhide HC1) (SV.cells_one zSV) ?_
        have hS2 := unhide HKE _ _ h6d
        refine hK2 _ _ hS2 ?_
        (try simp only [List.getElem_toArray, List.getElem_cons_succ, List.getElem_cons_zero])
        (try go_frame)
        refine takeR F 3 HS0 hS2 ?_
        (try simp only [List.getElem_toArray, List.getElem_cons_succ, List.getElem_cons_zero])
        (try go_frame)
        refine lastE (by kernel_rfl) rfl (by kernel_rfl) (fun K4 hK4 => ?_)
        refine wp_store_any rfl 30 _ _ rfl (B + 1) #[.int .i64 er, .int .i64 (i : Int)] rfl rfl 30 #[.int .i64 er, .int .i64 (i : Int)] h6d.f sySize_fau rfl (by simp [Value.oneCell']) ?_
        refine hK4 _ _ ?_
        (try simp only [List.getElem_toArray, List.getElem_cons_succ, List.getElem_cons_zero])
        (try go_frame)
        clear hK4 hK2 K4 K2 F hS2 hS1 h6d hS0w h6 HKE HS0
        go_wp2_with fail
        exact bodyPost_ret (sres_three _ _ B (B + 1) #[.string ⟨#[]⟩, .int .i64 0, .int .i64 0, .string ⟨#[]⟩, .int .i64 0, .string ⟨#[]⟩, .slice none 0 0, .int .i64 0, .string ⟨#[]⟩, .int .i64 0, .string ⟨#[]⟩, .slice none 0 0, .int .i64 0, .string ⟨#[]⟩, .int .i64 0, .string ⟨#[]⟩, .slice none 0 0, .string ⟨#[]⟩, .string ⟨#[]⟩, .slice none 0 0, .slice none 0 0, .string ⟨#[]⟩, .string ⟨#[]⟩, .string ⟨#[]⟩] #[.int .i64 er, .int .i64 (i : Int)] (.bool false) rfl rfl rfl (unhide H7).s (unhide H7).f rfl rfl) rfl (unhide HBAD er i _ (unhide HE) (unhide H7).bel)
      | ok x =>
        obtain ⟨P, m⟩ := x
        obtain ⟨S, rfl, hcan, hlie⟩ := hok P m hr
        have hE := unhide HQ2
        rw [hr] at hE
        have HQ3 : Hid (RR = if P.tg.fits = true ∧ P.va.fits = true then .ok (some P) else .error (4, 0)) := hide (hE)
        have hPt : P.tg.fits = S.tg.fits := by rw [← hcan]; exact can_fits S.tg
        have hPv : P.va.fits = S.va.fits := by rw [← hcan]; exact can_fits S.va
        rw [hPt, hPv] at HQ3
        have HTM := hide (fun W (hb : Below w3.heap.size w3 W) => tooMuch_any S.tg W (PT.In.later hb hlie.here.tg))
        have HVM := hide (fun W (hb : Below w3.heap.size w3 W) => tooMuch_any S.va W (PT.In.later hb hlie.here.va))
        have HLIE := hide hlie
        have HCAN := hide hcan
        obtain ⟨C, hC⟩ : ∃ C, C = S.cells := ⟨_, rfl⟩
        have hsv : S.v = .agg C := by rw [hC]; rfl
        have HSV := hide hsv
        have hC1 : C.size = 24 := by rw [hC]; rfl
        have hC2 : C.all (·.oneCell') = true := by rw [hC]; exact SV.cells_one S
        have hk2 : C[2]? = some (.int .i64 S.tg.k) ∧ C[3]? = some (.string S.tg.t) ∧ C[4]? = some (.int .i64 S.tg.n) ∧ C[5]? = some (.string S.tg.nm) ∧ C[6]? = some (.slice S.tg.xa S.tg.len S.tg.cap) := by rw [hC]; exact ⟨rfl, rfl, rfl, rfl, rfl⟩
        have hk7 : C[7]? = some (.int .i64 S.va.k) ∧ C[8]? = some (.string S.va.t) ∧ C[9]? = some (.int .i64 S.va.n) ∧ C[10]? = some (.string S.va.nm) ∧ C[11]? = some (.slice S.va.xa S.va.len S.va.cap) := by rw [hC]; exact ⟨rfl, rfl, rfl, rfl, rfl⟩
        have HC1 := hide hC1
        have HC2 := hide hC2
        have HK7 := hide hk7
        have H4 := hide ((unhide H3).st C)
        have H5 := hide ((unhide H4).fa #[.int .i64 0, .int .i64 0])
        obtain ⟨f0, f1⟩ := fault2 (unhide H5).f
        have s2 := cells24 (unhide H5).s hk2.1
        have s3 := cells24 (unhide H5).s hk2.2.1
        have s4 := cells24 (unhide H5).s hk2.2.2.1
        have s5 := cells24 (unhide H5).s hk2.2.2.2.1
        have s6 := cells24 (unhide H5).s hk2.2.2.2.2
        have s7 := cells24 (unhide H5).s hk7.1
        have s8 := cells24 (unhide H5).s hk7.2.1
        have s9 := cells24 (unhide H5).s hk7.2.2.1
        have s10 := cells24 (unhide H5).s hk7.2.2.2.1
        have s11 := cells24 (unhide H5).s hk7.2.2.2.2
        have HB35 : Hid (∀ W, LnS w B W C #[.int .i64 0, .int .i64 0] → True) := hide (fun _ _ => trivial)
        have hsz35 : w3.heap.size = ((w3.setRow B C).setRow (B + 1) #[.int .i64 0, .int .i64 0]).heap.size := by simp
        have HT5 : Hid (S.tg.In ((w3.setRow B C).setRow (B + 1) #[.int .i64 0, .int .i64 0]) ∧ S.va.In ((w3.setRow B C).setRow (B + 1) #[.int .i64 0, .int .i64 0]) ∧ SLies (B + 2) ((w3.setRow B C).setRow (B + 1) #[.int .i64 0, .int .i64 0]) S) := hide (by
          have h1 := ((hlie.setRow (g := B) (by have := (unhide H2).lt; omega) C).setRow (g := B + 1) (by have := (unhide H2).lt; omega) #[.int .i64 0, .int .i64 0])
          exact ⟨h1.here.tg, h1.here.va, h1.mono (by have := (unhide H2).lt; omega)⟩)
        clear hok her hr hE hC1 hC2 hb3 HQ2 HR hC hsv hk2 hk7 hcan hlie hPt hPv HTM HVM HB35 hsz35
        rw [unhide HSV]
        unfold fauV
        go_wp2_with (first
          | (refine wpList_store_row rfl 47 _ _ rfl B C rfl rfl 47 #[.string ⟨#[]⟩, .int .i64 0, .int .i64 0, .string ⟨#[]⟩, .int .i64 0, .string ⟨#[]⟩, .slice none 0 0, .int .i64 0, .string ⟨#[]⟩, .int .i64 0, .string ⟨#[]⟩, .slice none 0 0, .int .i64 0, .string ⟨#[]⟩, .int .i64 0, .string ⟨#[]⟩, .slice none 0 0, .string ⟨#[]⟩, .string ⟨#[]⟩, .slice none 0 0, .slice none 0 0, .string ⟨#[]⟩, .string ⟨#[]⟩, .string ⟨#[]⟩] (by with_reducible exact (unhide H3).s) (sySize_stm.trans (by rw [unhide HC1])) (by rw [unhide HC1]; rfl) (unhide HC2) ?_)
          | (refine wpList_store_row rfl 30 _ _ rfl (B + 1) #[.int .i64 0, .int .i64 0] rfl rfl 30 #[.int .i64 (le : Int), .int .i64 (la : Int)] (by with_reducible exact (unhide H4).f) sySize_fau rfl (by simp [Value.oneCell']) ?_)
          | fail)
        clear f0 f1 s2 s3 s4 s5 s6 s7 s8 s9 s10 s11
        generalize (w3.setRow B C).setRow (B + 1) #[.int .i64 0, .int .i64 0] = w5 at *
        clear H3 H4
        have HTC := hide (tooMuch_any S.tg w5 (unhide HT5).1)
        unfold pv at HTC
        cases hf : S.tg.fits
        · rw [hf] at HTC HQ3
          have HE : Hid (RR = .error (4, 0)) := hide ((unhide HQ3).trans (if_neg (fun q => absurd q.1 (by decide))))
          clear HQ3 hf
          refine (unhide HTC).mono ?_
          rintro e w6 ⟨rfl, hb6⟩
          have H6 := hide ((unhide H5).below hb6)
          have H7 := hide ((unhide H6).st #[.string ⟨#[]⟩, .int .i64 0, .int .i64 0, .string ⟨#[]⟩, .int .i64 0, .string ⟨#[]⟩, .slice none 0 0, .int .i64 0, .string ⟨#[]⟩, .int .i64 0, .string ⟨#[]⟩, .slice none 0 0, .int .i64 0, .string ⟨#[]⟩, .int .i64 0, .string ⟨#[]⟩, .slice none 0 0, .string ⟨#[]⟩, .string ⟨#[]⟩, .slice none 0 0, .slice none 0 0, .string ⟨#[]⟩, .string ⟨#[]⟩, .string ⟨#[]⟩])
          have H8 := hide ((unhide H7).fa #[.int .i64 4, .int .i64 0])
          clear hb6
          go_wp2_with (first
            | (refine wpList_store_row rfl 47 _ _ rfl B #[.string ⟨#[]⟩, .int .i64 0, .int .i64 0, .string ⟨#[]⟩, .int .i64 0, .string ⟨#[]⟩, .slice none 0 0, .int .i64 0, .string ⟨#[]⟩, .int .i64 0, .string ⟨#[]⟩, .slice none 0 0, .int .i64 0, .string ⟨#[]⟩, .int .i64 0, .string ⟨#[]⟩, .slice none 0 0, .string ⟨#[]⟩, .string ⟨#[]⟩, .slice none 0 0, .slice none 0 0, .string ⟨#[]⟩, .string ⟨#[]⟩, .string ⟨#[]⟩] rfl rfl 47 C (by with_reducible exact (unhide H6).s) sySize_stm (unhide HC1) (SV.cells_one zSV) ?_)
            | (refine wpList_store_row rfl 30 _ _ rfl (B + 1) #[.int .i64 4, .int .i64 0] rfl rfl 30 #[.int .i64 0, .int .i64 0] (by with_reducible exact (unhide H7).f) sySize_fau rfl (by simp [Value.oneCell']) ?_)
            | fail)
          exact bodyPost_ret (sres_three _ _ B (B + 1) #[.string ⟨#[]⟩, .int .i64 0, .int .i64 0, .string ⟨#[]⟩, .int .i64 0, .string ⟨#[]⟩, .slice none 0 0, .int .i64 0, .string ⟨#[]⟩, .int .i64 0, .string ⟨#[]⟩, .slice none 0 0, .int .i64 0, .string ⟨#[]⟩, .int .i64 0, .string ⟨#[]⟩, .slice none 0 0, .string ⟨#[]⟩, .string ⟨#[]⟩, .slice none 0 0, .slice none 0 0, .string ⟨#[]⟩, .string ⟨#[]⟩, .string ⟨#[]⟩] #[.int .i64 4, .int .i64 0] (.bool false) rfl rfl rfl (unhide H8).s (unhide H8).f rfl rfl) rfl (unhide HBAD 4 0 _ (unhide HE) (unhide H8).bel)
        · rw [hf] at HTC HQ3
          clear hf
          refine (unhide HTC).mono ?_
          rintro e w6 ⟨rfl, hb6⟩
          have H6 := hide ((unhide H5).below hb6)
          have HL6 := hide ((unhide HT5).2.2.below hb6)
          have HVC := hide (tooMuch_any S.va w6 (PT.In.later hb6 (unhide HT5).2.1))
          unfold pv at HVC
          have s7 := cells24 (unhide H6).s (unhide HK7).1
          have s8 := cells24 (unhide H6).s (unhide HK7).2.1
          have s9 := cells24 (unhide H6).s (unhide HK7).2.2.1
          have s10 := cells24 (unhide H6).s (unhide HK7).2.2.2.1
          have s11 := cells24 (unhide H6).s (unhide HK7).2.2.2.2
          clear hb6 HTC HT5
          go_wp2_with fail
          clear s7 s8 s9 s10 s11
          refine (unhide HVC).mono ?_
          rintro e w7 ⟨rfl, hb7⟩
          have H7 := hide ((unhide H6).below hb7)
          have HL7 := hide ((unhide HL6).below hb7)
          clear hb7 HVC HL6
          cases hf : S.va.fits
          · rw [hf] at HQ3
            have HE : Hid (RR = .error (4, 0)) := hide ((unhide HQ3).trans (if_neg (fun q => absurd q.2 (by decide))))
            clear HQ3 hf
            have H8 := hide ((unhide H7).st #[.string ⟨#[]⟩, .int .i64 0, .int .i64 0, .string ⟨#[]⟩, .int .i64 0, .string ⟨#[]⟩, .slice none 0 0, .int .i64 0, .string ⟨#[]⟩, .int .i64 0, .string ⟨#[]⟩, .slice none 0 0, .int .i64 0, .string ⟨#[]⟩, .int .i64 0, .string ⟨#[]⟩, .slice none 0 0, .string ⟨#[]⟩, .string ⟨#[]⟩, .slice none 0 0, .slice none 0 0, .string ⟨#[]⟩, .string ⟨#[]⟩, .string ⟨#[]⟩])
            have H9 := hide ((unhide H8).fa #[.int .i64 4, .int .i64 0])
            go_wp2_with (first
              | (refine wpList_store_row rfl 47 _ _ rfl B #[.string ⟨#[]⟩, .int .i64 0, .int .i64 0, .string ⟨#[]⟩, .int .i64 0, .string ⟨#[]⟩, .slice none 0 0, .int .i64 0, .string ⟨#[]⟩, .int .i64 0, .string ⟨#[]⟩, .slice none 0 0, .int .i64 0, .string ⟨#[]⟩, .int .i64 0, .string ⟨#[]⟩, .slice none 0 0, .string ⟨#[]⟩, .string ⟨#[]⟩, .slice none 0 0, .slice none 0 0, .string ⟨#[]⟩, .string ⟨#[]⟩, .string ⟨#[]⟩] rfl rfl 47 C (by with_reducible exact (unhide H7).s) sySize_stm (unhide HC1) (SV.cells_one zSV) ?_)
              | (refine wpList_store_row rfl 30 _ _ rfl (B + 1) #[.int .i64 4, .int .i64 0] rfl rfl 30 #[.int .i64 0, .int .i64 0] (by with_reducible exact (unhide H8).f) sySize_fau rfl (by simp [Value.oneCell']) ?_)
              | fail)
            exact bodyPost_ret (sres_three _ _ B (B + 1) #[.string ⟨#[]⟩, .int .i64 0, .int .i64 0, .string ⟨#[]⟩, .int .i64 0, .string ⟨#[]⟩, .slice none 0 0, .int .i64 0, .string ⟨#[]⟩, .int .i64 0, .string ⟨#[]⟩, .slice none 0 0, .int .i64 0, .string ⟨#[]⟩, .int .i64 0, .string ⟨#[]⟩, .slice none 0 0, .string ⟨#[]⟩, .string ⟨#[]⟩, .slice none 0 0, .slice none 0 0, .string ⟨#[]⟩, .string ⟨#[]⟩, .string ⟨#[]⟩] #[.int .i64 4, .int .i64 0] (.bool false) rfl rfl rfl (unhide H9).s (unhide H9).f rfl rfl) rfl (unhide HBAD 4 0 _ (unhide HE) (unhide H9).bel)
          · rw [hf] at HQ3
            have HE : Hid (RR = .ok (some P)) := hide ((unhide HQ3).trans (if_pos (by simp)))
            clear HQ3 hf
            have H8 := hide ((unhide H7).st C)
            have H9 := hide ((unhide H8).fa #[.int .i64 0, .int .i64 0])
            go_wp2_with (first
              | (refine wpList_load_row rfl 47 _ rfl B rfl 47 C (0, 0) _ (by with_reducible exact (unhide H7).s) Tryz.underlying47 rfl (sySize_stm.trans (by rw [unhide HC1])) ?_)
              | (refine wpList_store_row rfl 47 _ _ rfl B C rfl rfl 47 C (by with_reducible exact (unhide H7).s) (sySize_stm.trans (by rw [unhide HC1])) rfl (unhide HC2) ?_)
              | (refine wpList_store_row rfl 30 _ _ rfl (B + 1) #[.int .i64 0, .int .i64 0] rfl rfl 30 #[.int .i64 0, .int .i64 0] (by with_reducible exact (unhide H8).f) sySize_fau rfl (by simp [Value.oneCell']) ?_)
              | fail)
            exact bodyPost_ret (sres_three _ _ B (B + 1) C #[.int .i64 0, .int .i64 0] (.bool true) rfl rfl rfl (unhide H9).s (unhide H9).f (unhide HC1) rfl) rfl (unhide HPO _ _ ⟨(unhide H9).bel, fun er a h => (by rw [unhide HE] at h; cases h), fun h => (by rw [unhide HE] at h; cases h), fun P' h => (by
              rw [unhide HE] at h; injection h with h; injection h with h
              subst h
              exact ⟨S, by rw [unhide HSV]; rfl, unhide HCAN, (((unhide HL7).setRow (g := B) (by omega) C).setRow (g := B + 1) (by omega) _).mono (by omega)⟩)⟩)
    · have q0 : ((le : Int) != 0) = true := by simp; omega
      have HE : Hid (RR = .error ((le : Int), la)) := hide ((unhide HQ1).trans (if_pos (fun q => h0 (by omega))))
      clear h0 HQ1 HLN HTK HRA
      go_wp2_with (first
        | (refine wpList_store_row rfl 30 _ _ rfl (B + 1) #[.int .i64 (le : Int), .int .i64 (la : Int)] rfl rfl 30 #[.int .i64 0, .int .i64 0] (by with_reducible exact (unhide H1).f) sySize_fau rfl (by simp [Value.oneCell']) ?_)
        | fail)
      clear f0 f1 H1
      generalize w1.setRow (B + 1) #[.int .i64 (le : Int), .int .i64 (la : Int)] = w2 at *
      have h6 := (unhide H2).st #[.string ⟨#[]⟩, .int .i64 0, .int .i64 0, .string ⟨#[]⟩, .int .i64 0, .string ⟨#[]⟩, .slice none 0 0, .int .i64 0, .string ⟨#[]⟩, .int .i64 0, .string ⟨#[]⟩, .slice none 0 0, .int .i64 0, .string ⟨#[]⟩, .int .i64 0, .string ⟨#[]⟩, .slice none 0 0, .string ⟨#[]⟩, .string ⟨#[]⟩, .slice none 0 0, .slice none 0 0, .string ⟨#[]⟩, .string ⟨#[]⟩, .string ⟨#[]⟩]
      have hS0w : LnS w B w2.drew #[.string ⟨#[]⟩, .int .i64 0, .int .i64 0, .string ⟨#[]⟩, .int .i64 0, .string ⟨#[]⟩, .slice none 0 0, .int .i64 0, .string ⟨#[]⟩, .int .i64 0, .string ⟨#[]⟩, .slice none 0 0, .int .i64 0, .string ⟨#[]⟩, .int .i64 0, .string ⟨#[]⟩, .slice none 0 0, .string ⟨#[]⟩, .string ⟨#[]⟩, .slice none 0 0, .slice none 0 0, .string ⟨#[]⟩, .string ⟨#[]⟩, .string ⟨#[]⟩] #[.int .i64 (le : Int), .int .i64 (la : Int)] := ⟨(unhide H2).bel.drew, (unhide H2).s, (unhide H2).f⟩
      have h6d : LnS w B (w2.drew.setRow B #[.string ⟨#[]⟩, .int .i64 0, .int .i64 0, .string ⟨#[]⟩, .int .i64 0, .string ⟨#[]⟩, .slice none 0 0, .int .i64 0, .string ⟨#[]⟩, .int .i64 0, .string ⟨#[]⟩, .slice none 0 0, .int .i64 0, .string ⟨#[]⟩, .int .i64 0, .string ⟨#[]⟩, .slice none 0 0, .string ⟨#[]⟩, .string ⟨#[]⟩, .slice none 0 0, .slice none 0 0, .string ⟨#[]⟩, .string ⟨#[]⟩, .string ⟨#[]⟩]) #[.string ⟨#[]⟩, .int .i64 0, .int .i64 0, .string ⟨#[]⟩, .int .i64 0, .string ⟨#[]⟩, .slice none 0 0, .int .i64 0, .string ⟨#[]⟩, .int .i64 0, .string ⟨#[]⟩, .slice none 0 0, .int .i64 0, .string ⟨#[]⟩, .int .i64 0, .string ⟨#[]⟩, .slice none 0 0, .string ⟨#[]⟩, .string ⟨#[]⟩, .slice none 0 0, .slice none 0 0, .string ⟨#[]⟩, .string ⟨#[]⟩, .string ⟨#[]⟩] #[.int .i64 (le : Int), .int .i64 (la : Int)] := hS0w.st #[.string ⟨#[]⟩, .int .i64 0, .int .i64 0, .string ⟨#[]⟩, .int .i64 0, .string ⟨#[]⟩, .slice none 0 0, .int .i64 0, .string ⟨#[]⟩, .int .i64 0, .string ⟨#[]⟩, .slice none 0 0, .int .i64 0, .string ⟨#[]⟩, .int .i64 0, .string ⟨#[]⟩, .slice none 0 0, .string ⟨#[]⟩, .string ⟨#[]⟩, .slice none 0 0, .slice none 0 0, .string ⟨#[]⟩, .string ⟨#[]⟩, .string ⟨#[]⟩]
      have H7 := hide (h6d.fa #[.int .i64 (le : Int), .int .i64 (la : Int)])
      obtain ⟨S0, hS0⟩ : ∃ S0 : World → Prop, S0 = fun W => W.cell? ⟨B + 1, 0, none⟩ = some (.int .i64 (le : Int)) ∧ W.cell? ⟨B + 1, 1, none⟩ = some (.int .i64 (la : Int)) := ⟨_, rfl⟩
      have HS0 := hide hS0
      have HKE : Hid (∀ W D, LnS w B W D #[.int .i64 (le : Int), .int .i64 (la : Int)] → S0 W) := hide (fun W D h => by rw [hS0]; exact fault2 h.f)
      clear hS0
      have hS1 := unhide HKE _ _ hS0w
      refine startQ 4 S0 ?_
      intro F
      refine takeR F 0 HS0 hS1 ?_
      (try simp only [List.getElem_toArray, List.getElem_cons_zero])
      (try go_frame)
      refine takeR F 1 HS0 hS1 ?_
      (try simp only [List.getElem_toArray, List.getElem_cons_succ, List.getElem_cons_zero])
      (try go_frame)
      refine stepQ 2 (fun K2 hK2 => ?_)
      refine wp_store_any rfl 47 _ _ rfl B #[.string ⟨#[]⟩, .int .i64 0, .int .i64 0, .string ⟨#[]⟩, .int .i64 0, .string ⟨#[]⟩, .slice none 0 0, .int .i64 0, .string ⟨#[]⟩, .int .i64 0, .string ⟨#[]⟩, .slice none 0 0, .int .i64 0, .string ⟨#[]⟩, .int .i64 0, .string ⟨#[]⟩, .slice none 0 0, .string ⟨#[]⟩, .string ⟨#[]⟩, .slice none 0 0, .slice none 0 0, .string ⟨#[]⟩, .string ⟨#[]⟩, .string ⟨#[]⟩] rfl rfl 47 #[.string ⟨#[]⟩, .int .i64 0, .int .i64 0, .string ⟨#[]⟩, .int .i64 0, .string ⟨#[]⟩, .slice none 0 0, .int .i64 0, .string ⟨#[]⟩, .int .i64 0, .string ⟨#[]⟩, .slice none 0 0, .int .i64 0, .string ⟨#[]⟩, .int .i64 0, .string ⟨#[]⟩, .slice none 0 0, .string ⟨#[]⟩, .string ⟨#[]⟩, .slice none 0 0, .slice none 0 0, .string ⟨#[]⟩, .string ⟨#[]⟩, .string ⟨#[]⟩] hS0w.s sySize_stm (rfl) (SV.cells_one zSV) ?_
      have hS2 := unhide HKE _ _ h6d
      refine hK2 _ _ hS2 ?_
      (try simp only [List.getElem_toArray, List.getElem_cons_succ, List.getElem_cons_zero])
      (try go_frame)
      refine takeR F 3 HS0 hS2 ?_
      (try simp only [List.getElem_toArray, List.getElem_cons_succ, List.getElem_cons_zero])
      (try go_frame)
      refine lastE (by kernel_rfl) rfl (by kernel_rfl) (fun K4 hK4 => ?_)
      refine wp_store_any rfl 30 _ _ rfl (B + 1) #[.int .i64 (le : Int), .int .i64 (la : Int)] rfl rfl 30 #[.int .i64 (le : Int), .int .i64 (la : Int)] h6d.f sySize_fau rfl (by simp [Value.oneCell']) ?_
      refine hK4 _ _ ?_
      (try simp only [List.getElem_toArray, List.getElem_cons_succ, List.getElem_cons_zero])
      (try go_frame)
      clear hK4 hK2 K4 K2 F hS2 hS1 h6d hS0w h6 HKE HS0
      go_wp2_with fail
      exact bodyPost_ret (sres_three _ _ B (B + 1) #[.string ⟨#[]⟩, .int .i64 0, .int .i64 0, .string ⟨#[]⟩, .int .i64 0, .string ⟨#[]⟩, .slice none 0 0, .int .i64 0, .string ⟨#[]⟩, .int .i64 0, .string ⟨#[]⟩, .slice none 0 0, .int .i64 0, .string ⟨#[]⟩, .int .i64 0, .string ⟨#[]⟩, .slice none 0 0, .string ⟨#[]⟩, .string ⟨#[]⟩, .slice none 0 0, .slice none 0 0, .string ⟨#[]⟩, .string ⟨#[]⟩, .string ⟨#[]⟩] #[.int .i64 (le : Int), .int .i64 (la : Int)] (.bool false) rfl rfl rfl (unhide H7).s (unhide H7).f rfl rfl) rfl (unhide HBAD (le : Int) la _ (unhide HE) (unhide H7).bel)
end Go.Proofs.YtpkmamgleofimaaGreatDoor
