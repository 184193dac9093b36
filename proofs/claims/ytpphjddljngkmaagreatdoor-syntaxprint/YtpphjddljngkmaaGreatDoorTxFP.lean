/- Statements: each of its cells is one cell. A program in memory. -/
import Derived.Test.YtpphjddljngkmaaGreatDoorStBM
import Derived.Test.YtpphjddljngkmaaGreatDoorStCP
import Derived.Test.YtpphjddljngkmaaGreatDoorPrintRows4M
import Derived.Deep.MidRow
import Derived.Test.YtpphjddljngkmaaGreatDoorTxEP
namespace Go.Proofs.YtpphjddljngkmaaGreatDoor
open Go.RowKit

theorem SV.cells_one (S : SV) : S.cells.all (·.oneCell') = true := by
  unfold SV.cells NL.v
  simp [Value.oneCell']
end Go.Proofs.YtpphjddljngkmaaGreatDoor

namespace Go.Proofs.YtpphjddljngkmaaGreatDoor
open Go.RowKit

/-- Where a program lies. -/
structure PV where
  xa : Option Addr
  gb : Nat
  ob : Nat
  cap : Nat
def PV.v (V : PV) (n : Nat) : Value := .slice V.xa n V.cap
structure PIn (w : World) (V : PV) (P : List SV) : Prop where
  cap : P.length ≤ V.cap
  max : V.cap ≤ maxLen
  at_ : 0 < P.length → V.xa = some ⟨V.gb, V.ob, none⟩
  row : ∀ (i : Nat) S, P[i]? = some S → w.rangeAt V.gb (V.ob + i * 24) S.cells.toList ∧ S.In w
theorem idx24 {g o n cap i : Nat} (hi : i < n) (w : World) :
    (Instr.indexAt 22 (.slice (some ⟨g, o, none⟩) n cap) (.int .i64 (i : Int))).run Tryz.prog w = .ok (.pointer (some ⟨g, o + i * 24, none⟩)) w := by
  have h0 : (0 : Int) ≤ (i : Int) ∧ (i : Int) < (n : Int) := by omega
  cases hq : Tryz.prog.info? 33 with
  | none => have := size_stmt; simp [hq] at this
  | some x =>
    have hz : x.size = 24 := by have := size_stmt; simpa [hq] using this
    simp [Instr.indexAt, asIntOf, run_underlying Tryz.underlying22, h0, sizeOf, typeInfo, hq, hz, Addr.add_lit]
    intro h
    omega
theorem PIn.later {w w' : World} {V : PV} {P : List SV} (h : PIn w V P) (hb : Below w.heap.size w w') : PIn w' V P :=
  ⟨h.cap, h.max, h.at_, fun i S hS => ⟨fun j v hj => cell_later hb ((h.row i S hS).1 j v hj), (h.row i S hS).2.later hb⟩⟩
end Go.Proofs.YtpphjddljngkmaaGreatDoor
namespace Go.Proofs.YtpphjddljngkmaaGreatDoor
open Go.RowKit

def shB (P : List SV) : List UInt8 := P.flatMap fun S => (prA S).1.data.toList ++ [10]
def shF : List SV → Nat → Int × Int
  | [], _ => (0, 0)
  | S :: l, i => if (prA S).2 = 0 then shF l (i + 1) else ((prA S).2, (i : Int))
def shT (t : ByteArray) (e i : Int) : Value := .tuple #[.string t, .agg #[.int .i64 e, .int .i64 i]]
/-- What Show answers. -/
def shV (P : List SV) : Value := if 1000 < P.length then shT ⟨#[]⟩ 5 0 else if (shF P 0).1 ≠ 0 then shT ⟨#[]⟩ (shF P 0).1 (shF P 0).2 else if 65536 < (shB P).length then shT ⟨#[]⟩ 4 0 else shT ⟨(shB P).toArray⟩ 0 0
theorem shB_take {P : List SV} {k : Nat} {S : SV} (h : P[k]? = some S) : shB (P.take (k + 1)) = shB (P.take k) ++ (prA S).1.data.toList ++ [10] := by
  unfold shB
  rw [List.take_add_one, h, List.flatMap_append]
  simp
theorem shF_drop {P : List SV} {k : Nat} {S : SV} {R : Int × Int} (h : R = shF (P.drop k) k) (hS : P[k]? = some S) : ((prA S).2 = 0 → R = shF (P.drop (k + 1)) (k + 1)) ∧ ((prA S).2 ≠ 0 → R = ((prA S).2, (k : Int))) := by
  have hk : k < P.length := (List.getElem?_eq_some_iff.1 hS).1
  have e : P.drop k = S :: P.drop (k + 1) := by
    rw [List.drop_eq_getElem_cons hk]
    congr 1
    rw [List.getElem?_eq_getElem hk] at hS
    exact Option.some.inj hS
  rw [e] at h
  exact ⟨fun q => h.trans (if_pos q), fun q => h.trans (if_neg q)⟩
theorem prA_len {S : SV} (h : (prA S).2 = 0) : (prA S).1.size ≤ 2000 := by
  unfold prA at h ⊢
  by_cases h1 : S.wrong ≠ 0
  · rw [if_pos h1] at h; exact absurd h h1
  rw [if_neg h1] at h ⊢
  by_cases h2 : (S.k = 4 ∨ S.k = 5 ∨ S.k = 6) ∧ 65536 < S.pa.txt.length
  · rw [if_pos h2] at h; exact absurd h (by decide)
  rw [if_neg h2] at h ⊢
  by_cases h3 : nl10 (flt (stI S)) = true
  · rw [if_pos h3] at h; exact absurd h (by decide)
  rw [if_neg h3] at h ⊢
  by_cases h4 : 2000 < (flt (stI S)).length
  · rw [if_pos h4] at h; exact absurd h (by decide)
  rw [if_neg h4]
  show (flt (stI S)).toArray.size ≤ _
  rw [List.size_toArray]; omega
theorem spSize_fau : (Tryz.prog.info? 38).map (·.size) = some 2 := by kernel_rfl
theorem spFau_ret {wx : World} {z : Nat} (e i : Int) (hf : wx.heap[z]? = some (.cells #[.int .i64 0, .int .i64 0] 38 (0, 0))) :
    ((wx.setCell ⟨z, 0, none⟩ (.int .i64 e)).setCell ⟨z, 1, none⟩ (.int .i64 i)).heap[z]? = some (.cells #[.int .i64 e, .int .i64 i] 38 (0, 0)) := heap_setCell_same _ _ 1 _ _ _ (heap_setCell_same _ _ 0 _ _ _ hf)
theorem spFau_cells {wx : World} {z : Nat} (hf : wx.heap[z]? = some (.cells #[.int .i64 0, .int .i64 0] 38 (0, 0))) :
    wx.cell? ⟨z, 0, none⟩ = some (.int .i64 0) ∧ wx.cell? ⟨z, 1, none⟩ = some (.int .i64 0) ∧ wx.frozen? ⟨z, 0, none⟩ = false ∧ wx.frozen? ⟨z, 1, none⟩ = false := ⟨cr hf, cr hf, frozen_of_row wx z 0 _ _ hf, frozen_of_row wx z 1 _ _ hf⟩
/-- What a program written so far is. -/
structure ShI (w1 : World) (P : List SV) (k : Nat) (v : Value) (wr : World) : Prop where
  row : Bytes wr w1.heap.size v (shB (P.take k))
  bel : Below w1.heap.size w1 wr
  all : shF P 0 = shF (P.drop k) k
  len : (shB (P.take k)).length ≤ 2001 * k
theorem ShI.next {w1 : World} {P : List SV} {k : Nat} {v v' : Value} {wr w' : World} {S : SV} (h : ShI w1 P k v wr) (hS : P[k]? = some S) (h0 : (prA S).2 = 0) (hr : Bytes w' w1.heap.size v' (shB (P.take k) ++ (prA S).1.data.toList ++ [10])) (hb : Below w1.heap.size w1 w') : ShI w1 P (k + 1) v' w' := by
  refine ⟨by rw [shB_take hS]; exact hr, hb, (shF_drop h.all hS).1 h0, ?_⟩
  have h2 := prA_len h0
  have h3 := h.len
  rw [shB_take hS, List.length_append, List.length_append]
  have : (prA S).1.data.toList.length = (prA S).1.size := by simp
  rw [this]
  simp only [List.length_cons, List.length_nil]
  omega
theorem spResA (tmps : Array Value) (w : World) (g : Nat) (fs : Array Value) (hp : tmps.getD 3 undef = .pointer (some ⟨g, 0, none⟩)) (hg : w.heap[g]? = some (.cells fs 38 (0, 0))) (hfs : fs.size = 2) :
    (results Tryz.f10 tmps).run Tryz.prog w = .ok (.tuple #[tmps.getD 2 undef, .agg fs]) w := by
  have hp' : tmps[3]?.getD undef = .pointer (some ⟨g, 0, none⟩) := by simpa using hp
  have hl := run_loadVar_row w g 38 38 fs (0, 0) _ hg Tryz.underlying38 rfl (spSize_fau.trans (by rw [hfs]))
  simp [results, Tryz.results10, hp', asAddr, hl]
set_option maxRecDepth 100000 in
set_option maxHeartbeats 8000000 in
theorem showS_any (V : PV) (P : List SV) (w : World) (hW : PrW w) (hV : PIn w V P) : Calls Tryz.prog 10 #[V.v P.length] w fun e w' => e = .returned (shV P) ∧ Below w.heap.size w w' := by
  have hmx := hV.max
  have hcp := hV.cap
  unfold maxLen at hmx
  have HV := hide hV
  have HW := hide hW
  have HSV : Hid (shV P = if 1000 < P.length then shT ⟨#[]⟩ 5 0 else if (shF P 0).1 ≠ 0 then shT ⟨#[]⟩ (shF P 0).1 (shF P 0).2 else if 65536 < (shB P).length then shT ⟨#[]⟩ 4 0 else shT ⟨(shB P).toArray⟩ 0 0) := hide rfl
  unfold shT at HSV
  generalize shV P = R at *
  obtain ⟨w1, hw1⟩ : ∃ w1, w1 = w.alloc (.cells #[.int .i64 0, .int .i64 0] 38) := ⟨_, rfl⟩
  have HB1 := hide (show Below w.heap.size w w1 by rw [hw1]; exact ba _)
  have HF1 := hide (show w1.heap[w.heap.size]? = some (.cells #[.int .i64 0, .int .i64 0] 38 (0, 0)) by rw [hw1]; exact at_new rfl)
  have HW1 := hide hw1
  clear hV hW hw1
  unfold PV.v
  go_enter Tryz.func10, Tryz.ntmps10
  by_cases hn : 1000 < P.length
  case pos =>
    have q1 : (1000 : Int) < (P.length : Int) := by omega
    have HE := hide ((unhide HSV).trans (if_pos hn))
    have HF3 := hide (show (w.alloc (.cells #[.int .i64 5, .int .i64 0] 38)).heap[w.heap.size]? = some (.cells #[.int .i64 5, .int .i64 0] 38 (0, 0)) from at_new rfl)
    clear hn HSV
    go_wp2_with fail
    refine bodyPost_ret (spResA _ _ w.heap.size #[.int .i64 5, .int .i64 0] rfl (unhide HF3) rfl) rfl ?_
    exact ⟨by rw [unhide HE]; rfl, ba _⟩
  case neg =>
  have q1 : ¬ (1000 : Int) < (P.length : Int) := by omega
  have HSV := hide ((unhide HSV).trans (if_neg hn))
  have HN := hide hn
  clear hn
  go_wp2_with fail
  rw [← unhide HW1]
  clear q1
  go_loopw [4, 15] (fun v x wr => ∃ k : Nat, k ≤ P.length ∧ x = .int .i64 (k : Int) ∧ Hid (ShI w1 P k v wr)) (fun _ x _ => P.length - (intOf x).toNat)
  case atStart => exact ⟨0, Nat.zero_le _, rfl, ⟨World.ownsRow_nil _ _ _ _, Below.refl _ _, rfl, by simp [shB]⟩⟩
  case round =>
    obtain ⟨k, hk, rfl, HI⟩ := hrel
    have HBW := hide (bnext2 (unhide HB1) (unhide HI).bel)
    have HFR := hide (row_below (unhide HF1) (unhide HI).bel)
    rcases Nat.lt_or_ge k P.length with hlt | hge
    · have g1 : (k : Int) < (P.length : Int) := by omega
      obtain ⟨A, hA⟩ : ∃ A, P[k]? = some A := ⟨P[k], List.getElem?_eq_getElem _⟩
      have hpv := (unhide HV).later (unhide HBW)
      have HPR := hide (fun W (q : Below wr.heap.size wr W) => sprint_any A W ((unhide HW).later (bnext (unhide HBW) q)) ((hpv.later q).row k A hA).2)
      unfold SV.v prV at HPR
      have HNX := hide (fun v' w' => (unhide HI).next (v' := v') (w' := w') hA)
      have HDR := hide (shF_drop (unhide HI).all hA)
      have HSM := hide (fun h0 => prA_len (S := A) h0)
      have hav := hpv.at_ (by omega)
      have hix := idx24 (g := V.gb) (o := V.ob) (cap := V.cap) (n := P.length) (i := k) hlt
      rw [← hav] at hix
      have hRA := (hpv.row k A hA).1
      have hda : A.cells.toList.length = 24 := sv_size A
      have HON := hide (SV.cells_one A)
      obtain ⟨L, hL⟩ : ∃ L, L = A.cells.toList := ⟨_, rfl⟩
      rw [show A.cells = L.toArray by rw [hL]] at HPR HON
      rw [← hL] at hRA hda
      have HRG := hide hRA
      obtain ⟨w2, hw2⟩ : ∃ w2, w2 = wr.alloc (.cells L.toArray 33) := ⟨_, rfl⟩
      have hb2 : Below wr.heap.size wr w2 := by rw [hw2]; exact ba _
      have HR2 : Hid (w2.heap[wr.heap.size]? = some (.cells L.toArray 33 (0, 0))) := hide (by rw [hw2]; exact at_new rfl)
      have HB2 := hide hb2
      have HW2 := hide hw2
      generalize (prA A).1 = pt at *
      generalize (prA A).2 = er at *
      clear hA hpv hav hRA hL hb2 hw2
      go_wp2_with (first
        | (refine wpList_load_mid rfl 33 _ rfl V.gb (V.ob + k * 24) rfl L _ (unhide HRG) Tryz.underlying33 rfl (size_stmt.trans (by rw [hda])) ?_)
        | (refine wpList_store_row rfl 33 _ _ rfl wr.heap.size L.toArray rfl rfl 33 _ (at_new rfl) (size_stmt.trans (by rw [show L.toArray.size = 24 from List.size_toArray.trans hda])) (by rw [show L.toArray.size = 24 from List.size_toArray.trans hda]; rfl) (unhide HON) ?_; rw [World.setRow_alloc_new]; rw [show wr.alloc (.cells L.toArray 33) = w2 from (unhide HW2).symm])
        | (refine wpList_load_row rfl 33 _ rfl wr.heap.size rfl 33 L.toArray (0, 0) _ (unhide HR2) Tryz.underlying33 rfl (size_stmt.trans (by rw [show L.toArray.size = 24 from List.size_toArray.trans hda])) ?_)
        | fail)
      refine (unhide HPR w2 (unhide HB2)).mono ?_
      rintro e w3 ⟨rfl, hb3⟩
      have HB3 := hide (bnext (unhide HB2) hb3)
      clear hb3 HR2 HW2 HON HRG hda HPR
      by_cases h0 : er = 0
      · have e1 : (er != 0) = false := by rw [bne, bt h0]; rfl
        have hps := unhide HSM h0
        have hlk := (unhide HI).len
        have hkn := unhide HN
        have HR3 := hide ((unhide HI).row.later (unhide HB3))
        have HB4 := hide ((unhide HI).bel.trans ((unhide HB3).mono (unhide HI).bel.size))
        have HLE := hide (unhide HB4).size
        have HL1 : Hid ((shB (P.take k)).length + pt.size ≤ 100000000) := hide (by omega)
        have HL2 : Hid ((shB (P.take k) ++ pt.data.toList).length + 1 ≤ 100000000) := hide (by rw [List.length_append, ← Lib.size_eq]; omega)
        have HNY := hide (unhide HNX)
        have HER := hide h0
        clear h0 hps hlk hkn HSM HNX HDR
        go_wp2_with (first
          | (at_builtin; refine wpl_str rfl (.tmp 30) (.tmp 31) rfl w1.heap.size _ _ pt rfl rfl (unhide HR3) (unhide HLE) (unhide HL1) ?_; intro v4 w4 h4 hb4 hk4)
          | (at_builtin; refine wpl_byte rfl (.tmp 32) (.tmp 33) rfl w1.heap.size _ _ 10 w4.heap.size rfl rfl (h4.later (ba _)) (cr (at_new rfl)) (by rw [World.size_alloc]; have := unhide HLE; have := hb4.size; omega) (unhide HL2) ?_; intro v5 w5 h5 hb5 _)
          | fail)
        have HZ := hide (unhide HNY v5 w5 (unhide HER) h5 (((unhide HB4).trans hb4).trans ((((ba _).mono (Nat.le_trans (unhide HLE) hb4.size))).trans hb5)))
        clear h4 hb4 hk4 h5 hb5
        exact ⟨⟨k + 1, by omega, by go_num, unhide HZ⟩, by simp [intOf]; omega⟩
      · have e1 : (er != 0) = true := by rw [bne, bn h0]; rfl
        have hE := (unhide HDR).2 h0
        have HE := hide ((unhide HSV).trans ((if_pos (by rw [hE]; exact h0)).trans (by rw [hE])))
        have hf := row_below (unhide HFR) (unhide HB3)
        obtain ⟨g0, g1', r0, r1⟩ := spFau_cells hf
        have HF3 := hide (spFau_ret er (k : Int) hf)
        have HBZ := hide (below_cell (below_cell (bnext (unhide HBW) (unhide HB3)) (Nat.le_refl _) 0 (.int .i64 er)) (Nat.le_refl _) 1 (.int .i64 (k : Int)))
        clear h0 HSM HNX HDR hE hf HSV
        go_wp2_with fail
        refine bodyPost_ret (spResA _ _ w.heap.size #[.int .i64 er, .int .i64 (k : Int)] rfl (unhide HF3) rfl) rfl ?_
        exact ⟨by rw [unhide HE]; rfl, unhide HBZ⟩
    · obtain rfl : k = P.length := by omega
      have hz : shF P 0 = (0, 0) := by rw [(unhide HI).all, List.drop_length]; rfl
      have HSV := hide ((unhide HSV).trans (if_neg (by rw [hz]; decide)))
      have hrw := (unhide HI).row
      rw [List.take_length] at hrw
      obtain ⟨xa, cp, hvf⟩ := bytes_form hrw
      subst hvf
      have hcv := out_str4 hrw
      obtain ⟨g0, g1', r0, r1⟩ := spFau_cells (unhide HFR)
      clear hrw hz
      by_cases hl : 65536 < (shB P).length
      · have q2 : (65536 : Int) < ((shB P).length : Int) := by omega
        have HE := hide ((unhide HSV).trans (if_pos hl))
        have HF3 := hide (spFau_ret 4 0 (unhide HFR))
        have HBZ := hide (below_cell (below_cell (unhide HBW) (Nat.le_refl _) 0 (.int .i64 4)) (Nat.le_refl _) 1 (.int .i64 0))
        clear hl HSV
        go_wp2_with fail
        refine bodyPost_ret (spResA _ _ w.heap.size #[.int .i64 4, .int .i64 0] rfl (unhide HF3) rfl) rfl ?_
        exact ⟨by rw [unhide HE]; rfl, unhide HBZ⟩
      · have q2 : ¬ (65536 : Int) < ((shB P).length : Int) := by omega
        have HE := hide ((unhide HSV).trans (if_neg hl))
        have HF3 := hide (spFau_ret 0 0 (unhide HFR))
        have HBZ := hide (below_cell (below_cell (unhide HBW) (Nat.le_refl _) 0 (.int .i64 0)) (Nat.le_refl _) 1 (.int .i64 0))
        clear hl HSV
        go_wp2_with fail
        refine bodyPost_ret (spResA _ _ w.heap.size #[.int .i64 0, .int .i64 0] rfl (unhide HF3) rfl) rfl ?_
        exact ⟨by rw [unhide HE]; rfl, unhide HBZ⟩
theorem spResB (tmps : Array Value) (w : World) (g : Nat) (fs : Array Value) (hp : tmps.getD 3 undef = .pointer (some ⟨g, 0, none⟩)) (hg : w.heap[g]? = some (.cells fs 38 (0, 0))) (hfs : fs.size = 2) :
    (results Tryz.f11 tmps).run Tryz.prog w = .ok (.tuple #[tmps.getD 2 undef, .agg fs]) w := by
  have hp' : tmps[3]?.getD undef = .pointer (some ⟨g, 0, none⟩) := by simpa using hp
  have hl := run_loadVar_row w g 38 38 fs (0, 0) _ hg Tryz.underlying38 rfl (spSize_fau.trans (by rw [hfs]))
  simp [results, Tryz.results11, hp', asAddr, hl]
set_option maxRecDepth 100000 in
set_option maxHeartbeats 8000000 in
theorem refShowS_any (V : PV) (P : List SV) (w : World) (hW : ∀ (i : Nat) S, P[i]? = some S → S.pa.cnt ≤ 1048576 ∧ S.ps.l.length + S.ls.l.length ≤ 7000000000000) (hV : PIn w V P) : Calls Tryz.prog 11 #[V.v P.length] w fun e w' => e = .returned (shV P) ∧ Below w.heap.size w w' := by
  have hmx := hV.max
  have hcp := hV.cap
  unfold maxLen at hmx
  have HV := hide hV
  have HW := hide hW
  have HSV : Hid (shV P = if 1000 < P.length then shT ⟨#[]⟩ 5 0 else if (shF P 0).1 ≠ 0 then shT ⟨#[]⟩ (shF P 0).1 (shF P 0).2 else if 65536 < (shB P).length then shT ⟨#[]⟩ 4 0 else shT ⟨(shB P).toArray⟩ 0 0) := hide rfl
  unfold shT at HSV
  generalize shV P = R at *
  obtain ⟨w1, hw1⟩ : ∃ w1, w1 = w.alloc (.cells #[.int .i64 0, .int .i64 0] 38) := ⟨_, rfl⟩
  have HB1 := hide (show Below w.heap.size w w1 by rw [hw1]; exact ba _)
  have HF1 := hide (show w1.heap[w.heap.size]? = some (.cells #[.int .i64 0, .int .i64 0] 38 (0, 0)) by rw [hw1]; exact at_new rfl)
  have HW1 := hide hw1
  clear hV hW hw1
  unfold PV.v
  go_enter Tryz.func11, Tryz.ntmps11
  by_cases hn : 1000 < P.length
  case pos =>
    have q1 : (1000 : Int) < (P.length : Int) := by omega
    have HE := hide ((unhide HSV).trans (if_pos hn))
    have HF3 := hide (show (w.alloc (.cells #[.int .i64 5, .int .i64 0] 38)).heap[w.heap.size]? = some (.cells #[.int .i64 5, .int .i64 0] 38 (0, 0)) from at_new rfl)
    clear hn HSV
    go_wp2_with fail
    refine bodyPost_ret (spResB _ _ w.heap.size #[.int .i64 5, .int .i64 0] rfl (unhide HF3) rfl) rfl ?_
    exact ⟨by rw [unhide HE]; rfl, ba _⟩
  case neg =>
  have q1 : ¬ (1000 : Int) < (P.length : Int) := by omega
  have HSV := hide ((unhide HSV).trans (if_neg hn))
  have HN := hide hn
  clear hn
  go_wp2_with fail
  rw [← unhide HW1]
  clear q1
  go_loopw [4, 15] (fun v x wr => ∃ k : Nat, k ≤ P.length ∧ x = .int .i64 (k : Int) ∧ Hid (ShI w1 P k v wr)) (fun _ x _ => P.length - (intOf x).toNat)
  case atStart => exact ⟨0, Nat.zero_le _, rfl, ⟨World.ownsRow_nil _ _ _ _, Below.refl _ _, rfl, by simp [shB]⟩⟩
  case round =>
    obtain ⟨k, hk, rfl, HI⟩ := hrel
    have HBW := hide (bnext2 (unhide HB1) (unhide HI).bel)
    have HFR := hide (row_below (unhide HF1) (unhide HI).bel)
    rcases Nat.lt_or_ge k P.length with hlt | hge
    · have g1 : (k : Int) < (P.length : Int) := by omega
      obtain ⟨A, hA⟩ : ∃ A, P[k]? = some A := ⟨P[k], List.getElem?_eq_getElem _⟩
      have hpv := (unhide HV).later (unhide HBW)
      have HPR := hide (fun W (q : Below wr.heap.size wr W) => refPrintS_any A W ((hpv.later q).row k A hA).2 (unhide HW k A hA))
      unfold SV.v prV at HPR
      have HNX := hide (fun v' w' => (unhide HI).next (v' := v') (w' := w') hA)
      have HDR := hide (shF_drop (unhide HI).all hA)
      have HSM := hide (fun h0 => prA_len (S := A) h0)
      have hav := hpv.at_ (by omega)
      have hix := idx24 (g := V.gb) (o := V.ob) (cap := V.cap) (n := P.length) (i := k) hlt
      rw [← hav] at hix
      have hRA := (hpv.row k A hA).1
      have hda : A.cells.toList.length = 24 := sv_size A
      have HON := hide (SV.cells_one A)
      obtain ⟨L, hL⟩ : ∃ L, L = A.cells.toList := ⟨_, rfl⟩
      rw [show A.cells = L.toArray by rw [hL]] at HPR HON
      rw [← hL] at hRA hda
      have HRG := hide hRA
      obtain ⟨w2, hw2⟩ : ∃ w2, w2 = wr.alloc (.cells L.toArray 33) := ⟨_, rfl⟩
      have hb2 : Below wr.heap.size wr w2 := by rw [hw2]; exact ba _
      have HR2 : Hid (w2.heap[wr.heap.size]? = some (.cells L.toArray 33 (0, 0))) := hide (by rw [hw2]; exact at_new rfl)
      have HB2 := hide hb2
      have HW2 := hide hw2
      generalize (prA A).1 = pt at *
      generalize (prA A).2 = er at *
      clear hA hpv hav hRA hL hb2 hw2
      go_wp2_with (first
        | (refine wpList_load_mid rfl 33 _ rfl V.gb (V.ob + k * 24) rfl L _ (unhide HRG) Tryz.underlying33 rfl (size_stmt.trans (by rw [hda])) ?_)
        | (refine wpList_store_row rfl 33 _ _ rfl wr.heap.size L.toArray rfl rfl 33 _ (at_new rfl) (size_stmt.trans (by rw [show L.toArray.size = 24 from List.size_toArray.trans hda])) (by rw [show L.toArray.size = 24 from List.size_toArray.trans hda]; rfl) (unhide HON) ?_; rw [World.setRow_alloc_new]; rw [show wr.alloc (.cells L.toArray 33) = w2 from (unhide HW2).symm])
        | (refine wpList_load_row rfl 33 _ rfl wr.heap.size rfl 33 L.toArray (0, 0) _ (unhide HR2) Tryz.underlying33 rfl (size_stmt.trans (by rw [show L.toArray.size = 24 from List.size_toArray.trans hda])) ?_)
        | fail)
      refine (unhide HPR w2 (unhide HB2)).mono ?_
      rintro e w3 ⟨rfl, hb3⟩
      have HB3 := hide (bnext (unhide HB2) hb3)
      clear hb3 HR2 HW2 HON HRG hda HPR
      by_cases h0 : er = 0
      · have e1 : (er != 0) = false := by rw [bne, bt h0]; rfl
        have hps := unhide HSM h0
        have hlk := (unhide HI).len
        have hkn := unhide HN
        have HR3 := hide ((unhide HI).row.later (unhide HB3))
        have HB4 := hide ((unhide HI).bel.trans ((unhide HB3).mono (unhide HI).bel.size))
        have HLE := hide (unhide HB4).size
        have HL1 : Hid ((shB (P.take k)).length + pt.size ≤ 100000000) := hide (by omega)
        have HL2 : Hid ((shB (P.take k) ++ pt.data.toList).length + 1 ≤ 100000000) := hide (by rw [List.length_append, ← Lib.size_eq]; omega)
        have HNY := hide (unhide HNX)
        have HER := hide h0
        clear h0 hps hlk hkn HSM HNX HDR
        go_wp2_with (first
          | (at_builtin; refine wpl_str rfl (.tmp 30) (.tmp 31) rfl w1.heap.size _ _ pt rfl rfl (unhide HR3) (unhide HLE) (unhide HL1) ?_; intro v4 w4 h4 hb4 hk4)
          | (at_builtin; refine wpl_byte rfl (.tmp 32) (.tmp 33) rfl w1.heap.size _ _ 10 w4.heap.size rfl rfl (h4.later (ba _)) (cr (at_new rfl)) (by rw [World.size_alloc]; have := unhide HLE; have := hb4.size; omega) (unhide HL2) ?_; intro v5 w5 h5 hb5 _)
          | fail)
        have HZ := hide (unhide HNY v5 w5 (unhide HER) h5 (((unhide HB4).trans hb4).trans ((((ba _).mono (Nat.le_trans (unhide HLE) hb4.size))).trans hb5)))
        clear h4 hb4 hk4 h5 hb5
        exact ⟨⟨k + 1, by omega, by go_num, unhide HZ⟩, by simp [intOf]; omega⟩
      · have e1 : (er != 0) = true := by rw [bne, bn h0]; rfl
        have hE := (unhide HDR).2 h0
        have HE := hide ((unhide HSV).trans ((if_pos (by rw [hE]; exact h0)).trans (by rw [hE])))
        have hf := row_below (unhide HFR) (unhide HB3)
        obtain ⟨g0, g1', r0, r1⟩ := spFau_cells hf
        have HF3 := hide (spFau_ret er (k : Int) hf)
        have HBZ := hide (below_cell (below_cell (bnext (unhide HBW) (unhide HB3)) (Nat.le_refl _) 0 (.int .i64 er)) (Nat.le_refl _) 1 (.int .i64 (k : Int)))
        clear h0 HSM HNX HDR hE hf HSV
        go_wp2_with fail
        refine bodyPost_ret (spResB _ _ w.heap.size #[.int .i64 er, .int .i64 (k : Int)] rfl (unhide HF3) rfl) rfl ?_
        exact ⟨by rw [unhide HE]; rfl, unhide HBZ⟩
    · obtain rfl : k = P.length := by omega
      have hz : shF P 0 = (0, 0) := by rw [(unhide HI).all, List.drop_length]; rfl
      have HSV := hide ((unhide HSV).trans (if_neg (by rw [hz]; decide)))
      have hrw := (unhide HI).row
      rw [List.take_length] at hrw
      obtain ⟨xa, cp, hvf⟩ := bytes_form hrw
      subst hvf
      have hcv := out_str4 hrw
      obtain ⟨g0, g1', r0, r1⟩ := spFau_cells (unhide HFR)
      clear hrw hz
      by_cases hl : 65536 < (shB P).length
      · have q2 : (65536 : Int) < ((shB P).length : Int) := by omega
        have HE := hide ((unhide HSV).trans (if_pos hl))
        have HF3 := hide (spFau_ret 4 0 (unhide HFR))
        have HBZ := hide (below_cell (below_cell (unhide HBW) (Nat.le_refl _) 0 (.int .i64 4)) (Nat.le_refl _) 1 (.int .i64 0))
        clear hl HSV
        go_wp2_with fail
        refine bodyPost_ret (spResB _ _ w.heap.size #[.int .i64 4, .int .i64 0] rfl (unhide HF3) rfl) rfl ?_
        exact ⟨by rw [unhide HE]; rfl, unhide HBZ⟩
      · have q2 : ¬ (65536 : Int) < ((shB P).length : Int) := by omega
        have HE := hide ((unhide HSV).trans (if_neg hl))
        have HF3 := hide (spFau_ret 0 0 (unhide HFR))
        have HBZ := hide (below_cell (below_cell (unhide HBW) (Nat.le_refl _) 0 (.int .i64 0)) (Nat.le_refl _) 1 (.int .i64 0))
        clear hl HSV
        go_wp2_with fail
        refine bodyPost_ret (spResB _ _ w.heap.size #[.int .i64 0, .int .i64 0] rfl (unhide HF3) rfl) rfl ?_
        exact ⟨by rw [unhide HE]; rfl, unhide HBZ⟩
end Go.Proofs.YtpphjddljngkmaaGreatDoor
