/- How a line's answer is stored. A program read: what is read of one line, and so far. A program read: syntax.Read. -/
import Derived.Test.YtpkmamgleofimaaGreatDoorSyVP
import Derived.Test.YtpkmamgleofimaaGreatDoorPatBaseM
import Derived.Test.YtpkmamgleofimaaGreatDoorPvAM
import Derived.Test.YtpkmamgleofimaaGreatDoorSyUM
import Derived.Test.YtpkmamgleofimaaGreatDoorRdAM
import Derived.Test.YtpkmamgleofimaaGreatDoorRdJM
namespace Go.Proofs.YtpkmamgleofimaaGreatDoor
open Go.RowKit

def lnW (w : World) (C : Array Value) (a b : Int) : World := ((((w.alloc (.cells #[.string ⟨#[]⟩, .int .i64 0, .int .i64 0, .string ⟨#[]⟩, .int .i64 0, .string ⟨#[]⟩, .slice none 0 0, .int .i64 0, .string ⟨#[]⟩, .int .i64 0, .string ⟨#[]⟩, .slice none 0 0, .int .i64 0, .string ⟨#[]⟩, .int .i64 0, .string ⟨#[]⟩, .slice none 0 0, .string ⟨#[]⟩, .string ⟨#[]⟩, .slice none 0 0, .slice none 0 0, .string ⟨#[]⟩, .string ⟨#[]⟩, .string ⟨#[]⟩] 47)).alloc (.cells #[.int .i64 0, .int .i64 0] 30)).setRow w.heap.size C).setRow (w.heap.size + 1) #[.int .i64 a, .int .i64 b])
theorem lnb (w : World) (C : Array Value) (a b : Int) : Below w.heap.size w (lnW w C a b) ∧ (lnW w C a b).heap[w.heap.size]? = some (.cells C 47 (0, 0)) ∧ (lnW w C a b).heap[w.heap.size + 1]? = some (.cells #[.int .i64 a, .int .i64 b] 30 (0, 0)) := by
  have h0 : ((w.alloc (.cells #[.string ⟨#[]⟩, .int .i64 0, .int .i64 0, .string ⟨#[]⟩, .int .i64 0, .string ⟨#[]⟩, .slice none 0 0, .int .i64 0, .string ⟨#[]⟩, .int .i64 0, .string ⟨#[]⟩, .slice none 0 0, .int .i64 0, .string ⟨#[]⟩, .int .i64 0, .string ⟨#[]⟩, .slice none 0 0, .string ⟨#[]⟩, .string ⟨#[]⟩, .slice none 0 0, .slice none 0 0, .string ⟨#[]⟩, .string ⟨#[]⟩, .string ⟨#[]⟩] 47)).alloc (.cells #[.int .i64 0, .int .i64 0] 30)).heap[w.heap.size]? = some (.cells #[.string ⟨#[]⟩, .int .i64 0, .int .i64 0, .string ⟨#[]⟩, .int .i64 0, .string ⟨#[]⟩, .slice none 0 0, .int .i64 0, .string ⟨#[]⟩, .int .i64 0, .string ⟨#[]⟩, .slice none 0 0, .int .i64 0, .string ⟨#[]⟩, .int .i64 0, .string ⟨#[]⟩, .slice none 0 0, .string ⟨#[]⟩, .string ⟨#[]⟩, .slice none 0 0, .slice none 0 0, .string ⟨#[]⟩, .string ⟨#[]⟩, .string ⟨#[]⟩] 47 (0, 0)) := at_old (by simp) (at_new rfl)
  have h1 : ((w.alloc (.cells #[.string ⟨#[]⟩, .int .i64 0, .int .i64 0, .string ⟨#[]⟩, .int .i64 0, .string ⟨#[]⟩, .slice none 0 0, .int .i64 0, .string ⟨#[]⟩, .int .i64 0, .string ⟨#[]⟩, .slice none 0 0, .int .i64 0, .string ⟨#[]⟩, .int .i64 0, .string ⟨#[]⟩, .slice none 0 0, .string ⟨#[]⟩, .string ⟨#[]⟩, .slice none 0 0, .slice none 0 0, .string ⟨#[]⟩, .string ⟨#[]⟩, .string ⟨#[]⟩] 47)).alloc (.cells #[.int .i64 0, .int .i64 0] 30)).heap[w.heap.size + 1]? = some (.cells #[.int .i64 0, .int .i64 0] 30 (0, 0)) := at_new (by simp)
  have hb : Below w.heap.size w ((w.alloc (.cells #[.string ⟨#[]⟩, .int .i64 0, .int .i64 0, .string ⟨#[]⟩, .int .i64 0, .string ⟨#[]⟩, .slice none 0 0, .int .i64 0, .string ⟨#[]⟩, .int .i64 0, .string ⟨#[]⟩, .slice none 0 0, .int .i64 0, .string ⟨#[]⟩, .int .i64 0, .string ⟨#[]⟩, .slice none 0 0, .string ⟨#[]⟩, .string ⟨#[]⟩, .slice none 0 0, .slice none 0 0, .string ⟨#[]⟩, .string ⟨#[]⟩, .string ⟨#[]⟩] 47)).alloc (.cells #[.int .i64 0, .int .i64 0] 30)) := (ba _).alloc (by simp) _
  refine ⟨below_setRow (below_setRow hb _ (Nat.le_refl _) _) _ (by omega) _, ?_, ?_⟩
  · exact (setRow_other _ _ _ _ (by omega)).trans (setRow_heap _ _ _ _ _ _ h0)
  · exact setRow_heap _ _ _ _ _ _ ((setRow_other _ _ _ _ (by omega)).trans h1)
end Go.Proofs.YtpkmamgleofimaaGreatDoor

namespace Go.Proofs.YtpkmamgleofimaaGreatDoor
open Go.RowKit

theorem ln_one {s : ByteArray} {w : World} {e : Ending} {w' : World} (h : LnPost s w e w') : Below w.heap.size w w' ∧ ∃ (S : SV) (b : Bool) (er : Int) (a : Nat), e = .returned (.tuple #[S.v, .bool b, fauV er a]) ∧
    ((lnS s = .error (er, a) ∧ er ≠ 0) ∨ (lnS s = .ok none ∧ er = 0 ∧ b = false) ∨ (lnS s = .ok (some S.can) ∧ er = 0 ∧ b = true ∧ SLies w.heap.size w' S)) := by
  obtain ⟨hb, h1, h2, h3⟩ := h
  refine ⟨hb, ?_⟩
  cases hR : lnS s with
  | error x => exact ⟨zSV, false, x.1, x.2, h1 _ _ hR, .inl ⟨rfl, lnS_nz (a := x.2) hR⟩⟩
  | ok q =>
    cases q with
    | none => exact ⟨zSV, false, 0, 0, h2 hR, .inr (.inl ⟨rfl, rfl, rfl⟩)⟩
    | some P =>
      obtain ⟨S, e1, e2, e3⟩ := h3 P hR
      exact ⟨S, true, 0, 0, e1, .inr (.inr ⟨by rw [e2], rfl, rfl, e3⟩)⟩
theorem splitK_le (sep : List UInt8) (sv : Nat) : ∀ (n : Nat) (l p : List UInt8), p ∈ Lib.splitK sep sv n l → p.length ≤ l.length
  | 0, l, p, h => by
    have : p = l := by simpa [Lib.splitK] using h
    rw [this]; exact Nat.le_refl _
  | n + 1, l, p, h => by
    unfold Lib.splitK at h
    split at h
    · have : p = l := by simpa using h
      rw [this]; exact Nat.le_refl _
    · rcases List.mem_cons.1 h with rfl | h
      · rw [List.length_take]; omega
      · have := splitK_le sep sv n _ p h
        rw [List.length_drop] at this; omega
theorem lnT_le {s t : ByteArray} (h : t ∈ lnT s) : t.size ≤ s.size := by
  unfold lnT lnL at h
  obtain ⟨p, hp, rfl⟩ := List.mem_map.1 h
  split at hp
  · cases hp
  · have h1 := splitK_le _ _ _ _ _ hp
    have h2 := trim_le s.data.toList
    rw [← Lib.size_eq] at h2
    show p.toArray.size ≤ _
    rw [List.size_toArray]; omega
def SFar (B : Nat) (w : World) (v : Value) (S : SV) : Prop := ∀ W : World, w.heap.size ≤ W.heap.size → (∀ i, B ≤ i → i < w.heap.size → some i ≠ v.ownBlock → W.heap[i]? = w.heap[i]?) → S.In W
section
variable {B : Nat} {w w4 w' : World} {v v' : Value} {S : SV}
theorem SFar.later (h : SFar B w v S) (hb : Below w.heap.size w w') : SFar B w' v S := fun W hs hW => h W (Nat.le_trans hb.size hs) fun i hB hi hn => (hW i hB (Nat.lt_of_lt_of_le hi hb.size) hn).trans (hb.block i hi)
theorem SFar.grow (h : SFar B w v S) (hb : Below w.heap.size w w4) (hg : w4.grownBy w' v.ownBlock) (ho : v'.ownBlock = v.ownBlock ∨ v'.ownBlock = some w4.heap.size) : SFar B w' v' S := fun W hs hW => h W (Nat.le_trans hb.size (Nat.le_trans hg.size hs)) fun i hB hi hn => by
  have h4 : i < w4.heap.size := Nat.lt_of_lt_of_le hi hb.size
  refine ((hW i hB (Nat.lt_of_lt_of_le h4 hg.size) fun e => ?_).trans (hg.block i h4 fun e => hn e)).trans (hb.block i hi)
  rcases ho with ho | ho
  · exact hn (by rw [e, ho])
  · rw [ho] at e; injection e with e; omega
theorem SFar.new {C : Nat} (h : SLies C w4 S) (hC : B ≤ C) (hv : ∀ k, v.ownBlock = some k → k < C) (hg : w4.grownBy w' v.ownBlock) (ho : v'.ownBlock = v.ownBlock ∨ v'.ownBlock = some w4.heap.size) : SFar B w' v' S := fun W hs hW => (h.step (Nat.le_trans hg.size hs) fun i h1 h2 => by
  have hn : some i ≠ v.ownBlock := fun e => by have := hv i e.symm; omega
  refine (hW i (Nat.le_trans hC h1) (Nat.lt_of_lt_of_le h2 hg.size) fun e => ?_).trans (hg.block i h2 fun e => hn e)
  rcases ho with ho | ho
  · exact hn (by rw [e, ho])
  · rw [ho] at e; injection e with e; omega).here
end
structure SrI (w2 : World) (RR : Except (Int × Nat) (List SV)) (L : List ByteArray) (k : Nat) (v : Value) (Ss : List SV) (wr : World) : Prop where
  row : Row wr w2.heap.size 47 24 cT v Ss
  bel : Below w2.heap.size w2 wr
  all : ∀ S ∈ Ss, SFar w2.heap.size wr v S
  len : Ss.length ≤ k
  rr : RR = rlS (L.drop k) k (Ss.map SV.can)
section
variable {w2 wr w' : World} {RR : Except (Int × Nat) (List SV)} {L : List ByteArray} {k : Nat} {v v' : Value} {Ss : List SV} {t : ByteArray}
theorem drop_at (h : L[k]? = some t) : L.drop k = t :: L.drop (k + 1) := by
  rw [List.drop_eq_getElem_cons (List.getElem?_eq_some_iff.1 h).1, (List.getElem?_eq_some_iff.1 h).2]
theorem SrI.err (h : SrI w2 RR L k v Ss wr) (ht : L[k]? = some t) {er : Int} {a : Nat} (hl : lnS t = .error (er, a)) : RR = .error (er, k) := by
  rw [h.rr, drop_at ht, rlS, hl]
theorem SrI.none (h : SrI w2 RR L k v Ss wr) (ht : L[k]? = some t) (hl : lnS t = .ok none) (hb : Below wr.heap.size wr w') : SrI w2 RR L (k + 1) v Ss w' :=
  ⟨h.row.later hb, bnext2 h.bel hb, fun S hS => (h.all S hS).later hb, Nat.le_succ_of_le h.len, by rw [h.rr, drop_at ht, rlS, hl]⟩
theorem SrI.some (h : SrI w2 RR L k v Ss wr) (ht : L[k]? = some t) {S : SV} (hl : lnS t = .ok (some S.can)) {w4 : World} (hb : Below wr.heap.size wr w4) (hS : SLies wr.heap.size w4 S) (hr : Row w' w2.heap.size 47 24 cT v' (Ss ++ [S])) (hg : w4.grownBy w' v.ownBlock) (ho : v'.ownBlock = v.ownBlock ∨ v'.ownBlock = some w4.heap.size) : SrI w2 RR L (k + 1) v' (Ss ++ [S]) w' := by
  refine ⟨hr, ?_, fun U hU => ?_, ?_, ?_⟩
  · exact below_grownR (bnext2 h.bel hb) (h.row.later hb) (Nat.le_refl _) hg
  · rcases List.mem_append.1 hU with hU | hU
    · exact (h.all U hU).grow hb hg ho
    · have : U = S := by simpa using hU
      rw [this]; exact SFar.new hS h.bel.size (fun k hk => (h.row.low hk).2) hg ho
  · rw [List.length_append]
    have := h.len
    simp only [List.length_cons, List.length_nil]; omega
  · rw [h.rr, drop_at ht, rlS, hl, List.map_append]; rfl
theorem SrI.done (h : SrI w2 RR L k v Ss wr) (hk : L.length ≤ k) : RR = .ok (Ss.map SV.can) ∧ ∃ V : PV, v = V.v Ss.length ∧ ∀ W : World, wr.heap.size ≤ W.heap.size → (∀ i, w2.heap.size ≤ i → i < wr.heap.size → W.heap[i]? = wr.heap[i]?) → PIn W V Ss := by
  obtain ⟨V, hv, hV⟩ := row_prog h.row fun S hS W q => h.all S hS W q.size fun i _ hi _ => q.block i hi
  have hp := hV wr (Below.refl _ _)
  refine ⟨by rw [h.rr, List.drop_of_length_le hk]; rfl, V, hv, fun W hs hW => ⟨hp.cap, hp.max, hp.at_, fun i S hS => ⟨fun j u hj => ?_, h.all S (List.mem_of_getElem? hS) W hs fun i hB hi _ => hW i hB hi⟩⟩⟩
  have h0 : 0 < Ss.length := by have := (List.getElem?_eq_some_iff.1 hS).1; omega
  have hb := h.row.low (k := V.gb) (by rw [hv]; unfold PV.v; rw [hp.at_ h0]; rfl)
  rw [World.cell?_of_block (w := wr) (hW V.gb hb.1 hb.2)]
  exact (hp.row i S hS).1 j u hj
end
end Go.Proofs.YtpkmamgleofimaaGreatDoor

namespace Go.Proofs.YtpkmamgleofimaaGreatDoor
open Go.RowKit

set_option maxRecDepth 100000 in
set_option maxHeartbeats 8000000 in
theorem sread_any (s : ByteArray) (w : World) (hs : s.size ≤ maxLen) (hW : SyW w) (m : Int) (hm : w.cell? ⟨1, 0, none⟩ = some (.int .i64 m)) : Calls Tryz.prog 9 #[.string s] w fun e w' => Below w.heap.size w w' ∧
    ((∃ er i, rdS s = .error er ∧ er ≠ 0 ∧ e = .returned (.tuple #[.slice none 0 0, fauV er i])) ∨ (∃ (V : PV) (P : List SV), rdS s = .ok (P.map SV.can) ∧ e = .returned (.tuple #[V.v P.length, fauV 0 0]) ∧ ∀ W : World, w'.heap.size ≤ W.heap.size → (∀ i, w.heap.size ≤ i → i < w'.heap.size → W.heap[i]? = w'.heap[i]?) → PIn W V P)) := by
  obtain ⟨w1, hw1⟩ : ∃ w1, w1 = w.alloc (.cells #[.int .i64 0, .int .i64 0] 30) := ⟨_, rfl⟩
  have hb1 : Below w.heap.size w w1 := by rw [hw1]; exact ba _
  have HF1 : Hid (w1.heap[w.heap.size]? = some (.cells #[.int .i64 0, .int .i64 0] 30 (0, 0))) := hide (by rw [hw1]; exact at_new rfl)
  have HB1 := hide hb1
  have HLN := hide (fun (t : ByteArray) (ht : t.size ≤ maxLen) W (q : Below w.heap.size w W) => sline_any t W ht (hW.later q) m (cell_later q hm))
  have HLO := hide (fun hz => linesOf_any s w1 hz m (cell_later hb1 hm))
  have HW1 := hide hw1
  have HSS := hide hs
  clear hb1 hw1 hW hm
  unfold fauV
  go_enter Tryz.func9, Tryz.ntmps9
  by_cases hz : s.size ≤ 65536
  · have q1 : ¬ (65536 : Int) < (s.size : Int) := by omega
    have HZ := hide hz
    clear hz
    go_wp2_with fail
    rw [show w.alloc (.cells #[.int .i64 0, .int .i64 0] 30) = w1 from (unhide HW1).symm]
    clear q1
    refine (unhide HLO (unhide HZ)).mono ?_
    rintro e w2 ⟨hb2, xa, rfl, hxa⟩
    have HXA := hide hxa
    have HB2 := hide hb2
    by_cases hn : (lnT s).length ≤ 1000
    · have q1 : ¬ (1000 : Int) < ((lnT s).length : Int) := by omega
      have HRD : Hid (rdS s = match rlS (lnT s) 0 [] with | .error e => .error e.1 | .ok l => .ok l) := hide (by unfold rdS; rw [if_neg (by have := unhide HZ; omega), if_neg (by omega)]; rfl)
      have HTS := hide (fun (t : ByteArray) (h : t ∈ lnT s) => Nat.le_trans (lnT_le h) (unhide HSS))
      obtain ⟨RR, hRR⟩ : ∃ RR, RR = rlS (lnT s) 0 [] := ⟨_, rfl⟩
      rw [← hRR] at HRD
      have H0 : Hid (SrI w2 RR (lnT s) 0 (.slice none 0 0) [] w2) := hide ⟨World.ownsRow_nil _ _ _ _, Below.refl _ _, fun S hS => absurd hS List.not_mem_nil, Nat.le_refl _, hRR⟩
      have HN := hide hn
      clear hn hb2 hxa hRR HLO
      generalize lnT s = L at *
      go_wp2_with fail
      clear q1
      go_loopw [5, 23] (fun v x wr => ∃ (k : Nat) (Ss : List SV), k ≤ L.length ∧ x = .int .i64 (k : Int) ∧ Hid (SrI w2 RR L k v Ss wr)) (fun _ x _ => L.length - (intOf x).toNat)
      case atStart => exact ⟨0, [], Nat.zero_le _, rfl, unhide H0⟩
      case round =>
        obtain ⟨k, Ss, hk, rfl, HI⟩ := hrel
        have HBW := hide (bnext2 (bnext2 (unhide HB1) (unhide HB2)) (unhide HI).bel)
        have HFR := hide (row_below (unhide HF1) (bnext2 (unhide HB2) (unhide HI).bel))
        rcases Nat.lt_or_ge k L.length with hlt | hge
        · have g1 : (k : Int) < (L.length : Int) := by omega
          obtain ⟨t, ht⟩ : ∃ t, L[k]? = some t := ⟨L[k], List.getElem?_eq_getElem _⟩
          obtain ⟨hxv, hxr⟩ := unhide HXA (by omega)
          have hct : wr.cell? ⟨w1.heap.size, k, none⟩ = some (.string t) := by
            rw [cell_of_row _ _ _ _ _ _ (row_below hxr (unhide HI).bel), List.getElem?_toArray, List.getElem?_map, ht]; rfl
          have hix := sl_idx (g := w1.heap.size) (o := 0) (cap := L.length) (i := k) (n := L.length) Tryz.underlying25 size_strS hlt
          rw [Nat.zero_add, ← hxv] at hix
          have HCL := hide (unhide HLN t (unhide HTS t (List.mem_of_getElem? ht)) wr (unhide HBW))
          have HTT := hide ht
          clear ht hxv hxr
          go_wp2_with fail
          refine (unhide HCL).mono ?_
          rintro e y1 h
          obtain ⟨hy1, S, b, er, a, rfl, hcs⟩ := ln_one h
          have HY1 := hide hy1
          have HCS := hide hcs
          obtain ⟨Z, hZ⟩ : ∃ Z, Z = S.cells := ⟨_, rfl⟩
          have HC24 : Hid (Z.size = 24) := hide (by rw [hZ]; rfl)
          have HC1 : Hid (Z.all (·.oneCell') = true) := hide (by rw [hZ]; exact SV.cells_one _)
          have HZS := hide hZ
          rw [show S.v = .agg Z by rw [hZ]; rfl]
          unfold fauV
          clear h hy1 hcs hZ hct hix HCL
          have HN1 : Hid (((y1.alloc (.cells #[.string ⟨#[]⟩, .int .i64 0, .int .i64 0, .string ⟨#[]⟩, .int .i64 0, .string ⟨#[]⟩, .slice none 0 0, .int .i64 0, .string ⟨#[]⟩, .int .i64 0, .string ⟨#[]⟩, .slice none 0 0, .int .i64 0, .string ⟨#[]⟩, .int .i64 0, .string ⟨#[]⟩, .slice none 0 0, .string ⟨#[]⟩, .string ⟨#[]⟩, .slice none 0 0, .slice none 0 0, .string ⟨#[]⟩, .string ⟨#[]⟩, .string ⟨#[]⟩] 47)).alloc (.cells #[.int .i64 0, .int .i64 0] 30)).heap[y1.heap.size]? = some (.cells zSV.cells 47 (0, 0))) := hide (at_old (by simp) (at_new rfl))
          have HN2 : Hid ((((y1.alloc (.cells #[.string ⟨#[]⟩, .int .i64 0, .int .i64 0, .string ⟨#[]⟩, .int .i64 0, .string ⟨#[]⟩, .slice none 0 0, .int .i64 0, .string ⟨#[]⟩, .int .i64 0, .string ⟨#[]⟩, .slice none 0 0, .int .i64 0, .string ⟨#[]⟩, .int .i64 0, .string ⟨#[]⟩, .slice none 0 0, .string ⟨#[]⟩, .string ⟨#[]⟩, .slice none 0 0, .slice none 0 0, .string ⟨#[]⟩, .string ⟨#[]⟩, .string ⟨#[]⟩] 47)).alloc (.cells #[.int .i64 0, .int .i64 0] 30)).setRow y1.heap.size Z).heap[y1.heap.size + 1]? = some (.cells #[.int .i64 0, .int .i64 0] 30 (0, 0))) := hide ((setRow_other _ _ _ _ (by omega)).trans (at_new (by simp)))
          obtain ⟨Y2, hW2⟩ : ∃ W, W = lnW y1 Z er (a : Int) := ⟨_, rfl⟩
          have HL1 := hide (lnb y1 Z er (a : Int))
          rw [← hW2] at HL1
          have HW2 := hide hW2
          clear hW2
          go_upto_region 11 with (first
            | (refine wpList_store_row rfl 47 _ _ rfl y1.heap.size Z rfl rfl 47 zSV.cells (by with_reducible exact unhide HN1) (sySize_stm.trans (by rw [unhide HC24])) (by rw [unhide HC24]; rfl) (unhide HC1) ?_)
            | (refine wpList_store_row rfl 30 _ _ rfl (y1.heap.size + 1) #[.int .i64 er, .int .i64 (a : Int)] rfl rfl 30 #[.int .i64 0, .int .i64 0] (by with_reducible exact unhide HN2) sySize_fau rfl (by simp [Value.oneCell']) ?_)
            | fail)
          rw [show (((y1.alloc (.cells #[.string ⟨#[]⟩, .int .i64 0, .int .i64 0, .string ⟨#[]⟩, .int .i64 0, .string ⟨#[]⟩, .slice none 0 0, .int .i64 0, .string ⟨#[]⟩, .int .i64 0, .string ⟨#[]⟩, .slice none 0 0, .int .i64 0, .string ⟨#[]⟩, .int .i64 0, .string ⟨#[]⟩, .slice none 0 0, .string ⟨#[]⟩, .string ⟨#[]⟩, .slice none 0 0, .slice none 0 0, .string ⟨#[]⟩, .string ⟨#[]⟩, .string ⟨#[]⟩] 47)).alloc (.cells #[.int .i64 0, .int .i64 0] 30)).setRow y1.heap.size Z).setRow (y1.heap.size + 1) #[.int .i64 er, .int .i64 (a : Int)] = Y2 from (unhide HW2).symm]
          clear HN1 HN2 HW2
          obtain ⟨hbY, hsY, hfY⟩ := unhide HL1
          obtain ⟨f0, -⟩ := fault2 hfY
          have HBY := hide (bnext2 (unhide HY1) hbY)
          have HSY := hide hsY
          have HFY := hide hfY
          have HQY := hide hbY
          have HFW := hide (row_below (unhide HFR) (unhide HBY))
          clear hbY hsY hfY HL1
          rcases unhide HCS with ⟨hl, h0⟩ | ⟨hl, h0, rfl⟩ | ⟨hl, h0, rfl, hS⟩
          · have e1 : (er != 0) = true := by rw [bne, bn h0]; rfl
            have HE := hide ((unhide HRD).trans (by rw [(unhide HI).err (unhide HTT) hl]))
            have HNZ := hide h0
            clear hl h0 HCS
            go_wp2_with fail
            obtain ⟨S0, hS0⟩ : ∃ S0 : World → Prop, S0 = fun W => W.cell? ⟨y1.heap.size + 1, 0, none⟩ = some (.int .i64 er) := ⟨_, rfl⟩
            have HS0 := hide hS0
            have hS : S0 Y2.drew := by rw [hS0]; exact f0
            clear hS0
            refine startQ 5 S0 ?_
            intro F
            refine takeR F 0 HS0 hS ?_
            (try simp only [List.getElem_toArray, List.getElem_cons_zero])
            (try go_frame)
            refine takeR F 1 HS0 hS ?_
            (try simp only [List.getElem_toArray, List.getElem_cons_succ, List.getElem_cons_zero])
            (try go_frame)
            refine takeR F 2 HS0 hS ?_
            (try simp only [List.getElem_toArray, List.getElem_cons_succ, List.getElem_cons_zero])
            (try go_frame)
            refine takeR F 3 HS0 hS ?_
            (try simp only [List.getElem_toArray, List.getElem_cons_succ, List.getElem_cons_zero])
            (try go_frame)
            refine takeR F 4 HS0 hS ?_
            (try simp only [List.getElem_toArray, List.getElem_cons_succ, List.getElem_cons_zero])
            (try go_frame)
            refine lastE (by kernel_rfl) rfl (by kernel_rfl) (fun K4 hK4 => ?_)
            refine wanted_op2 rfl (wp_store_row 30 _ _ rfl w.heap.size #[.int .i64 er, .int .i64 (k : Int)] rfl rfl 30 _ (unhide HFW) sySize_fau rfl (by simp [Value.oneCell']) ?_)
            refine hK4 _ _ ?_
            (try simp only [List.getElem_toArray, List.getElem_cons_succ, List.getElem_cons_zero])
            (try go_frame)
            clear hK4 F hS HS0
            go_wp2_with fail
            exact bodyPost_ret (results_fault rfl _ _ w.heap.size _ _ rfl rfl (setRow_heap _ _ _ _ _ _ (unhide HFW)) rfl) rfl ⟨below_setRow ((bnext2 (unhide HBW) (unhide HBY)).drew) _ (Nat.le_refl _) _, .inl ⟨er, k, unhide HE, unhide HNZ, rfl⟩⟩
          · have e1 : (er != 0) = false := by rw [bne, bt h0]; rfl
            have HZ := hide ((unhide HI).none (unhide HTT) hl (unhide HBY))
            clear hl h0 HCS
            go_wp2_with fail
            exact ⟨⟨k + 1, Ss, by omega, by go_num, unhide HZ⟩, by simp [intOf]; omega⟩
          · obtain ⟨ZL, rfl⟩ : ∃ l : List Value, Z = l.toArray := ⟨Z.toList, by simp⟩
            have hzz : ZL.length = 24 := by rw [← List.size_toArray]; exact unhide HC24
            have e1 : (er != 0) = false := by rw [bne, bt h0]; rfl
            have HNX := hide (fun v' w' hr hg ho => (unhide HI).some (v' := v') (w' := w') (unhide HTT) hl (((unhide HBY)).alloc (unhide HBY).size (.cells S.cells 47)) ((hS.below (unhide HQY)).below (ba _)) hr hg ho)
            have HR5 := hide ((unhide HI).row.later ((unhide HBY).alloc (unhide HBY).size (.cells ZL.toArray 47)))
            have HLE := hide (Nat.le_trans (unhide HI).bel.size (unhide HBY).size)
            have hlen := (unhide HI).len
            have hfold := fold24 ZL hzz
            have HCC : Hid (∀ j u, (cT S)[j]? = some u → (Y2.alloc (.cells ZL.toArray 47)).cell? ⟨Y2.heap.size, j, none⟩ = some u) := hide (cT_cell (by rw [← unhide HZS]; exact at_new rfl))
            have hkn := unhide HN
            rw [← unhide HZS] at HNX
            clear hl h0 HCS hS
            go_wp2_with (first
              | (refine wpList_load_row rfl 47 _ rfl y1.heap.size rfl 47 ZL.toArray (0, 0) _ (by with_reducible exact unhide HSY) Tryz.underlying47 rfl (sySize_stm.trans (by rw [List.size_toArray, hzz])) ?_)
              | (at_builtin; refine wpList_row Tryz.underlying28 stmtRow rfl (by decide) (by decide) cT_len cT_one rfl _ _ rfl (unhide HR5) (by rw [World.size_alloc]; have := unhide HLE; omega) S Y2.heap.size 1 rfl rfl (unhide HCC) (by omega) ?_; intro v' w6 hrow hgrow how)
              | fail)
            have HZ := hide (unhide HNX v' w6 hrow hgrow how)
            clear hrow hgrow how
            exact ⟨⟨k + 1, Ss ++ [S], by omega, by go_num, unhide HZ⟩, by simp [intOf]; omega⟩
        · obtain ⟨hd1, V, hv, hV⟩ := (unhide HI).done hge
          have HD := hide hd1
          have HVV := hide hV
          subst hv
          clear hd1 hV
          go_wp2_with (first
            | (refine wpList_store_row rfl 30 _ _ rfl w.heap.size #[.int .i64 0, .int .i64 0] rfl rfl 30 #[.int .i64 0, .int .i64 0] (by with_reducible exact unhide HFR) sySize_fau rfl (by simp [Value.oneCell']) ?_)
            | fail)
          exact bodyPost_ret (results_fault rfl _ _ w.heap.size _ _ rfl rfl (setRow_heap _ _ _ _ _ _ (unhide HFR)) rfl) rfl ⟨below_setRow (unhide HBW) _ (Nat.le_refl _) _, .inr ⟨V, Ss, (unhide HRD).trans (by rw [unhide HD]), rfl, fun W h1 h2 => unhide HVV W (by simpa using h1) fun i h3 h4 => (h2 i (by have := (Array.getElem?_eq_some_iff.1 (unhide HF1)).1; have := (unhide HB2).size; omega) (by simpa using h4)).trans (setRow_other _ _ _ _ (by have := (Array.getElem?_eq_some_iff.1 (unhide HF1)).1; have := (unhide HB2).size; omega))⟩⟩
    · have q1 : (1000 : Int) < ((lnT s).length : Int) := by omega
      have HRD : Hid (rdS s = .error 5) := hide (by unfold rdS; rw [if_neg (by have := unhide HZ; omega), if_pos (by omega)])
      clear hn hb2 hxa
      generalize lnT s = L at *
      have HF2 := hide (row_below (unhide HF1) (unhide HB2))
      go_wp2_with (first
        | (refine wpList_store_row rfl 30 _ _ rfl w.heap.size #[.int .i64 5, .int .i64 0] rfl rfl 30 #[.int .i64 0, .int .i64 0] (by with_reducible exact unhide HF2) sySize_fau rfl (by simp [Value.oneCell']) ?_)
        | fail)
      exact bodyPost_ret (results_fault rfl _ _ w.heap.size _ _ rfl rfl (setRow_heap _ _ _ _ _ _ (unhide HF2)) rfl) rfl ⟨below_setRow (bnext2 (unhide HB1) (unhide HB2)) _ (Nat.le_refl _) _, .inl ⟨5, 0, unhide HRD, by decide, rfl⟩⟩
  · have q1 : (65536 : Int) < (s.size : Int) := by omega
    have HRD : Hid (rdS s = .error 4) := hide (by unfold rdS; rw [if_pos (by omega)])
    clear hz
    go_wp2_with fail
    exact bodyPost_ret (results_fault rfl _ _ w.heap.size _ _ rfl rfl (at_new rfl) rfl) rfl ⟨ba _, .inl ⟨4, 0, unhide HRD, by decide, rfl⟩⟩
end Go.Proofs.YtpkmamgleofimaaGreatDoor
