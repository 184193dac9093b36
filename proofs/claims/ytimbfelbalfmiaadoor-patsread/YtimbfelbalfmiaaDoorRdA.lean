/- The reader of patterns: its small functions. -/
import Derived.Test.YtimbfelbalfmiaaDoorRdPlain
import Derived.Test.YtimbfelbalfmiaaDoorRowBase
import Derived.Test.YtimbfelbalfmiaaDoorPrintRows4
import Derived.Test.YtimbfelbalfmiaaDoorClone4
import Derived.Recover
namespace Go.Proofs.YtimbfelbalfmiaaDoor
open Go.RowKit

/-- What is thrown. -/
def fauV (er : Int) (i : Nat) : Value := .agg #[.int .i64 er, .int .i64 (i : Int)]
def thr (er : Int) (i : Nat) : Ending := .panicked [{ v := .iface 27 (fauV er i), recovered := false }]
/-- The reader: its text, where it is, how many brackets are open. -/
def Rdr (w : World) (z : Nat) (s : ByteArray) (i : Nat) (o : Int) : Prop := w.heap[z]? = some (.cells #[.string s, .int .i64 (i : Int), .int .i64 o] 47 (0, 0))
theorem Rdr.c0 {w : World} {z : Nat} {s : ByteArray} {i : Nat} {o : Int} (h : Rdr w z s i o) : w.cell? ⟨z, 0, none⟩ = some (.string s) := by rw [cell_of_row _ _ _ _ _ _ h]; rfl
theorem Rdr.c1 {w : World} {z : Nat} {s : ByteArray} {i : Nat} {o : Int} (h : Rdr w z s i o) : w.cell? ⟨z, 1, none⟩ = some (.int .i64 (i : Int)) := by rw [cell_of_row _ _ _ _ _ _ h]; rfl
theorem Rdr.c2 {w : World} {z : Nat} {s : ByteArray} {i : Nat} {o : Int} (h : Rdr w z s i o) : w.cell? ⟨z, 2, none⟩ = some (.int .i64 o) := by rw [cell_of_row _ _ _ _ _ _ h]; rfl
theorem Rdr.fz {w : World} {z : Nat} {s : ByteArray} {i : Nat} {o : Int} (h : Rdr w z s i o) (k : Nat) : w.frozen? ⟨z, k, none⟩ = false := frozen_of_row w z k _ _ h
theorem Rdr.set1 {w : World} {z : Nat} {s : ByteArray} {i : Nat} {o : Int} (h : Rdr w z s i o) (j : Nat) : Rdr (w.setCell ⟨z, 1, none⟩ (.int .i64 (j : Int))) z s j o := heap_setCell_same w z 1 _ _ _ h
theorem Rdr.set2 {w : World} {z : Nat} {s : ByteArray} {i : Nat} {o : Int} (h : Rdr w z s i o) (p : Int) : Rdr (w.setCell ⟨z, 2, none⟩ (.int .i64 p)) z s i p := heap_setCell_same w z 2 _ _ _ h
theorem Rdr.below {w w' : World} {z : Nat} {s : ByteArray} {i : Nat} {o : Int} (h : Rdr w z s i o) (hb : Below w.heap.size w w') : Rdr w' z s i o := row_below h hb
theorem Rdr.lt {w : World} {z : Nat} {s : ByteArray} {i : Nat} {o : Int} (h : Rdr w z s i o) : z < w.heap.size := (Array.getElem?_eq_some_iff.1 h).1

set_option maxHeartbeats 400000 in
theorem throw_any (er : Int) (i : Nat) (w : World) : Calls Tryd.prog 23 #[.int .i64 er, .int .i64 (i : Int)] w fun e w' => e = thr er i ∧ w' = w := by
  go_enter Tryd.func23, Tryd.ntmps23
  go_wp2
  exact ⟨rfl, rfl, rfl⟩
set_option maxHeartbeats 400000 in
theorem stop_any {s : ByteArray} {i z : Nat} {o : Int} (w : World) (hR : Rdr w z s i o) : Calls Tryd.prog 15 #[.pointer (some ⟨z, 0, none⟩)] w fun e w' => e = thr 2 i ∧ w' = w := by
  have c1 := hR.c1
  have HC := hide (fun w => throw_any 2 i w)
  clear hR
  go_enter Tryd.func15, Tryd.ntmps15
  go_wp2_with (refine (unhide HC _).mono ?_; rintro e w ⟨rfl, rfl⟩; unfold thr)
  exact ⟨rfl, rfl, rfl⟩
set_option maxHeartbeats 800000 in
theorem here_any {s : ByteArray} {i z : Nat} {o : Int} (w : World) (_hs : s.size ≤ 65536) (hi : i ≤ s.size) (hR : Rdr w z s i o) : Calls Tryd.prog 27 #[.pointer (some ⟨z, 0, none⟩)] w fun e w' => e = .returned (.int .u8 (bat s i : Int)) ∧ Below w.heap.size w w' := by
  have c0 := hR.c0
  have c1 := hR.c1
  clear hR
  have hd : w.drew.cell? ⟨z, 0, none⟩ = w.cell? ⟨z, 0, none⟩ := rfl
  rcases Nat.lt_or_ge i s.size with h | h
  · have h1 : ((i : Int) == (s.size : Int)) = false := by rw [beq_eq_false_iff_ne]; omega
    have hb := bat_at s i h
    go_enter Tryd.func27, Tryd.ntmps27
    go_wp2_with fail
    go_region
    go_wp2_with fail
    go_region
    go_wp2_with fail
    go_ret
    exact ⟨rfl, ((Below.refl _ _).drew).drew⟩
  · obtain rfl : i = s.size := by omega
    have h1 : ((s.size : Int) == (s.size : Int)) = true := by rw [beq_iff_eq]
    have hb : bat s s.size = 0 := bat_end s _ h
    rw [hb]
    go_enter Tryd.func27, Tryd.ntmps27
    go_wp2_with fail
    go_region
    go_wp2_with fail
    go_ret
    exact ⟨rfl, (Below.refl _ _).drew⟩

def atIn (w : World) (z : Nat) : Nat := match w.cell? ⟨z, 1, none⟩ with | some (.int _ n) => n.toNat | _ => 0
theorem Rdr.at {w : World} {z : Nat} {s : ByteArray} {i : Nat} {o : Int} (h : Rdr w z s i o) : atIn w z = i := by unfold atIn; rw [h.c1]; simp
set_option maxHeartbeats 800000 in
theorem next_any {s : ByteArray} {i z : Nat} {o : Int} (w : World) (hs : s.size ≤ 65536) (hi : i ≤ s.size) (hR : Rdr w z s i o) : Calls Tryd.prog 21 #[.pointer (some ⟨z, 0, none⟩)] w fun e w' => e = .returned (.int .u8 (nx s i : Int)) ∧ But z w w' ∧ Rdr w' z s (sk s i) o := by
  have HR0 := hide hR
  clear hR
  go_enter Tryd.func21, Tryd.ntmps21
  go_wp2_with fail
  go_loopw [] (fun wr => ∃ k : Nat, k ≤ s.size ∧ Hid (Rdr wr z s k o) ∧ Hid (But z w wr) ∧ Hid (sk s i = sk s k)) (fun wr => s.size - atIn wr z)
  case atStart => exact ⟨i, hi, unhide HR0, But.refl _ _, rfl⟩
  case round =>
    obtain ⟨k, hk, HR, HB, HS⟩ := hrel
    have HH := hide (fun w h => here_any (z := z) (o := o) w hs hk h)
    have HM := hide (unhide HR).at
    by_cases h32 : bat s k = 32
    · have hlt : k < s.size := bat_in (by omega)
      have HS2 := hide (show sk s k = sk s (k + 1) from pas_step hlt (decide_eq_true h32))
      rw [h32] at HH
      clear h32
      go_wp2_with fail
      refine (unhide HH _ (unhide HR)).mono ?_
      rintro e w2 ⟨rfl, hb⟩
      have hR2 := (unhide HR).below hb
      have c1 := hR2.c1
      have fz := hR2.fz 1
      have H2 := hide hR2
      have HB2 := hide ((unhide HB).trans (But.of_below hb))
      clear hR2 hb
      go_wp2_with fail
      have HR3 := hide ((unhide H2).set1 (k + 1))
      exact ⟨⟨k + 1, by omega, unhide HR3, (unhide HB2).setCell 1 _, by rw [unhide HS, unhide HS2]; rfl⟩, by have h1 := unhide HM; have h2 := (unhide HR3).at; simp only [Int.natCast_add, Int.cast_ofNat_Int] at h2; rw [h1]; omega⟩
    · have HS2 := hide (sk_same h32)
      have hne : ((bat s k : Int) == 32) = false := by rw [beq_eq_false_iff_ne]; omega
      clear h32
      go_wp2_with fail
      refine (unhide HH _ (unhide HR)).mono ?_
      rintro e w2 ⟨rfl, hb⟩
      have H2 := hide ((unhide HR).below hb)
      have HB2 := hide ((unhide HB).trans (But.of_below hb))
      clear hb
      go_wp2_with fail
      refine (unhide HH _ (unhide H2)).mono ?_
      rintro e w3 ⟨rfl, hb⟩
      have H3 := hide ((unhide H2).below hb)
      have HB3 := hide ((unhide HB2).trans (But.of_below hb))
      clear hb
      go_wp2_with fail
      go_ret
      refine ⟨?_, unhide HB3, ?_⟩
      · unfold nx; rw [unhide HS, unhide HS2]; rfl
      · rw [unhide HS, unhide HS2]; exact unhide H3
set_option maxHeartbeats 800000 in
theorem take_ok {s : ByteArray} {i z : Nat} {o : Int} (c : Nat) (w : World) (hs : s.size ≤ 65536) (hi : i ≤ s.size) (hR : Rdr w z s i o) (hc : nx s i = c) (h0 : c ≠ 0) : Calls Tryd.prog 45 #[.pointer (some ⟨z, 0, none⟩), .int .u8 (c : Int)] w fun e w' => e = .returned (.tuple #[]) ∧ But z w w' ∧ Rdr w' z s (sk s i + 1) o := by
  have HN := hide (next_any w hs hi hR)
  have hlt := nx_in (s := s) (i := i) (by omega)
  subst hc
  generalize hk : sk s i = k at *
  generalize nx s i = c at *
  clear hR hk h0
  go_enter Tryd.func45, Tryd.ntmps45
  go_wp2_with fail
  refine (unhide HN).mono ?_
  rintro e w2 ⟨rfl, hb, hR2⟩
  have c1 := hR2.c1
  have fz := hR2.fz 1
  have H2 := hide hR2
  have HB := hide hb
  clear hb hR2
  go_wp2_with fail
  go_end0
  exact ⟨rfl, (unhide HB).setCell 1 _, (unhide H2).set1 (k + 1)⟩
set_option maxHeartbeats 800000 in
theorem take_bad {s : ByteArray} {i z : Nat} {o : Int} (c : Nat) (w : World) (hs : s.size ≤ 65536) (hi : i ≤ s.size) (hR : Rdr w z s i o) (hc : nx s i ≠ c) : Calls Tryd.prog 45 #[.pointer (some ⟨z, 0, none⟩), .int .u8 (c : Int)] w fun e w' => e = thr 2 (sk s i) ∧ But z w w' := by
  have HN := hide (next_any w hs hi hR)
  have hne : ((nx s i : Int) == (c : Int)) = false := by rw [beq_eq_false_iff_ne]; omega
  clear hR hc
  generalize sk s i = k at *
  generalize nx s i = b at *
  go_enter Tryd.func45, Tryd.ntmps45
  go_wp2_with fail
  refine (unhide HN).mono ?_
  rintro e w2 ⟨rfl, hb, hR2⟩
  have HB := hide hb
  have HS := hide (stop_any w2 hR2)
  clear hb hR2
  go_wp2_with (refine (unhide HS).mono ?_; rintro e w ⟨rfl, rfl⟩; unfold thr)
  exact ⟨rfl, rfl, unhide HB⟩

/-- What a function of the reader leaves: what it has read, or what it throws. -/
def RdPost {α : Type} (V : α → Ending → World → Prop) (z : Nat) (s : ByteArray) (o : Int) (w : World) (R : Rd α) (e : Ending) (w' : World) : Prop :=
  But z w w' ∧ (match R with | .ok x => V x.1 e w' ∧ Rdr w' z s x.2 o | .error x => e = thr x.1 x.2)
section
variable {α : Type} {V : α → Ending → World → Prop} {z : Nat} {s : ByteArray} {o : Int} {w w' : World} {R : Rd α} {e : Ending}
theorem post_ok {a : α} {j : Nat} (h : R = .ok (a, j)) (hb : But z w w') (hv : V a e w') (hr : Rdr w' z s j o) : RdPost V z s o w R e w' := by subst h; exact ⟨hb, hv, hr⟩
theorem post_err {er : Int} {i : Nat} (h : R = .error (er, i)) (hb : But z w w') (he : e = thr er i) : RdPost V z s o w R e w' := by subst h; exact ⟨hb, he⟩
theorem of_ok {a : α} {j : Nat} (h : RdPost V z s o w R e w') (hr : R = .ok (a, j)) : But z w w' ∧ V a e w' ∧ Rdr w' z s j o := by subst hr; exact ⟨h.1, h.2.1, h.2.2⟩
theorem of_err {er : Int} {i : Nat} (h : RdPost V z s o w R e w') (hr : R = .error (er, i)) : But z w w' ∧ e = thr er i := by subst hr; exact h
end
def strV (t : ByteArray) (e : Ending) (_ : World) : Prop := e = .returned (.string t)
def numV (n : Nat) (e : Ending) (_ : World) : Prop := e = .returned (.int .i64 (n : Int))
def patV (p : PT) (e : Ending) (w : World) : Prop := ∃ U : PT, e = .returned (pv U) ∧ U.can = p ∧ U.In w
end Go.Proofs.YtimbfelbalfmiaaDoor
