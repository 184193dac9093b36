/- The reader of patterns: what stands in brackets. The reader of lines, in memory: its small functions. -/
import Derived.Test.YtpkmamgleofimaaGreatDoorRdRowM
import Derived.Test.YtpkmamgleofimaaGreatDoorLxWalkAM
import Derived.Test.YtpkmamgleofimaaGreatDoorRdAM
import Derived.Test.YtpkmamgleofimaaGreatDoorCkBM
namespace Go.Proofs.YtpkmamgleofimaaGreatDoor
open Go.RowKit

theorem Shapes.but {w w' : World} {z : Nat} (h : Shapes w) (hb : But z w w') (hz : z ≠ 4) : Shapes w' := fun K h1 h2 => by
  obtain ⟨a, b, c, d⟩ := h K h1 h2
  have hg : w'.heap[4]? = w.heap[4]? := hb.block _ (by
    unfold World.cell? at a
    rcases Nat.lt_or_ge 4 w.heap.size with q | q
    · exact q
    · rw [Array.getElem?_eq_none q] at a; cases a) (fun e => hz e.symm)
  have key : ∀ o, w'.cell? ⟨4, o, none⟩ = w.cell? ⟨4, o, none⟩ := fun o => by
    unfold World.cell?
    rw [hg]
  exact ⟨(key _).trans a, (key _).trans b, (key _).trans c, (key _).trans d⟩
def Says (f : FuncId) (d : Nat) (P : ByteArray → Nat → Rd PT) : Prop := ∀ (s : ByteArray) (i z : Nat) (w : World), s.size ≤ 65536 → i ≤ s.size → Rdr w z s i ((200 - d : Nat) : Int) → Shapes w → z ≠ 4 →
  Calls Tryz.prog f #[.pointer (some ⟨z, 0, none⟩)] w fun e w' => RdPost (patL w.heap.size) z s ((200 - d : Nat) : Int) w (P s i) e w'
theorem Rdr.set2q {w : World} {z : Nat} {s : ByteArray} {i : Nat} {o : Int} (h : Rdr w z s i o) {p q : Int} (hq : p = q) : Rdr (w.setCell ⟨z, 2, none⟩ (.int .i64 p)) z s i q := by subst hq; exact h.set2 p
theorem zbox {w : World} : (w.alloc (.cells zeroP 45)).heap[w.heap.size]? = some (.cells zeroP 45 (0, 0)) := at_new rfl
theorem but_z {w w' : World} {z k : Nat} {x : Obj} (h : But z w w') (hk : w.heap[k]? = some x) (hz : k ≠ z) : w'.heap[k]? = some x := h.row hz hk
theorem but_setRow {w W : World} {z g : Nat} (h : But z w W) (hg : w.heap.size ≤ g) (cs : Array Value) : But z w (W.setRow g cs) :=
  ⟨h.os, h.tape, h.output, by simpa using h.size, fun k hk hz => (setRow_other W g k cs (by omega)).trans (h.block k hk hz)⟩
theorem Rdr.setRow {w : World} {z g : Nat} {s : ByteArray} {i : Nat} {o : Int} (h : Rdr w z s i o) (hg : g ≠ z) (cs : Array Value) : Rdr (w.setRow g cs) z s i o := (setRow_other w g z cs (fun e => hg e.symm)).trans h
theorem takP_ok {s : ByteArray} {c i : Nat} (h : nx s i = c) : takP s c i = .ok ((), sk s i + 1) := if_pos h
theorem takP_no {s : ByteArray} {c i : Nat} (h : nx s i ≠ c) : takP s c i = .error (2, sk s i) := if_neg h
set_option maxRecDepth 100000 in
set_option maxHeartbeats 4000000 in
theorem bracketed_any {d : Nat} (hd : d ≤ 200) {B : ByteArray → Nat → Rd PT} (hB : ∀ s, Adv s (B s)) (HA : 0 < d → Says 121 (d - 1) B) : Says 143 d (fun s => parP d (B s) s) := by
  intro s i z w hs hi hR hS hzG
  have hzl := hR.lt
  have hb0 : But z w (w.alloc (.cells zeroP 45)) := (But.refl z w).alloc _
  have hR0 := hR.below ((Below.refl _ _).alloc (Nat.le_refl _) (.cells zeroP 45))
  have hbox : (w.alloc (.cells zeroP 45)).heap[w.heap.size]? = some (.cells zeroP 45 (0, 0)) := zbox
  have hne : w.heap.size ≠ z := by omega
  have HS0 := hide (hS.but hb0 hzG)
  have HB0 := hide hb0
  have HX0 := hide hbox
  show Calls _ _ _ _ fun e w' => RdPost (patL w.heap.size) z s ((200 - d : Nat) : Int) w (parP d (B s) s i) e w'
  unfold parP
  by_cases h1 : nx s i = 40
  · rw [takP_ok h1, bnd_ok]
    have HT := hide (take_ok 40 _ hs hi hR0 h1 (by decide))
    have hlt := nx_in (s := s) (i := i) (by omega)
    generalize sk s i = j at *
    clear h1 hR hR0 hS hb0 hbox
    by_cases hd0 : d = 0
    · subst hd0
      rw [if_pos rfl]
      have HTH := hide (fun w => throw_any 4 (j + 1) w)
      go_enter Tryz.func143, Tryz.ntmps143
      go_wp2_with fail
      refine (unhide HT).mono ?_
      rintro e w1 ⟨rfl, hb1, hR1⟩
      have c1 := hR1.c1
      have c2 := hR1.c2
      have HB1 := hide ((unhide HB0).trans hb1)
      clear hb1 hR1
      go_wp2_with (refine (unhide HTH _).mono ?_; rintro e w ⟨rfl, rfl⟩; unfold thr)
      exact ⟨rfl, post_err rfl (unhide HB1) rfl⟩
    · rw [if_neg hd0]
      have HAd := hide (HA (by omega) s (j + 1) z)
      have hdd : ((200 - d : Nat) : Int) ≠ 200 := by omega
      have hop : ((200 - d : Nat) : Int) + 1 = ((200 - (d - 1) : Nat) : Int) := by omega
      have hne2 : (((200 - d : Nat) : Int) == 200) = false := bn hdd
      have ho1 : (0 : Int) ≤ ((200 - d : Nat) : Int) ∧ ((200 - d : Nat) : Int) ≤ 200 := by omega
      have HADV := hide (hB s (j + 1))
      have HOP := hide hop
      clear hdd HA hop
      generalize ((200 - (d - 1) : Nat) : Int) = o1 at *
      generalize ((200 - d : Nat) : Int) = o at *
      obtain ⟨R, hR0⟩ : ∃ R, B s (j + 1) = R := ⟨_, rfl⟩
      rw [hR0] at HAd HADV ⊢
      clear hR0
      rcases R with ⟨er, at'⟩ | ⟨p, k⟩
      · rw [bnd_err]
        go_enter Tryz.func143, Tryz.ntmps143
        go_wp2_with fail
        refine (unhide HT).mono ?_
        rintro e w1 ⟨rfl, hb1, hR1⟩
        have c1 := hR1.c1
        have c2 := hR1.c2
        have fz := hR1.fz 2
        have HB1 := hide ((unhide HB0).trans hb1)
        have H1 := hide hR1
        have HS1 := hide ((unhide HS0).but hb1 hzG)
        clear hb1 hR1
        go_wp2_with (refine (unhide HAd _ hs (by omega) ((unhide H1).set2q (unhide HOP)) ((unhide HS1).but ((But.refl z w1).setCell 2 _) hzG) hzG).mono ?_; intro e w3 hP; obtain ⟨hb3, rfl⟩ := of_err hP rfl; clear hP; have HB3 := hide ((unhide HB1).trans (((But.refl z w1).setCell 2 _).trans hb3)); clear hb3; unfold thr)
        exact ⟨rfl, post_err rfl (unhide HB3) rfl⟩
      · rw [bnd_ok]
        have hadv := unhide HADV p k (by omega) rfl
        go_enter Tryz.func143, Tryz.ntmps143
        go_wp2_with fail
        refine (unhide HT).mono ?_
        rintro e w1 ⟨rfl, hb1, hR1⟩
        have c1 := hR1.c1
        have c2 := hR1.c2
        have fz := hR1.fz 2
        have HB1 := hide ((unhide HB0).trans hb1)
        have H1 := hide hR1
        have HS1 := hide ((unhide HS0).but hb1 hzG)
        have HX1 := hide ((unhide HX0 |> fun h => but_z hb1 h hne))
        clear hb1 hR1
        go_wp2_with fail
        refine (unhide HAd _ hs (by omega) ((unhide H1).set2q (unhide HOP)) ((unhide HS1).but ((But.refl z w1).setCell 2 _) hzG) hzG).mono ?_
        intro e w3 hP
        obtain ⟨hb3, ⟨U, rfl, hU, hL⟩, hR3⟩ := of_ok hP rfl
        unfold pv
        have hs1 : w.heap.size + 1 ≤ w1.heap.size := by
          have h := (unhide HX1)
          exact (Array.getElem?_eq_some_iff.1 h).1
        rw [show (w1.setCell ⟨z, 2, none⟩ (.int .i64 (o + 1))).heap.size = w1.heap.size by simp] at hL
        have hs3 : w1.heap.size ≤ w3.heap.size := by have := hb3.size; simpa using this
        have HB3 := hide ((unhide HB1).trans (((But.refl z w1).setCell 2 _).trans hb3))
        have HX3 := hide (but_z (((But.refl z w1).setCell 2 (.int .i64 (o + 1))).trans hb3) (unhide HX1) hne)
        have HL3 := hide hL
        have HU := hide hU
        have hb4 : Below w3.heap.size w3 (w3.alloc (.cells #[.int .i64 U.k, .string U.t, .int .i64 U.n, .string U.nm, .slice U.xa U.len U.cap] 45)) := ba _
        have hn3 : ¬ w3.heap.size = z := by omega
        have hn4 : ¬ z = w3.heap.size := by omega
        by_cases h2 : nx s k = 41
        · have HRR : Hid ((bnd (takP s 41 k) fun _ m => (.ok (p, m) : Rd PT)) = .ok (p, sk s k + 1)) := hide (by rw [takP_ok h2, bnd_ok])
          have HT2 := hide (take_ok 41 _ hs hadv.2 (hR3.below hb4) h2 (by decide))
          have hlt2 := nx_in (s := s) (i := k) (by omega)
          have HG4 : Hid ((w3.alloc (.cells #[.int .i64 U.k, .string U.t, .int .i64 U.n, .string U.nm, .slice U.xa U.len U.cap] 45)).heap[w3.heap.size]? = some (.cells #[.int .i64 U.k, .string U.t, .int .i64 U.n, .string U.nm, .slice U.xa U.len U.cap] 45 (0, 0))) := hide (at_new rfl)
          have HB4 := hide ((unhide HB3).trans (But.of_below hb4))
          have HL4 := hide ((unhide HL3).below hb4)
          have HX4 := hide (row_below (unhide HX3) hb4)
          clear hb3 hR3 hU hL hP hb4 c1 c2 fz HX3 HL3 h2
          generalize sk s k = m at *
          go_wp2_with fail
          refine (unhide HT2).mono ?_
          rintro e w5 ⟨rfl, hb5, hR5⟩
          have HG5 := hide (but_z hb5 (unhide HG4) (by omega))
          have HX5 := hide (but_z hb5 (unhide HX4) hne)
          have HB5 := hide ((unhide HB4).trans hb5)
          have HL5 := hide ((unhide HL4).but hb5 (by omega))
          have c2 := hR5.c2
          have fz := hR5.fz 2
          have H5 := hide hR5
          obtain ⟨g0, g1, g2, g3, g4⟩ := pats5s (unhide HG5)
          have hom : o1 - 1 = o := by have := unhide HOP; omega
          have HOM := hide hom
          have ho2 : (1 : Int) ≤ o1 ∧ o1 ≤ 201 := by have := unhide HOP; omega
          have HX6 : Hid ((w5.setCell ⟨z, 2, none⟩ (.int .i64 (o1 - 1))).heap[w.heap.size]? = some (.cells zeroP 45 (0, 0))) := hide ((heap_setCell_other w5 ⟨z, 2, none⟩ w.heap.size _ hne).trans (unhide HX5))
          clear hb5 hR5 hom
          go_wp2_with (first
            | (refine wpList_store_row rfl 45 _ _ rfl w.heap.size (patO U) rfl rfl 45 zeroP (unhide HX6) size_pat rfl (patO_oneC U) ?_)
            | fail)
          (try simp only [Exit.inBlock, Exit.then])
          refine bodyPost_ret (results_cell_row rfl _ _ w.heap.size 45 (patO U) (0, 0) _ rfl (setRow_heap _ _ _ _ _ _ (unhide HX6)) Tryz.underlying45 rfl size_pat) rfl ?_
          exact post_ok (unhide HRR) (but_setRow ((unhide HB5).setCell 2 _) (Nat.le_refl _) _) ⟨U, rfl, unhide HU, ((((unhide HL5).but ((But.refl z w5).setCell 2 _) (by omega)).setRow (by omega) _).mono (by omega))⟩ (((unhide H5).set2q (unhide HOM)).setRow hne _)
        · have HRR : Hid ((bnd (takP s 41 k) fun _ m => (.ok (p, m) : Rd PT)) = .error (2, sk s k)) := hide (by rw [takP_no h2, bnd_err])
          have HT2 := hide (take_bad 41 _ hs hadv.2 (hR3.below hb4) h2)
          have HB4 := hide ((unhide HB3).trans (But.of_below hb4))
          clear hb3 hR3 hU hL hP hb4 c1 c2 fz HX3 HL3 h2
          generalize sk s k = m at *
          go_wp2_with (refine (unhide HT2).mono ?_; rintro e w5 ⟨rfl, hb5⟩; have HB5 := hide ((unhide HB4).trans hb5); clear hb5; unfold thr)
          exact ⟨rfl, post_err (unhide HRR) (unhide HB5) rfl⟩
  · rw [takP_no h1, bnd_err]
    have HT := hide (take_bad 40 _ hs hi hR0 h1)
    clear h1 hR hR0 hS hb0 hbox HA
    go_enter Tryz.func143, Tryz.ntmps143
    go_wp2_with (refine (unhide HT).mono ?_; rintro e w5 ⟨rfl, hb5⟩; have HB5 := hide ((unhide HB0).trans hb5); clear hb5; unfold thr)
    exact ⟨rfl, post_err rfl (unhide HB5) rfl⟩
end Go.Proofs.YtpkmamgleofimaaGreatDoor

namespace Go.Proofs.YtpkmamgleofimaaGreatDoor
open Go.RowKit

def TkAt (w : World) (g o : Nat) (l : List Tk) : Prop := ∀ (i : Nat) (t : Tk), l[i]? = some t → w.cell? ⟨g, o + i * 3, none⟩ = some (.int .i64 (t.k : Int)) ∧ w.cell? ⟨g, o + i * 3 + 1, none⟩ = some (.string t.t) ∧ w.cell? ⟨g, o + i * 3 + 2, none⟩ = some (.int .i64 (t.a : Int))
def TkS (t : Tk) : Prop := t.k ≤ 5 ∧ t.t.size ≤ 2000 ∧ t.a ≤ 2000 ∧ (t.k = 2 → t.t.size ≠ 0 ∧ ∀ b ∈ t.t.data.toList, 48 ≤ b.toNat ∧ b.toNat ≤ 57)
structure SyC where
  z : Nat
  E : Nat
  g : Nat
  bb : Nat
  n : Nat
def btwF (t : ByteArray) : Option Int := if btw t = 0 then none else some (btw t : Int)
structure Syr (C : SyC) (w : World) (l : List Tk) (o : Nat) : Prop where
  blk : ∃ xa cap off, w.heap[C.z]? = some (.cells #[.slice xa l.length cap, .int .i64 (C.E : Int), .int .i64 (o : Int), .map (some C.bb)] 81 (0, 0)) ∧ l.length ≤ cap ∧ cap ≤ maxLen ∧ (l ≠ [] → xa = some ⟨C.g, off, none⟩) ∧ TkAt w C.g off l
  map : MI w C.bb C.n btwF
  gl : C.g < w.heap.size
  ng : C.g ≠ C.z
  nb : C.bb ≠ C.z
  sm : ∀ t ∈ l, TkS t
  en : C.E ≤ 2000
def tokV (t : Tk) : Value := .agg #[.int .i64 (t.k : Int), .string t.t, .int .i64 (t.a : Int)]
section
variable {C : SyC} {w w' : World} {l : List Tk} {o : Nat}
theorem Syr.lt (h : Syr C w l o) : C.z < w.heap.size := by obtain ⟨xa, cap, off, h1, -⟩ := h.blk; exact (Array.getElem?_eq_some_iff.1 h1).1
theorem Syr.cap (h : Syr C w l o) : l.length ≤ maxLen := by obtain ⟨xa, cap, off, -, h2, h3, -⟩ := h.blk; omega
theorem Syr.glt (h : Syr C w l o) (_ : l ≠ []) : C.g < w.heap.size := h.gl
theorem TkAt.same {g o : Nat} (h : TkAt w g o l) (hs : w'.heap[g]? = w.heap[g]?) : TkAt w' g o l := fun i t ht => by
  have k : ∀ o, w'.cell? ⟨g, o, none⟩ = w.cell? ⟨g, o, none⟩ := fun o => by unfold World.cell?; rw [hs]
  rw [k, k, k]; exact h i t ht
theorem lt_same {g : Nat} (h : g < w.heap.size) (hs : w'.heap[g]? = w.heap[g]?) : g < w'.heap.size := by
  rw [Array.getElem?_eq_getElem h] at hs
  exact (Array.getElem?_eq_some_iff.1 hs).1
theorem Syr.same (h : Syr C w l o) (hz : w'.heap[C.z]? = w.heap[C.z]?) (hg : w'.heap[C.g]? = w.heap[C.g]?) (hb : w'.heap[C.bb]? = w.heap[C.bb]?) : Syr C w' l o := by
  obtain ⟨xa, cap, off, h1, h2, h3, h4, h5⟩ := h.blk
  exact ⟨⟨xa, cap, off, hz.trans h1, h2, h3, h4, h5.same hg⟩, h.map.below hb, lt_same h.gl hg, h.ng, h.nb, h.sm, h.en⟩
theorem Syr.below (h : Syr C w l o) (hb : Below w.heap.size w w') : Syr C w' l o := h.same (hb.block _ h.lt) (hb.block _ h.gl) (hb.block _ h.map.lt)
theorem Syr.old {B : Nat} {v : World} {l0 : List Tk} {o0 : Nat} (h : Syr C w l o) (h0 : Syr C v l0 o0) (hB : v.heap.size = B) (hb : ∀ k, k < B → w'.heap[k]? = w.heap[k]?) : Syr C w' l o := h.same (hb _ (hB ▸ h0.lt)) (hb _ (hB ▸ h0.gl)) (hb _ (hB ▸ h0.map.lt))
theorem Syr.put (h : Syr C w l o) {l' : List Tk} {o' : Nat} {xa : Option Addr} {cap off : Nat} (hb : But C.z w w') (hsm : ∀ t ∈ l', t ∈ l)
    (h1 : w'.heap[C.z]? = some (.cells #[.slice xa l'.length cap, .int .i64 (C.E : Int), .int .i64 (o' : Int), .map (some C.bb)] 81 (0, 0))) (h2 : l'.length ≤ cap) (h3 : cap ≤ maxLen) (h4 : l' ≠ [] → xa = some ⟨C.g, off, none⟩) (h5 : TkAt w C.g off l') : Syr C w' l' o' :=
  ⟨⟨xa, cap, off, h1, h2, h3, h4, h5.same (hb.block _ h.gl h.ng)⟩, h.map.below (hb.block _ h.map.lt h.nb), lt_same h.gl (hb.block _ h.gl h.ng), h.ng, h.nb, fun t ht => h.sm t (hsm t ht), h.en⟩
theorem ahd_sm (h : Syr C w l o) (n : Nat) : TkS (ahd C.E n l) := by
  unfold ahd
  cases hq : l[n]? with
  | none => exact ⟨Nat.zero_le _, (by decide : ByteArray.empty.size ≤ 2000), h.en, fun q => absurd (show (0 : Nat) = 2 from q) (by decide)⟩
  | some t => exact h.sm t (List.mem_of_getElem? hq)
end
set_option maxHeartbeats 400000 in
theorem sthrow_any (er : Int) (i : Nat) (w : World) : Calls Tryz.prog 65 #[.int .i64 er, .int .i64 (i : Int)] w fun e w' => e = thr er i ∧ w' = w := by
  go_enter Tryz.func65, Tryz.ntmps65
  go_wp2
  exact ⟨rfl, rfl, rfl⟩
theorem idx3 {g o n cap i : Nat} (hi : i < n) (w : World) : (Instr.indexAt 62 (.slice (some ⟨g, o, none⟩) n cap) (.int .i64 (i : Int))).run Tryz.prog w = .ok (.pointer (some ⟨g, o + i * 3, none⟩)) w := by
  have h0 : (0 : Int) ≤ (i : Int) ∧ (i : Int) < (n : Int) := by omega
  have hs := size_tok
  cases hq : Tryz.prog.info? 78 with
  | none => simp [hq] at hs
  | some x =>
    have hz : x.size = 3 := by simpa [hq] using hs
    simp [Instr.indexAt, asIntOf, run_underlying Tryz.underlying62, h0, sizeOf, typeInfo, hq, hz, Addr.add_lit]
    intro h
    omega
theorem tok_box {w : World} : (w.alloc (.cells zeroT 78)).heap[w.heap.size]? = some (.cells zeroT 78 (0, 0)) := at_new rfl
set_option maxRecDepth 100000 in
set_option maxHeartbeats 2000000 in
theorem sahead_any {C : SyC} {l : List Tk} {o : Nat} (n : Nat) (w : World) (hR : Syr C w l o) (_hn : n ≤ 1) : Calls Tryz.prog 67 #[.pointer (some ⟨C.z, 0, none⟩), .int .i64 (n : Int)] w fun e w' => e = .returned (tokV (ahd C.E n l)) ∧ Below w.heap.size w w' := by
  have hb0 : Below w.heap.size w (w.alloc (.cells zeroT 78)) := ba _
  have hzl := hR.lt
  have hcm := hR.cap
  have hen := hR.en
  unfold maxLen at hcm
  rcases Nat.lt_or_ge n l.length with h | h
  · obtain ⟨t, ht⟩ : ∃ t, l[n]? = some t := ⟨l[n], List.getElem?_eq_getElem _⟩
    have hgl := hR.glt (fun e => by rw [e] at h; simp at h)
    obtain ⟨xa, cap, off, h1, h2, h3, h4, h5⟩ := hR.blk
    have hxa := h4 (fun e => by rw [e] at h; simp at h)
    subst hxa
    obtain ⟨t0, t1, t2⟩ := h5 n t ht
    have c0 : w.cell? ⟨C.z, 0, none⟩ = some (.slice (some ⟨C.g, off, none⟩) l.length cap) := cr h1
    have hix := fun W => idx3 (g := C.g) (o := off) (cap := cap) (n := l.length) (i := n) h W
    have HE : Hid (ahd C.E n l = t) := hide (by unfold ahd; rw [ht]; rfl)
    have q0 : ¬ (l.length : Int) ≤ (n : Int) := by omega
    have HB := hide hb0
    clear hR h1 h4 h5 ht hb0
    go_enter Tryz.func67, Tryz.ntmps67
    go_wp2_with (first
      | (refine wpList_store_row rfl 78 _ _ rfl w.heap.size #[.int .i64 (t.k : Int), .string t.t, .int .i64 (t.a : Int)] rfl rfl 78 zeroT tok_box size_tok rfl (by simp [Value.oneCell']) ?_)
      | fail)
    (try simp only [Exit.inBlock, Exit.then])
    refine bodyPost_ret (results_cell_row rfl _ _ w.heap.size 78 #[.int .i64 (t.k : Int), .string t.t, .int .i64 (t.a : Int)] (0, 0) _ rfl (setRow_heap _ _ _ _ _ _ tok_box) Tryz.underlying78 rfl size_tok) rfl ?_
    exact ⟨by rw [unhide HE]; rfl, below_setRow (unhide HB) _ (Nat.le_refl _) _⟩
  · obtain ⟨xa, cap, off, h1, h2, h3, h4, h5⟩ := hR.blk
    have c0 : w.cell? ⟨C.z, 0, none⟩ = some (.slice xa l.length cap) := cr h1
    have c1 : w.cell? ⟨C.z, 1, none⟩ = some (.int .i64 (C.E : Int)) := cr h1
    have HE : Hid (ahd C.E n l = ⟨0, ByteArray.empty, C.E⟩) := hide (by unfold ahd; rw [List.getElem?_eq_none h]; rfl)
    have q0 : (l.length : Int) ≤ (n : Int) := by omega
    have HB := hide hb0
    clear hR h1 h4 h5 hb0
    go_enter Tryz.func67, Tryz.ntmps67
    go_wp2_with (first
      | (refine wpList_store_row rfl 78 _ _ rfl w.heap.size #[.int .i64 0, .string ⟨#[]⟩, .int .i64 (C.E : Int)] rfl rfl 78 zeroT tok_box size_tok rfl (by simp [Value.oneCell']) ?_)
      | fail)
    (try simp only [Exit.inBlock, Exit.then])
    refine bodyPost_ret (results_cell_row rfl _ _ w.heap.size 78 #[.int .i64 0, .string ⟨#[]⟩, .int .i64 (C.E : Int)] (0, 0) _ rfl (setRow_heap _ _ _ _ _ _ tok_box) Tryz.underlying78 rfl size_tok) rfl ?_
    exact ⟨by rw [unhide HE]; rfl, below_setRow (unhide HB) _ (Nat.le_refl _) _⟩
set_option maxRecDepth 100000 in
set_option maxHeartbeats 2000000 in
theorem stoken_any {C : SyC} {l : List Tk} {o : Nat} (w : World) (hR : Syr C w l o) : Calls Tryz.prog 63 #[.pointer (some ⟨C.z, 0, none⟩)] w fun e w' => e = .returned (tokV (ahd C.E 0 l)) ∧ Below w.heap.size w w' := by
  have hb0 : Below w.heap.size w (w.alloc (.cells zeroT 78)) := ba _
  have HA := hide (sahead_any 0 _ (hR.below hb0) (by decide))
  have HB := hide hb0
  generalize ahd C.E 0 l = t at *
  clear hR hb0
  go_enter Tryz.func63, Tryz.ntmps63
  go_wp2_with fail
  refine (unhide HA).mono ?_
  rintro e w2 ⟨rfl, hb2⟩
  have hbx := row_below tok_box hb2
  have HB2 := hide (bnext (unhide HB) hb2)
  have HX := hide hbx
  clear hb2 hbx
  unfold tokV
  go_wp2_with (first
    | (refine wpList_store_row rfl 78 _ _ rfl w.heap.size #[.int .i64 (t.k : Int), .string t.t, .int .i64 (t.a : Int)] rfl rfl 78 zeroT (unhide HX) size_tok rfl (by simp [Value.oneCell']) ?_)
    | fail)
  (try simp only [Exit.inBlock, Exit.then])
  refine bodyPost_ret (results_cell_row rfl _ _ w.heap.size 78 #[.int .i64 (t.k : Int), .string t.t, .int .i64 (t.a : Int)] (0, 0) _ rfl (setRow_heap _ _ _ _ _ _ (unhide HX)) Tryz.underlying78 rfl size_tok) rfl ?_
  exact ⟨rfl, below_setRow (unhide HB2) _ (Nat.le_refl _) _⟩
set_option maxRecDepth 100000 in
set_option maxHeartbeats 800000 in
theorem sat_any {C : SyC} {l : List Tk} {o : Nat} (w : World) (hR : Syr C w l o) : Calls Tryz.prog 76 #[.pointer (some ⟨C.z, 0, none⟩)] w fun e w' => e = .returned (.int .i64 ((ahd C.E 0 l).a : Int)) ∧ Below w.heap.size w w' := by
  have HA := hide (stoken_any w hR)
  generalize ahd C.E 0 l = t at *
  clear hR
  have hfd : ∀ w : World, (Instr.field 78 (.agg #[.int .i64 (t.k : Int), .string t.t, .int .i64 (t.a : Int)]) 2).run Tryz.prog w = .ok (.int .i64 (t.a : Int)) w := fun _ => by kernel_rfl
  unfold tokV at HA
  go_enter Tryz.func76, Tryz.ntmps76
  go_wp2_with fail
  refine (unhide HA).mono ?_
  rintro e w2 ⟨rfl, hb2⟩
  go_wp2_with fail
  go_ret
  exact ⟨rfl, hb2⟩
set_option maxRecDepth 100000 in
set_option maxHeartbeats 800000 in
theorem sstop_any {C : SyC} {l : List Tk} {o : Nat} (w : World) (hR : Syr C w l o) : Calls Tryz.prog 38 #[.pointer (some ⟨C.z, 0, none⟩)] w fun e w' => e = thr 2 (ahd C.E 0 l).a ∧ Below w.heap.size w w' := by
  have HA := hide (sat_any w hR)
  have HC := hide (fun w => sthrow_any 2 (ahd C.E 0 l).a w)
  generalize (ahd C.E 0 l).a = a at *
  clear hR
  go_enter Tryz.func38, Tryz.ntmps38
  go_wp2_with fail
  refine (unhide HA).mono ?_
  rintro e w2 ⟨rfl, hb2⟩
  go_wp2_with (refine (unhide HC _).mono ?_; rintro e w ⟨rfl, rfl⟩; unfold thr)
  exact ⟨rfl, rfl, hb2⟩
def cut3 (off cap : Nat) : Nat := if cap = 1 then off else off + 3
theorem slice_tok (g off n cap : Nat) (w : World) :
    (Instr.sliceAt 62 (.slice (some ⟨g, off, none⟩) (n + 1) cap) (some (.int .i64 1)) none none).run Tryz.prog w = .ok (.slice (some ⟨g, cut3 off cap, none⟩) n (cap - 1)) w := by
  have hs := size_tok
  cases hq : Tryz.prog.info? 78 with
  | none => simp [hq] at hs
  | some i =>
    have hz : i.size = 3 := by simpa [hq] using hs
    have h1 : (1 : Int) ≤ ((n + 1 : Nat) : Int) := by omega
    have he : Tryz.prog.underlying 62 = some (.slice (Tryz.prog.elem 62)) := by kernel_rfl
    have he2 : Tryz.prog.elem 62 = 78 := by kernel_rfl
    rw [run_sliceAt_slice _ _ _ _ _ _ he, run_slice_l _ _ _ _ _ he .i64 1 (by omega) h1, he2]
    simp only [sizeOf, typeInfo, sliced]
    unfold cut3
    by_cases hc1 : cap = 1
    · simp [hc1, hq, hz]
    · have : ¬ cap = Int.toNat 1 := by simpa using hc1
      simp [hc1, hq, hz, Addr.add_lit]
set_option maxRecDepth 100000 in
set_option maxHeartbeats 2000000 in
/-- It goes behind the next token. -/
theorem spass_any {C : SyC} {l : List Tk} {o : Nat} (w : World) (hR : Syr C w l o) (hl : l ≠ []) : Calls Tryz.prog 66 #[.pointer (some ⟨C.z, 0, none⟩)] w fun e w' => e = .returned (.tuple #[]) ∧ But C.z w w' ∧ Syr C w' l.tail o := by
  obtain ⟨xa, cap, off, h1, h2, h3, h4, h5⟩ := hR.blk
  have hxa := h4 hl
  subst hxa
  obtain ⟨t, r, rfl⟩ : ∃ t r, l = t :: r := by cases l with | nil => exact absurd rfl hl | cons t r => exact ⟨t, r, rfl⟩
  rw [List.length_cons] at h2
  have c0 : w.cell? ⟨C.z, 0, none⟩ = some (.slice (some ⟨C.g, off, none⟩) (r.length + 1) cap) := cr h1
  have fz := frozen_of_row w C.z 0 _ _ h1
  have hsl := fun W => slice_tok C.g off r.length cap W
  have HZ := hide (show Syr C (w.setCell ⟨C.z, 0, none⟩ (.slice (some ⟨C.g, cut3 off cap, none⟩) r.length (cap - 1))) r o from
    hR.put ((But.refl _ _).setCell 0 _) (fun t ht => List.mem_cons_of_mem _ ht) (heap_setCell_same w C.z 0 _ _ _ h1) (by omega) (by omega) (fun _ => rfl) (fun i t ht => by
      have hc : ¬ cap = 1 := fun e => by have := (List.getElem?_eq_some_iff.1 ht).1; omega
      have := h5 (i + 1) t (by simpa using ht)
      unfold cut3
      rw [if_neg hc, show off + 3 + i * 3 = off + (i + 1) * 3 by omega]
      exact this))
  have HB : Hid (But C.z w (w.setCell ⟨C.z, 0, none⟩ (.slice (some ⟨C.g, cut3 off cap, none⟩) r.length (cap - 1)))) := hide ((But.refl _ _).setCell 0 _)
  clear hR h1 h4 h5 hl
  generalize cut3 off cap = off2 at *
  go_enter Tryz.func66, Tryz.ntmps66
  go_wp2_with fail
  go_end0
  exact ⟨rfl, unhide HB, unhide HZ⟩
theorem eqT (a b : ByteArray) : (a.toList == b.toList) = decide (a = b) := by
  by_cases h : a = b
  · subst h; simp
  · rw [decide_eq_false h, beq_eq_false_iff_ne]
    intro k
    rw [ByteArray.toList_eq, ByteArray.toList_eq] at k
    exact h (ByteArray.ext (Array.toList_inj.1 k))
set_option maxRecDepth 100000 in
set_option maxHeartbeats 800000 in
theorem isSign_any (t : Tk) (s : ByteArray) (w : World) : Calls Tryz.prog 68 #[tokV t, .string s] w fun e w' => e = .returned (.bool (isS t s)) ∧ Below w.heap.size w w' := by
  have HB : Hid (Below w.heap.size w (w.alloc (.cells #[.int .i64 (t.k : Int), .string t.t, .int .i64 (t.a : Int)] 78))) := hide (ba _)
  unfold tokV
  by_cases h5 : t.k = 5
  · have q : ((t.k : Int) == 5) = true := bt
    have HE : Hid (isS t s = (t.t.toList == s.toList)) := hide (by unfold isS; rw [decide_eq_true h5, Bool.true_and, eqT])
    clear h5
    go_enter Tryz.func68, Tryz.ntmps68
    go_wp2_with fail
    go_ret
    exact ⟨by rw [unhide HE]; rfl, unhide HB⟩
  · have q : ((t.k : Int) == 5) = false := bn
    have HE : Hid (isS t s = false) := hide (by unfold isS; rw [decide_eq_false h5, Bool.false_and])
    clear h5
    go_enter Tryz.func68, Tryz.ntmps68
    go_wp2_with fail
    go_ret
    exact ⟨by rw [unhide HE]; rfl, unhide HB⟩
set_option maxRecDepth 100000 in
set_option maxHeartbeats 800000 in
theorem isWord_any (t : Tk) (s : ByteArray) (w : World) : Calls Tryz.prog 69 #[tokV t, .string s] w fun e w' => e = .returned (.bool (isW t s)) ∧ Below w.heap.size w w' := by
  have HB : Hid (Below w.heap.size w (w.alloc (.cells #[.int .i64 (t.k : Int), .string t.t, .int .i64 (t.a : Int)] 78))) := hide (ba _)
  unfold tokV
  by_cases h5 : t.k = 1
  · have q : ((t.k : Int) == 1) = true := bt
    have HE : Hid (isW t s = (t.t.toList == s.toList)) := hide (by unfold isW; rw [decide_eq_true h5, Bool.true_and, eqT])
    clear h5
    go_enter Tryz.func69, Tryz.ntmps69
    go_wp2_with fail
    go_ret
    exact ⟨by rw [unhide HE]; rfl, unhide HB⟩
  · have q : ((t.k : Int) == 1) = false := bn
    have HE : Hid (isW t s = false) := hide (by unfold isW; rw [decide_eq_false h5, Bool.false_and])
    clear h5
    go_enter Tryz.func69, Tryz.ntmps69
    go_wp2_with fail
    go_ret
    exact ⟨by rw [unhide HE]; rfl, unhide HB⟩
theorem isS_ne {E : Nat} {l : List Tk} {s : ByteArray} (h : isS (ahd E 0 l) s = true) : l ≠ [] := by
  rintro rfl
  revert h
  exact (fun h => by unfold isS ahd at h; simp at h)
set_option maxRecDepth 100000 in
set_option maxHeartbeats 2000000 in
theorem stake_yes {C : SyC} {l : List Tk} {o : Nat} (s : ByteArray) (w : World) (hR : Syr C w l o) (hs : isS (ahd C.E 0 l) s = true) : Calls Tryz.prog 74 #[.pointer (some ⟨C.z, 0, none⟩), .string s] w fun e w' => e = .returned (.bool true) ∧ But C.z w w' ∧ Syr C w' l.tail o := by
  have HA := hide (stoken_any w hR)
  have HR := hide hR
  have HI := hide (fun w => isSign_any (ahd C.E 0 l) s w)
  have HP := hide (fun w h => spass_any (l := l) (o := o) (C := C) w h (isS_ne hs))
  rw [hs] at HI
  clear hR hs
  generalize ahd C.E 0 l = t at *
  generalize tokV t = tv at *
  go_enter Tryz.func74, Tryz.ntmps74
  go_wp2_with fail
  refine (unhide HA).mono ?_
  rintro e w2 ⟨rfl, hb2⟩
  have HB2 := hide hb2
  clear hb2
  go_wp2_with fail
  refine (unhide HI _).mono ?_
  rintro e w3 ⟨rfl, hb3⟩
  have HR3 := hide (((unhide HR).below (unhide HB2)).below hb3)
  have HB3 := hide (bnext (unhide HB2) hb3)
  clear hb3
  go_wp2_with fail
  refine (unhide HP _ (unhide HR3)).mono ?_
  rintro e w4 ⟨rfl, hb4, hR4⟩
  have HZ : Hid (But C.z w w4 ∧ Syr C w4 l.tail o) := hide (⟨(But.of_below (unhide HB3)).trans hb4, hR4⟩)
  clear hb4 hR4
  go_wp2_with fail
  go_ret
  exact ⟨rfl, unhide HZ⟩
set_option maxRecDepth 100000 in
set_option maxHeartbeats 2000000 in
theorem stake_no {C : SyC} {l : List Tk} {o : Nat} (s : ByteArray) (w : World) (hR : Syr C w l o) (hs : isS (ahd C.E 0 l) s = false) : Calls Tryz.prog 74 #[.pointer (some ⟨C.z, 0, none⟩), .string s] w fun e w' => e = .returned (.bool false) ∧ Below w.heap.size w w' := by
  have HA := hide (stoken_any w hR)
  have HI := hide (fun w => isSign_any (ahd C.E 0 l) s w)
  rw [hs] at HI
  clear hR hs
  generalize ahd C.E 0 l = t at *
  generalize tokV t = tv at *
  go_enter Tryz.func74, Tryz.ntmps74
  go_wp2_with fail
  refine (unhide HA).mono ?_
  rintro e w2 ⟨rfl, hb2⟩
  have HB2 := hide hb2
  clear hb2
  go_wp2_with fail
  refine (unhide HI _).mono ?_
  rintro e w3 ⟨rfl, hb3⟩
  have HB3 := hide (bnext (unhide HB2) hb3)
  clear hb3
  go_wp2_with fail
  go_ret
  exact ⟨rfl, unhide HB3⟩
def SyPost {α : Type} (V : α → Ending → World → Prop) (C : SyC) (o : Nat) (w : World) (R : Sy α) (e : Ending) (w' : World) : Prop :=
  But C.z w w' ∧ (match R with | .ok x => V x.1 e w' ∧ Syr C w' x.2 o | .error x => e = thr x.1 x.2)
section
variable {α : Type} {V : α → Ending → World → Prop} {C : SyC} {o : Nat} {w w' : World} {R : Sy α} {e : Ending}
theorem spost_ok {a : α} {j : List Tk} (h : R = .ok (a, j)) (hb : But C.z w w') (hv : V a e w') (hr : Syr C w' j o) : SyPost V C o w R e w' := by subst h; exact ⟨hb, hv, hr⟩
theorem spost_err {er : Int} {i : Nat} (h : R = .error (er, i)) (hb : But C.z w w') (he : e = thr er i) : SyPost V C o w R e w' := by subst h; exact ⟨hb, he⟩
theorem sof_ok {a : α} {j : List Tk} (h : SyPost V C o w R e w') (hr : R = .ok (a, j)) : But C.z w w' ∧ V a e w' ∧ Syr C w' j o := by subst hr; exact ⟨h.1, h.2.1, h.2.2⟩
theorem sof_err {er : Int} {i : Nat} (h : SyPost V C o w R e w') (hr : R = .error (er, i)) : But C.z w w' ∧ e = thr er i := by subst hr; exact h
end
def unitS (_ : Unit) (e : Ending) (_ : World) : Prop := e = .returned (.tuple #[])
set_option maxRecDepth 100000 in
set_option maxHeartbeats 2000000 in
theorem sneed_any {C : SyC} {l : List Tk} {o : Nat} (s : ByteArray) (w : World) (hR : Syr C w l o) : Calls Tryz.prog 71 #[.pointer (some ⟨C.z, 0, none⟩), .string s] w fun e w' => SyPost unitS C o w (ndS C.E s l) e w' := by
  unfold ndS
  cases hs : isS (ahd C.E 0 l) s
  · have HT := hide (stake_no s w hR hs)
    have HS := hide (fun w h => sstop_any (C := C) (l := l) (o := o) w h)
    have HR := hide hR
    rw [if_neg (by decide)]
    show Calls _ _ _ _ fun e w' => SyPost unitS C o w (.error (2, (ahd C.E 0 l).a)) e w'
    clear hR hs
    generalize (ahd C.E 0 l).a = a at *
    go_enter Tryz.func71, Tryz.ntmps71
    go_wp2_with fail
    refine (unhide HT).mono ?_
    rintro e w2 ⟨rfl, hb2⟩
    have HB2 := hide hb2
    clear hb2
    go_wp2_with fail
    refine (unhide HS _ ((unhide HR).below (unhide HB2))).mono ?_
    rintro e w3 ⟨rfl, hb3⟩
    have HB3 := hide (bnext (unhide HB2) hb3)
    clear hb3
    unfold thr
    go_wp2_with fail
    exact ⟨rfl, spost_err rfl (But.of_below (unhide HB3)) rfl⟩
  · have HT := hide (stake_yes s w hR hs)
    rw [if_pos rfl]
    show Calls _ _ _ _ fun e w' => SyPost unitS C o w (.ok ((), l.tail)) e w'
    clear hR hs
    go_enter Tryz.func71, Tryz.ntmps71
    go_wp2_with fail
    refine (unhide HT).mono ?_
    rintro e w2 ⟨rfl, hb2, hR2⟩
    have HB2 := hide hb2
    have HR2 := hide hR2
    clear hb2 hR2
    go_wp2_with fail
    go_end0
    exact spost_ok rfl (unhide HB2) rfl (unhide HR2)
end Go.Proofs.YtpkmamgleofimaaGreatDoor
