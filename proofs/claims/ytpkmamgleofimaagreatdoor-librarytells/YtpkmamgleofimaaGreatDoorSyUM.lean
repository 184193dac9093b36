/- The lines of a text: linesOf. The reader of lines: a whole line's tokens. -/
import Derived.Test.YtpkmamgleofimaaGreatDoorLkCM
import Derived.Test.YtpkmamgleofimaaGreatDoorSplLibM
import Derived.Test.YtpkmamgleofimaaGreatDoorPvAM
namespace Go.Proofs.YtpkmamgleofimaaGreatDoor
open Go.RowKit

theorem trim_le (l : List UInt8) : (Lib.trimSuffix l [10]).length ≤ l.length := by
  unfold Lib.trimSuffix
  split
  · rw [List.length_take]; omega
  · exact Nat.le_refl _
set_option maxRecDepth 100000 in
set_option maxHeartbeats 2000000 in
theorem linesOf_any (s : ByteArray) (w : World) (hs : s.size ≤ 65536) (m : Int) (hm : w.cell? ⟨1, 0, none⟩ = some (.int .i64 m)) :
    Calls Tryz.prog 12 #[.string s] w fun e w' => Below w.heap.size w w' ∧ ∃ a, e = .returned (.slice a (lnT s).length (lnT s).length) ∧ (0 < (lnT s).length → a = some ⟨w.heap.size, 0, none⟩ ∧ w'.heap[w.heap.size]? = some (.cells ((lnT s).map Value.string).toArray 9 (0, 0))) := by
  have HT := hide (Tryz.strings_TrimSuffix s ⟨#[10]⟩ w (by omega))
  have HSP := hide (fun t h => Tryz.strings_Split t ⟨#[10]⟩ m w h hm (by decide))
  have hz : s.size ≤ maxLen := by unfold maxLen; omega
  have HSZ := hide hs
  clear hm hs
  go_enter Tryz.func12, Tryz.ntmps12
  cases hemp : s.toList.isEmpty
  · have hne : s.size ≠ 0 := fun e => by
      have h0 : s.toList = [] := by rw [ByteArray.toList_eq, ← List.length_eq_zero_iff, ← Lib.size_eq]; exact e
      rw [h0] at hemp; cases hemp
    have HNE := hide hne
    clear hne
    go_wp2_with fail
    refine (unhide HT).mono ?_
    rintro e w1 ⟨rfl, rfl⟩
    go_wp2_with fail
    refine (unhide HSP _ ?_).mono ?_
    · have h1 := trim_le s.data.toList
      rw [← Lib.size_eq] at h1
      have h2 := unhide HSZ
      show (Lib.trimSuffix s.data.toList [10]).toArray.size < _
      rw [List.size_toArray]
      omega
    · have HL := hide (split_lnT (unhide HNE))
      have HK := hide (Lib.splitB_all ⟨#[10]⟩ (by decide) 0 _ (byT (Lib.trimSuffix s.data.toList [10])) rfl)
      rw [unhide HL] at HK
      rintro e w2 ⟨rfl, rfl⟩
      go_wp2_with fail
      go_ret
      refine ⟨ba _, some ⟨w1.heap.size, 0, none⟩, ?_, fun _ => ⟨rfl, ?_⟩⟩
      · rw [unhide HK]; rfl
      · rw [← unhide HL]; exact at_new rfl
  · have h0 : s.data.toList = [] := by rw [← ByteArray.toList_eq]; simpa using hemp
    have HL := hide (show lnT s = [] by unfold lnT lnL; rw [if_pos h0]; rfl)
    clear h0
    go_wp2_with fail
    go_ret
    rw [unhide HL]
    exact ⟨Below.refl _ _, none, rfl, fun h => absurd h (by decide)⟩
end Go.Proofs.YtpkmamgleofimaaGreatDoor

namespace Go.Proofs.YtpkmamgleofimaaGreatDoor
open Go.RowKit

structure SyW (w : World) : Prop where
  sh : Shapes w
  shx : ShapesX w
  sh0 : w.cell? ⟨0, 1, none⟩ = some (.int .i64 0)
  er : ∃ te pe, w.cell? ⟨6, 0, none⟩ = some (.iface te pe)
theorem SyW.later {w w' : World} (h : SyW w) (hb : Below w.heap.size w w') : SyW w' := ⟨h.sh.later hb, h.shx.later hb, cell_later hb h.sh0, by obtain ⟨te, pe, q⟩ := h.er; exact ⟨te, pe, cell_later hb q⟩⟩
theorem SyW.l1 {w : World} (h : SyW w) : (4 : Nat) < w.heap.size := h.sh.lt
theorem SyW.l2 {w : World} (h : SyW w) : (0 : Nat) < w.heap.size := World.block_lt_of_cell? _ _ h.sh0
theorem SyW.l3 {w : World} (h : SyW w) : (6 : Nat) < w.heap.size := by obtain ⟨te, pe, q⟩ := h.er; exact World.block_lt_of_cell? _ _ q
structure SyTk (w : World) (v : Value) (l : List Tk) (g : Nat) : Prop where
  row : ∃ xa cap off, v = .slice xa l.length cap ∧ l.length ≤ cap ∧ cap ≤ maxLen ∧ (l ≠ [] → xa = some ⟨g, off, none⟩) ∧ TkAt w g off l
  lt : g < w.heap.size
  sm : ∀ t ∈ l, TkS t
structure RaB (w : World) (B : Nat) (W : World) : Prop where
  bel : Below B w W
  sbox : BoxS B W
  fbox : W.heap[B + 1]? = some (.cells #[.int .i64 0, .int .i64 0] 30 (0, 0))
theorem RaB.but2 {w W W' : World} {B z : Nat} (h : RaB w B W) (hb : But2 z B W W') (hz : B + 1 < z) : RaB w B W' := by
  have hs := (Array.getElem?_eq_some_iff.1 h.fbox).1
  exact ⟨⟨hb.os.trans h.bel.os, hb.tape.trans h.bel.tape, hb.output.trans h.bel.output, Nat.le_trans h.bel.size hb.size, fun k hk => (hb.block k (by omega) (by omega) (by omega)).trans (h.bel.block k hk)⟩, hb.box (by omega) h.sbox, (hb.block (B + 1) hs (by omega) (by omega)).trans h.fbox⟩
theorem RaB.below {w W W' : World} {B : Nat} (h : RaB w B W) (hb : Below W.heap.size W W') : RaB w B W' := by
  obtain ⟨C, h1, h2, h3⟩ := h.sbox
  exact ⟨h.bel.trans (hb.mono (by have := (Array.getElem?_eq_some_iff.1 h1).1; omega)), ⟨C, row_below h1 hb, h2, h3⟩, row_below h.fbox hb⟩
theorem ra_start {w w0 w1 : World} {B g : Nat} {s : ByteArray} {l : List Tk} {xa : Option Addr} {cap off : Nat} (hB : B = w.heap.size) (h0 : Below B w w0 ∧ w0.heap[B + 1]? = some (.cells #[.int .i64 0, .int .i64 0] 30 (0, 0)) ∧ w0.heap[B]? = some (.cells zSV.cells 47 (0, 0))) (hsz : w0.heap.size = B + 1 + 1)
    (hM : MI w1 w0.heap.size 6 btwF) (hb1 : Below w0.heap.size w0 w1) (hW : SyW w) (hs : s.size ≤ 2000) (hk : (l.length ≤ cap ∧ cap ≤ maxLen ∧ (l ≠ [] → xa = some ⟨g, off, none⟩) ∧ TkAt w g off l) ∧ g < w.heap.size ∧ ∀ t ∈ l, TkS t)
    {w2 : World} {z : Nat} {C : SyC} (hz : z = w1.heap.size) (hw2 : w2 = w1.alloc (.cells #[.slice xa l.length cap, .int .i64 (s.size : Int), .int .i64 0, .map (some w0.heap.size)] 81)) (hC : C = ⟨z, s.size, g, w0.heap.size, 6⟩) :
    SyS C (z + 1) B ∧ SyT B ∧ StR C 0 (z + 1) B w2 w2 l zSV zSV ∧ SyEnv C w2 ∧ RaB w B w2 ∧ B + 1 < z ∧ z + 1 ≤ w2.heap.size := by
  subst hC hz
  obtain ⟨hb0, hf0, hs0⟩ := h0
  obtain ⟨⟨k1, k2, k3, k4⟩, hg, hsm⟩ := hk
  have hm := hM.lt
  have hb2 : Below w1.heap.size w1 w2 := by rw [hw2]; exact ba _
  have e2 : w2.heap.size = w1.heap.size + 1 := by rw [hw2, World.size_alloc]
  have hs2 : w2.heap[B]? = some (.cells zSV.cells 47 (0, 0)) := row_below (row_below hs0 hb1) hb2
  have hf2 : w2.heap[B + 1]? = some (.cells #[.int .i64 0, .int .i64 0] 30 (0, 0)) := row_below (row_below hf0 hb1) hb2
  have l1 := hW.l1
  have l2 := hW.l2
  have l3 := hW.l3
  have hbel : Below B w w2 := (hb0.trans (hb1.mono (by omega))).trans (hb2.mono (by omega))
  have hW2 := hW.later (hB ▸ hbel)
  have hR : Syr ⟨w1.heap.size, s.size, g, w0.heap.size, 6⟩ w2 l 0 := by
    refine ⟨⟨xa, cap, off, by rw [hw2]; exact at_new rfl, k1, k2, k3, fun i t ht => ?_⟩, hM.below (hb2.block _ hm), by show g < w2.heap.size; omega, by show g ≠ w1.heap.size; omega, by show w0.heap.size ≠ w1.heap.size; omega, hsm, hs⟩
    have q : ∀ o, w2.cell? ⟨g, o, none⟩ = w.cell? ⟨g, o, none⟩ := fun o => by unfold World.cell?; rw [hbel.block g (by omega)]
    rw [q, q, q]
    exact k4 i t ht
  refine ⟨⟨by show w1.heap.size < _; omega, by omega, by show B ≠ w1.heap.size; omega, by show B ≠ g; omega, by show B ≠ w0.heap.size; omega⟩, ⟨by omega, by omega, by omega⟩, ⟨But2.refl _ _ _, hR, zSV_in _ hs2⟩, ⟨hW2.sh, hW2.shx, hW2.sh0, hW2.er, by show w1.heap.size ≠ _; omega, by show w1.heap.size ≠ _; omega, by show w1.heap.size ≠ _; omega⟩, ⟨hbel, ⟨_, hs2, rfl, SV.cells_one zSV⟩, hf2⟩, by omega, by omega⟩
theorem run_index_strS (s : ByteArray) (h : 0 < s.size) (W : World) : (Instr.index 9 (.string s) (.int .i64 0)).run Tryz.prog W = .ok (.int .u8 (bat s 0 : Int)) W := by
  have e : bat s 0 = (s[0]).toNat := by
    unfold bat
    have hl : 0 < s.data.toList.length := by simpa using h
    rw [List.getD_eq_getElem?_getD, List.getElem?_eq_getElem hl]
    rfl
  rw [e]
  simp [Instr.index, asIntOf, run_underlying Tryz.underlying9, go_sem, h]
structure RaS (C : SyC) (z B : Nat) (w w2 W : World) (l : List Tk) (S P : SV) : Prop where
  st : StR C 0 (z + 1) B w2 W l S P
  bx : RaB w B W
def RaQ (C : SyC) (z B : Nat) (w w2 : World) (R : Sy SV) (e : Ending) (W' : World) : Prop := match R with | .ok x => e = .returned (.tuple #[]) ∧ ∃ S', RaS C z B w w2 W' x.2 S' x.1 | .error x => e = thr x.1 x.2
theorem RaS.post {C : SyC} {z B : Nat} {w w2 W W' : World} {l : List Tk} {S P : SV} {R : Sy SV} {e : Ending} (h : RaS C z B w w2 W l S P) (hz : C.z = z) (hlt : B + 1 < z) (hp : StPost C 0 (z + 1) B W R e W') : RaB w B W' ∧ But2 C.z B w2 W' ∧ RaQ C z B w w2 R e W' := by
  have hb := h.bx.but2 (z := C.z) hp.1 (by omega)
  refine ⟨hb, h.st.but.trans hp.1, ?_⟩
  cases R with
  | error x => exact hp.2
  | ok x =>
    obtain ⟨h1, h2, S', h3⟩ := hp.2
    exact ⟨h1, S', ⟨h.st.but.trans hp.1, h2, h3⟩, hb⟩
set_option maxRecDepth 100000 in
set_option maxHeartbeats 8000000 in
theorem sreadAll_any (s : ByteArray) (l : List Tk) (v : Value) (g : Nat) (w : World) (hs : s.size ≤ 2000) (hW : SyW w) (hT : SyTk w v l g) : Calls Tryz.prog 19 #[.string s, v] w fun e w' => RaPost s l w e w' := by
  have hmf : ∀ (fn : Fn) (first cap : Array Value) (w : World), (Instr.makeFunc fn first cap).run Tryz.prog w = .ok (.func fn first cap) w := fun _ _ _ _ => rfl
  obtain ⟨⟨xa, cap, off, rfl, hc1, hc2, hc3, hc4⟩, hg, hsm⟩ := hT
  obtain ⟨B, hB⟩ : ∃ B, B = w.heap.size := ⟨_, rfl⟩
  obtain ⟨w0, hw0⟩ : ∃ w0, w0 = (w.alloc (.cells zSV.cells 47)).alloc (.cells #[.int .i64 0, .int .i64 0] 30) := ⟨_, rfl⟩
  have hsz : w0.heap.size = B + 1 + 1 := by rw [hw0, hB]; simp
  have hb0 : Below B w w0 := by rw [hw0, hB]; exact (ba _).alloc (by simp) _
  have hf0 : w0.heap[B + 1]? = some (.cells #[.int .i64 0, .int .i64 0] 30 (0, 0)) := by rw [hw0, hB]; exact at_new (by simp)
  have hs0 : w0.heap[B]? = some (.cells zSV.cells 47 (0, 0)) := by rw [hw0, hB]; exact at_old (by simp) (at_new rfl)
  have HSB := hide (sbetween_any w0 ((hW.later (hB ▸ hb0)).shx))
  have H0 := hide (And.intro hb0 (And.intro hf0 hs0))
  obtain ⟨RR, hRR⟩ : ∃ RR, RR = raS s l := ⟨_, rfl⟩
  have HPO : Hid (∀ e w', (Below B w w' ∧ (∀ P m, RR = .ok (P, m) → ∃ S : SV, e = .returned (.tuple #[S.v, fauV 0 0]) ∧ S.can = P ∧ SLies B w' S) ∧ (∀ er a, RR = .error (er, a) → ∃ C : Array Value, e = .returned (.tuple #[.agg C, fauV er a]) ∧ C.size = 24 ∧ C.all (·.oneCell') = true)) → RaPost s l w e w') := hide (fun e w' h => by rw [hB, hRR] at h; exact h)
  have HQ : Hid (RR = sbd (lbS s s.size l) fun t r => raB s { zSV with lab := t } r) := hide (hRR)
  have HWD : Hid ((w.alloc (.cells zSV.cells 47)).alloc (.cells #[.int .i64 0, .int .i64 0] 30) = w0) := hide (hw0.symm)
  have HSZ := hide hsz
  have HEV := hide (fun (W : World) (hb : Below B w W) => hW.later (hB ▸ hb))
  have HTK := hide (And.intro (And.intro hc1 (And.intro hc2 (And.intro hc3 hc4))) (And.intro hg hsm))
  have HWW := hide hW
  have HB := hide hB
  clear hb0 hf0 hs0 hw0 hRR hW hc3 hc4 hsm hsz hB
  -- what is thrown is caught
  have key : ∀ (er : Int) (a : Nat) (W : World), RR = .error (er, a) → RaB w B W → ∀ tmps : Array Value, tmps.getD 4 undef = .pointer (some ⟨B, 0, none⟩) → tmps.getD 5 undef = .pointer (some ⟨B + 1, 0, none⟩) →
      bodyPostD Tryz.prog Tryz.f19 (fun e w' => RaPost s l w e w')
        (Exit.panic [{ v := .iface 30 (fauV er a), recovered := false }]) { tmps := tmps, defers := [{ target := Target.fn (Fn.func 33) #[.pointer (some ⟨B + 1, 0, none⟩)], args := #[] }] } W := by
    intro er a W hRA hR tmps ht2 ht3
    obtain ⟨C, h1, h2, h3⟩ := hR.sbox
    refine leaves_cons (f := 33) (args := #[.pointer (some ⟨B + 1, 0, none⟩)]) (by simp) (by simp [go_sem]) ?_
    refine (scatch_panicking (B + 1) er a _ [] _ hR.fbox rfl).mono ?_
    rintro e u' w'' ⟨rfl, rfl, rfl⟩
    have hn1 : B ≠ B + 1 := by omega
    refine ⟨_, sres_two tmps _ B (B + 1) C #[.int .i64 er, .int .i64 (a : Int)] ht2 ht3 ((setRow_other W _ _ _ hn1).trans h1) (setRow_heap _ _ _ _ _ _ hR.fbox) h2 rfl, unhide HPO _ _ ⟨below_setRow hR.bel _ (by omega) _, fun p j h => ?_, fun er' a' h => ?_⟩⟩
    · rw [hRA] at h; cases h
    · rw [hRA] at h
      injection h with h; injection h with h1 h2
      subst h1 h2
      exact ⟨C, rfl, h2, h3⟩
  have HKEY := hide key
  clear key
  obtain ⟨w0', hw0'⟩ : ∃ w0', w0' = w0 := ⟨w0, rfl⟩
  clear hw0' w0'
  go_enter_defers Tryz.func19, Tryz.ntmps19
  go_wp2_with fail
  rw [show ((w.alloc (.cells #[.string ⟨#[]⟩, .int .i64 0, .int .i64 0, .string ⟨#[]⟩, .int .i64 0, .string ⟨#[]⟩, .slice none 0 0, .int .i64 0, .string ⟨#[]⟩, .int .i64 0, .string ⟨#[]⟩, .slice none 0 0, .int .i64 0, .string ⟨#[]⟩, .int .i64 0, .string ⟨#[]⟩, .slice none 0 0, .string ⟨#[]⟩, .string ⟨#[]⟩, .slice none 0 0, .slice none 0 0, .string ⟨#[]⟩, .string ⟨#[]⟩, .string ⟨#[]⟩] 47)).alloc (.cells #[.int .i64 0, .int .i64 0] 30)) = w0 from unhide HWD]
  rw [show w.heap.size = B from (unhide HB).symm]
  refine (unhide HSB).mono ?_
  rintro e w1 ⟨rfl, hM1, hb1⟩
  obtain ⟨z, hz⟩ : ∃ z, z = w1.heap.size := ⟨_, rfl⟩
  obtain ⟨w2, hw2⟩ : ∃ w2, w2 = w1.alloc (.cells #[.slice xa l.length cap, .int .i64 (s.size : Int), .int .i64 0, .map (some w0.heap.size)] 81) := ⟨_, rfl⟩
  obtain ⟨C, hC⟩ : ∃ C : SyC, C = ⟨z, s.size, g, w0.heap.size, 6⟩ := ⟨_, rfl⟩
  obtain ⟨x1, x2, x3, x4, x5, x6, x7⟩ := ra_start (off := off) (unhide HB) (unhide H0) (unhide HSZ) hM1 hb1 (unhide HWW) hs (unhide HTK) hz hw2 hC
  have HX := hide (And.intro x1 (And.intro x2 (And.intro x4 (And.intro x6 x7))))
  have HCZ : Hid (C.z = z) := hide (by rw [hC])
  have H2 : Hid (RaS C z B w w2 w2 l zSV zSV) := hide (⟨x3, x5⟩)
  have hCE : s.size = C.E := by rw [hC]
  have hQ := unhide HQ
  rw [hCE] at hQ
  have hraB : ∀ S l, raB s S l = sbd (ddS C.E 400 S l) fun S q => sbd (wyS C.E S q) fun S m => if m.length = 0 then .ok (S, m) else .error (2, (ahd C.E 0 m).a) := fun S l => by unfold raB; rw [hCE]
  have HQB := hide (And.intro hQ hraB)
  have HW2 := hide (And.intro hw2 hz)
  clear x1 x2 x3 x4 x5 x6 x7 hw2 hM1 hb1 hC hQ hraB HQ hz
  clear H0 HSB HWD HTK HSZ hCE
  by_cases h0 : s.size = 0
  · have HQ1 : Hid (RR = raB s zSV l) := hide (by
      rw [(unhide HQB).1]
      unfold lbS
      rw [if_neg (fun q => q.1 h0), sbd_ok]; rfl)
    have HQ1 := hide ((unhide HQ1).trans ((unhide HQB).2 _ _))
    have he : s.toList.isEmpty = true := by rw [ByteArray.toList_eq, List.isEmpty_iff]; exact List.eq_nil_of_length_eq_zero (by simpa using h0)
    clear h0 HQB
    go_wp2_with fail
    rw [show w1.alloc (.cells #[.slice xa l.length cap, .int .i64 (s.size : Int), .int .i64 0, .map (some w0.heap.size)] 81) = w2 from (unhide HW2).1.symm]
    rw [show w1.heap.size = z from (unhide HW2).2.symm]
    clear HW2
    have HA : Hid (RR = sbd (ddS C.E 400 zSV l) fun S q => sbd (wyS C.E S q) fun S m => if m.length = 0 then .ok (S, m) else .error (2, (ahd C.E 0 m).a)) := hide (unhide HQ1)
    have HD : Hid (Calls Tryz.prog 36 #[.pointer (some ⟨z, 0, none⟩), .pointer (some ⟨B, 0, none⟩)] w2 fun e w' => StPost C 0 (z + 1) B w2 (ddS C.E 400 zSV l) e w') := hide (by
      have q := sdeed_any (B := z + 1) (S := _) w2 (unhide HX).1 (unhide HX).2.1 (unhide H2).st.rdr ((unhide HX).2.2.1.but2 (unhide H2).st.but (unhide HX).2.1) (unhide H2).st.stm (Nat.le_trans (unhide HX).2.2.2.2 (unhide H2).st.but.size) rfl rfl rfl rfl
      rw [unhide HCZ] at q
      exact q)
    clear HQ1
    refine (unhide HD).mono ?_
    intro e w5 hp
    obtain ⟨hbx5, hbu5, hq5⟩ := (unhide H2).post (unhide HCZ) (unhide HX).2.2.2.1 hp
    clear hp HD
    cases hr5 : ddS C.E 400 zSV l with
    | error x =>
      obtain ⟨er, i⟩ := x
      rw [hr5] at hq5
      have hq5 : e = thr er i := hq5
      subst hq5
      have hE := unhide HA
      rw [hr5, sbd_err] at hE
      clear hr5
      unfold thr
      go_wp2_with fail
      exact unhide HKEY er i w5 hE hbx5 _ rfl rfl
    | ok x =>
      obtain ⟨P5, l5⟩ := x
      rw [hr5] at hq5
      obtain ⟨he5, S5, h5⟩ := hq5
      subst he5
      have H5 := hide h5
      have hE := unhide HA
      rw [hr5, sbd_ok] at hE
      have HA5 := hide hE
      have HY : Hid (Calls Tryz.prog 37 #[.pointer (some ⟨z, 0, none⟩), .pointer (some ⟨B, 0, none⟩)] w5 fun e w' => StPost C 0 (z + 1) B w5 (wyS C.E P5 l5) e w') := hide (by
        have q := swaysOn_any (B := z + 1) w5 (unhide HX).1 h5.st.rdr h5.st.stm
        rw [unhide HCZ] at q
        exact q)
      clear hr5 h5 hbx5 hbu5 hE HA
      go_wp2_with fail
      refine (unhide HY).mono ?_
      intro e w6 hp
      obtain ⟨hbx6, hbu6, hq6⟩ := (unhide H5).post (unhide HCZ) (unhide HX).2.2.2.1 hp
      clear hp HY
      cases hr6 : wyS C.E P5 l5 with
      | error x =>
        obtain ⟨er, i⟩ := x
        rw [hr6] at hq6
        have hq6 : e = thr er i := hq6
        subst hq6
        have hE := unhide HA5
        rw [hr6, sbd_err] at hE
        clear hr6
        unfold thr
        go_wp2_with fail
        exact unhide HKEY er i w6 hE hbx6 _ rfl rfl
      | ok x =>
        obtain ⟨P6, l6⟩ := x
        rw [hr6] at hq6
        obtain ⟨he6, S6, h6⟩ := hq6
        subst he6
        have hE := unhide HA5
        rw [hr6, sbd_ok] at hE
        have H6 := hide h6
        have HA6 := hide hE
        obtain ⟨xa6, cap6, off6, hblk, k61, k62, -, -⟩ := h6.st.rdr.blk
        rw [unhide HCZ] at hblk
        have c0 : w6.cell? ⟨z, 0, none⟩ = some (.slice xa6 l6.length cap6) := cr hblk
        have HST : Hid (Calls Tryz.prog 38 #[.pointer (some ⟨z, 0, none⟩)] w6 fun e w' => e = thr 2 (ahd C.E 0 l6).a ∧ Below w6.heap.size w6 w') := hide (by
          have q := sstop_any w6 h6.st.rdr
          rw [unhide HCZ] at q
          exact q)
        have HBX6 := hide hbx6
        clear hr6 h6 hblk hbu6 hE HA5 H5 hbx6 k61 k62
        by_cases hl6 : l6.length = 0
        · have hE := unhide HA6
          rw [if_pos hl6] at hE
          have HE := hide hE
          have q6 : ¬ (0 : Int) < (l6.length : Int) := by omega
          clear hl6 hE
          obtain ⟨Cs, hCs⟩ : ∃ Cs, Cs = S6.cells := ⟨_, rfl⟩
          have hz6 : Cs.size = 24 := by rw [hCs]; rfl
          have h16 : Cs.all (·.oneCell') = true := by rw [hCs]; exact SV.cells_one S6
          have hb6 : w6.heap[B]? = some (.cells Cs 47 (0, 0)) := by rw [hCs]; exact (unhide H6).st.stm.box
          have HSL : Hid (SLies (z + 1) w6 S6) := hide (⟨(unhide H6).st.stm.txt, (unhide H6).st.stm.tg, (unhide H6).st.stm.va, (unhide H6).st.stm.pa, (unhide H6).st.stm.ps, (unhide H6).st.stm.ls⟩)
          have HB6 := hide hb6
          have H16 := hide h16
          have HZ6 := hide hz6
          have HB7 := hide (setRow_heap w6 B Cs Cs _ _ hb6)
          have HF7 := hide ((setRow_other w6 B (B + 1) Cs (by omega)).trans (unhide HBX6).fbox)
          have HF8 := hide (setRow_heap (w6.setRow B Cs) (B + 1) _ #[.int .i64 0, .int .i64 0] _ _ (unhide HF7))
          have HB8 := hide ((setRow_other (w6.setRow B Cs) (B + 1) B #[.int .i64 0, .int .i64 0] (by omega)).trans (unhide HB7))
          have HSV : Hid (S6.v = .agg Cs) := hide (by rw [hCs]; rfl)
          have HCN : Hid (S6.can = P6) := hide ((unhide H6).st.stm.can)
          clear hz6 h16 hb6 hCs
          go_wp2_with (first
            | (refine wpList_load_row rfl 47 _ rfl B rfl 47 Cs (0, 0) _ (unhide HB6) Tryz.underlying47 rfl (sySize_stm.trans (by rw [unhide HZ6])) ?_)
            | (refine wpList_store_row rfl 47 _ _ rfl B Cs rfl rfl 47 Cs (unhide HB6) (sySize_stm.trans (by rw [unhide HZ6])) rfl (unhide H16) ?_)
            | (refine wpList_store_row rfl 30 _ _ rfl (B + 1) #[.int .i64 0, .int .i64 0] rfl rfl 30 #[.int .i64 0, .int .i64 0] (by with_reducible exact unhide HF7) sySize_fau rfl (by simp [Value.oneCell']) ?_)
            | fail)
          (try go_frame)
          refine leaves_cons (f := 33) (args := #[.pointer (some ⟨B + 1, 0, none⟩)]) (by simp) (by simp [go_sem]) ?_
          refine (scatch_idle _ _).mono ?_
          rintro e u' w'' ⟨rfl, rfl, rfl⟩
          refine ⟨_, sres_two _ _ B (B + 1) Cs #[.int .i64 0, .int .i64 0] rfl rfl (unhide HB8) (unhide HF8) (unhide HZ6) rfl, unhide HPO _ _ ⟨below_setRow (below_setRow (unhide HBX6).bel B (Nat.le_refl _) Cs) (B + 1) (by omega) _, fun p' j' h => ?_, fun er' a' h => ?_⟩⟩
          · rw [unhide HE] at h
            injection h with h; injection h with h1 h2
            subst h1
            exact ⟨S6, by rw [unhide HSV]; rfl, unhide HCN, (((unhide HSL).setRow (g := B) (by have := (unhide HX).2.2.2.1; omega) Cs).setRow (g := B + 1) (by have := (unhide HX).2.2.2.1; omega) _).mono (by have := (unhide HX).2.2.2.1; omega)⟩
          · rw [unhide HE] at h; cases h
        · have hE := unhide HA6
          rw [if_neg hl6] at hE
          have HE := hide hE
          have q6 : (0 : Int) < (l6.length : Int) := by omega
          clear hl6 hE
          go_wp2_with fail
          refine (unhide HST).mono ?_
          rintro e w7 ⟨rfl, hb7⟩
          unfold thr
          go_wp2_with fail
          exact unhide HKEY 2 _ w7 (unhide HE) ((unhide HBX6).below hb7) _ rfl rfl
  · have hix := run_index_strS s (by omega)
    have he : s.toList.isEmpty = false := by
      rw [ByteArray.toList_eq, ← Bool.not_eq_true, List.isEmpty_iff]
      intro q; exact h0 (by have := congrArg List.length q; simpa using this)
    have HLB : Hid (lbS s C.E l = if bat s 0 ≠ 32 ∧ bat s 0 ≠ 58 then nmS C.E l else .ok (ByteArray.empty, l)) := hide (by
      unfold lbS
      by_cases q : bat s 0 ≠ 32 ∧ bat s 0 ≠ 58
      · rw [if_pos ⟨h0, q⟩, if_pos q]
      · rw [if_neg (fun z => q z.2), if_neg q])
    generalize bat s 0 = b at *
    clear h0
    by_cases h32 : b = 32
    · have HQ1 : Hid (RR = raB s zSV l) := hide (by rw [(unhide HQB).1, unhide HLB, if_neg (fun q => q.1 h32), sbd_ok]; rfl)
      have HQ1 := hide ((unhide HQ1).trans ((unhide HQB).2 _ _))
      have q32 : ((b : Int) != 32) = false := by simp; omega
      clear h32 HQB HLB
      go_wp2_with fail
      rw [show w1.alloc (.cells #[.slice xa l.length cap, .int .i64 (s.size : Int), .int .i64 0, .map (some w0.heap.size)] 81) = w2 from (unhide HW2).1.symm]
      rw [show w1.heap.size = z from (unhide HW2).2.symm]
      clear HW2
      have HA : Hid (RR = sbd (ddS C.E 400 zSV l) fun S q => sbd (wyS C.E S q) fun S m => if m.length = 0 then .ok (S, m) else .error (2, (ahd C.E 0 m).a)) := hide (unhide HQ1)
      have HD : Hid (Calls Tryz.prog 36 #[.pointer (some ⟨z, 0, none⟩), .pointer (some ⟨B, 0, none⟩)] w2 fun e w' => StPost C 0 (z + 1) B w2 (ddS C.E 400 zSV l) e w') := hide (by
        have q := sdeed_any (B := z + 1) (S := _) w2 (unhide HX).1 (unhide HX).2.1 (unhide H2).st.rdr ((unhide HX).2.2.1.but2 (unhide H2).st.but (unhide HX).2.1) (unhide H2).st.stm (Nat.le_trans (unhide HX).2.2.2.2 (unhide H2).st.but.size) rfl rfl rfl rfl
        rw [unhide HCZ] at q
        exact q)
      clear HQ1
      refine (unhide HD).mono ?_
      intro e w5 hp
      obtain ⟨hbx5, hbu5, hq5⟩ := (unhide H2).post (unhide HCZ) (unhide HX).2.2.2.1 hp
      clear hp HD
      cases hr5 : ddS C.E 400 zSV l with
      | error x =>
        obtain ⟨er, i⟩ := x
        rw [hr5] at hq5
        have hq5 : e = thr er i := hq5
        subst hq5
        have hE := unhide HA
        rw [hr5, sbd_err] at hE
        clear hr5
        unfold thr
        go_wp2_with fail
        exact unhide HKEY er i w5 hE hbx5 _ rfl rfl
      | ok x =>
        obtain ⟨P5, l5⟩ := x
        rw [hr5] at hq5
        obtain ⟨he5, S5, h5⟩ := hq5
        subst he5
        have H5 := hide h5
        have hE := unhide HA
        rw [hr5, sbd_ok] at hE
        have HA5 := hide hE
        have HY : Hid (Calls Tryz.prog 37 #[.pointer (some ⟨z, 0, none⟩), .pointer (some ⟨B, 0, none⟩)] w5 fun e w' => StPost C 0 (z + 1) B w5 (wyS C.E P5 l5) e w') := hide (by
          have q := swaysOn_any (B := z + 1) w5 (unhide HX).1 h5.st.rdr h5.st.stm
          rw [unhide HCZ] at q
          exact q)
        clear hr5 h5 hbx5 hbu5 hE HA
        go_wp2_with fail
        refine (unhide HY).mono ?_
        intro e w6 hp
        obtain ⟨hbx6, hbu6, hq6⟩ := (unhide H5).post (unhide HCZ) (unhide HX).2.2.2.1 hp
        clear hp HY
        cases hr6 : wyS C.E P5 l5 with
        | error x =>
          obtain ⟨er, i⟩ := x
          rw [hr6] at hq6
          have hq6 : e = thr er i := hq6
          subst hq6
          have hE := unhide HA5
          rw [hr6, sbd_err] at hE
          clear hr6
          unfold thr
          go_wp2_with fail
          exact unhide HKEY er i w6 hE hbx6 _ rfl rfl
        | ok x =>
          obtain ⟨P6, l6⟩ := x
          rw [hr6] at hq6
          obtain ⟨he6, S6, h6⟩ := hq6
          subst he6
          have hE := unhide HA5
          rw [hr6, sbd_ok] at hE
          have H6 := hide h6
          have HA6 := hide hE
          obtain ⟨xa6, cap6, off6, hblk, k61, k62, -, -⟩ := h6.st.rdr.blk
          rw [unhide HCZ] at hblk
          have c0 : w6.cell? ⟨z, 0, none⟩ = some (.slice xa6 l6.length cap6) := cr hblk
          have HST : Hid (Calls Tryz.prog 38 #[.pointer (some ⟨z, 0, none⟩)] w6 fun e w' => e = thr 2 (ahd C.E 0 l6).a ∧ Below w6.heap.size w6 w') := hide (by
            have q := sstop_any w6 h6.st.rdr
            rw [unhide HCZ] at q
            exact q)
          have HBX6 := hide hbx6
          clear hr6 h6 hblk hbu6 hE HA5 H5 hbx6 k61 k62
          by_cases hl6 : l6.length = 0
          · have hE := unhide HA6
            rw [if_pos hl6] at hE
            have HE := hide hE
            have q6 : ¬ (0 : Int) < (l6.length : Int) := by omega
            clear hl6 hE
            obtain ⟨Cs, hCs⟩ : ∃ Cs, Cs = S6.cells := ⟨_, rfl⟩
            have hz6 : Cs.size = 24 := by rw [hCs]; rfl
            have h16 : Cs.all (·.oneCell') = true := by rw [hCs]; exact SV.cells_one S6
            have hb6 : w6.heap[B]? = some (.cells Cs 47 (0, 0)) := by rw [hCs]; exact (unhide H6).st.stm.box
            have HSL : Hid (SLies (z + 1) w6 S6) := hide (⟨(unhide H6).st.stm.txt, (unhide H6).st.stm.tg, (unhide H6).st.stm.va, (unhide H6).st.stm.pa, (unhide H6).st.stm.ps, (unhide H6).st.stm.ls⟩)
            have HB6 := hide hb6
            have H16 := hide h16
            have HZ6 := hide hz6
            have HB7 := hide (setRow_heap w6 B Cs Cs _ _ hb6)
            have HF7 := hide ((setRow_other w6 B (B + 1) Cs (by omega)).trans (unhide HBX6).fbox)
            have HF8 := hide (setRow_heap (w6.setRow B Cs) (B + 1) _ #[.int .i64 0, .int .i64 0] _ _ (unhide HF7))
            have HB8 := hide ((setRow_other (w6.setRow B Cs) (B + 1) B #[.int .i64 0, .int .i64 0] (by omega)).trans (unhide HB7))
            have HSV : Hid (S6.v = .agg Cs) := hide (by rw [hCs]; rfl)
            have HCN : Hid (S6.can = P6) := hide ((unhide H6).st.stm.can)
            clear hz6 h16 hb6 hCs
            go_wp2_with (first
              | (refine wpList_load_row rfl 47 _ rfl B rfl 47 Cs (0, 0) _ (unhide HB6) Tryz.underlying47 rfl (sySize_stm.trans (by rw [unhide HZ6])) ?_)
              | (refine wpList_store_row rfl 47 _ _ rfl B Cs rfl rfl 47 Cs (unhide HB6) (sySize_stm.trans (by rw [unhide HZ6])) rfl (unhide H16) ?_)
              | (refine wpList_store_row rfl 30 _ _ rfl (B + 1) #[.int .i64 0, .int .i64 0] rfl rfl 30 #[.int .i64 0, .int .i64 0] (by with_reducible exact unhide HF7) sySize_fau rfl (by simp [Value.oneCell']) ?_)
              | fail)
            (try go_frame)
            refine leaves_cons (f := 33) (args := #[.pointer (some ⟨B + 1, 0, none⟩)]) (by simp) (by simp [go_sem]) ?_
            refine (scatch_idle _ _).mono ?_
            rintro e u' w'' ⟨rfl, rfl, rfl⟩
            refine ⟨_, sres_two _ _ B (B + 1) Cs #[.int .i64 0, .int .i64 0] rfl rfl (unhide HB8) (unhide HF8) (unhide HZ6) rfl, unhide HPO _ _ ⟨below_setRow (below_setRow (unhide HBX6).bel B (Nat.le_refl _) Cs) (B + 1) (by omega) _, fun p' j' h => ?_, fun er' a' h => ?_⟩⟩
            · rw [unhide HE] at h
              injection h with h; injection h with h1 h2
              subst h1
              exact ⟨S6, by rw [unhide HSV]; rfl, unhide HCN, (((unhide HSL).setRow (g := B) (by have := (unhide HX).2.2.2.1; omega) Cs).setRow (g := B + 1) (by have := (unhide HX).2.2.2.1; omega) _).mono (by have := (unhide HX).2.2.2.1; omega)⟩
            · rw [unhide HE] at h; cases h
          · have hE := unhide HA6
            rw [if_neg hl6] at hE
            have HE := hide hE
            have q6 : (0 : Int) < (l6.length : Int) := by omega
            clear hl6 hE
            go_wp2_with fail
            refine (unhide HST).mono ?_
            rintro e w7 ⟨rfl, hb7⟩
            unfold thr
            go_wp2_with fail
            exact unhide HKEY 2 _ w7 (unhide HE) ((unhide HBX6).below hb7) _ rfl rfl
    · have q32 : ((b : Int) != 32) = true := by simp; omega
      by_cases h58 : b = 58
      · have HQ1 : Hid (RR = raB s zSV l) := hide (by rw [(unhide HQB).1, unhide HLB, if_neg (fun q => q.2 h58), sbd_ok]; rfl)
        have HQ1 := hide ((unhide HQ1).trans ((unhide HQB).2 _ _))
        have q58 : ((b : Int) != 58) = false := by simp; omega
        clear h58 h32 HQB HLB
        go_wp2_with fail
        rw [show w1.alloc (.cells #[.slice xa l.length cap, .int .i64 (s.size : Int), .int .i64 0, .map (some w0.heap.size)] 81) = w2 from (unhide HW2).1.symm]
        rw [show w1.heap.size = z from (unhide HW2).2.symm]
        clear HW2
        have HA : Hid (RR = sbd (ddS C.E 400 zSV l) fun S q => sbd (wyS C.E S q) fun S m => if m.length = 0 then .ok (S, m) else .error (2, (ahd C.E 0 m).a)) := hide (unhide HQ1)
        have HD : Hid (Calls Tryz.prog 36 #[.pointer (some ⟨z, 0, none⟩), .pointer (some ⟨B, 0, none⟩)] w2 fun e w' => StPost C 0 (z + 1) B w2 (ddS C.E 400 zSV l) e w') := hide (by
          have q := sdeed_any (B := z + 1) (S := _) w2 (unhide HX).1 (unhide HX).2.1 (unhide H2).st.rdr ((unhide HX).2.2.1.but2 (unhide H2).st.but (unhide HX).2.1) (unhide H2).st.stm (Nat.le_trans (unhide HX).2.2.2.2 (unhide H2).st.but.size) rfl rfl rfl rfl
          rw [unhide HCZ] at q
          exact q)
        clear HQ1
        refine (unhide HD).mono ?_
        intro e w5 hp
        obtain ⟨hbx5, hbu5, hq5⟩ := (unhide H2).post (unhide HCZ) (unhide HX).2.2.2.1 hp
        clear hp HD
        cases hr5 : ddS C.E 400 zSV l with
        | error x =>
          obtain ⟨er, i⟩ := x
          rw [hr5] at hq5
          have hq5 : e = thr er i := hq5
          subst hq5
          have hE := unhide HA
          rw [hr5, sbd_err] at hE
          clear hr5
          unfold thr
          go_wp2_with fail
          exact unhide HKEY er i w5 hE hbx5 _ rfl rfl
        | ok x =>
          obtain ⟨P5, l5⟩ := x
          rw [hr5] at hq5
          obtain ⟨he5, S5, h5⟩ := hq5
          subst he5
          have H5 := hide h5
          have hE := unhide HA
          rw [hr5, sbd_ok] at hE
          have HA5 := hide hE
          have HY : Hid (Calls Tryz.prog 37 #[.pointer (some ⟨z, 0, none⟩), .pointer (some ⟨B, 0, none⟩)] w5 fun e w' => StPost C 0 (z + 1) B w5 (wyS C.E P5 l5) e w') := hide (by
            have q := swaysOn_any (B := z + 1) w5 (unhide HX).1 h5.st.rdr h5.st.stm
            rw [unhide HCZ] at q
            exact q)
          clear hr5 h5 hbx5 hbu5 hE HA
          go_wp2_with fail
          refine (unhide HY).mono ?_
          intro e w6 hp
          obtain ⟨hbx6, hbu6, hq6⟩ := (unhide H5).post (unhide HCZ) (unhide HX).2.2.2.1 hp
          clear hp HY
          cases hr6 : wyS C.E P5 l5 with
          | error x =>
            obtain ⟨er, i⟩ := x
            rw [hr6] at hq6
            have hq6 : e = thr er i := hq6
            subst hq6
            have hE := unhide HA5
            rw [hr6, sbd_err] at hE
            clear hr6
            unfold thr
            go_wp2_with fail
            exact unhide HKEY er i w6 hE hbx6 _ rfl rfl
          | ok x =>
            obtain ⟨P6, l6⟩ := x
            rw [hr6] at hq6
            obtain ⟨he6, S6, h6⟩ := hq6
            subst he6
            have hE := unhide HA5
            rw [hr6, sbd_ok] at hE
            have H6 := hide h6
            have HA6 := hide hE
            obtain ⟨xa6, cap6, off6, hblk, k61, k62, -, -⟩ := h6.st.rdr.blk
            rw [unhide HCZ] at hblk
            have c0 : w6.cell? ⟨z, 0, none⟩ = some (.slice xa6 l6.length cap6) := cr hblk
            have HST : Hid (Calls Tryz.prog 38 #[.pointer (some ⟨z, 0, none⟩)] w6 fun e w' => e = thr 2 (ahd C.E 0 l6).a ∧ Below w6.heap.size w6 w') := hide (by
              have q := sstop_any w6 h6.st.rdr
              rw [unhide HCZ] at q
              exact q)
            have HBX6 := hide hbx6
            clear hr6 h6 hblk hbu6 hE HA5 H5 hbx6 k61 k62
            by_cases hl6 : l6.length = 0
            · have hE := unhide HA6
              rw [if_pos hl6] at hE
              have HE := hide hE
              have q6 : ¬ (0 : Int) < (l6.length : Int) := by omega
              clear hl6 hE
              obtain ⟨Cs, hCs⟩ : ∃ Cs, Cs = S6.cells := ⟨_, rfl⟩
              have hz6 : Cs.size = 24 := by rw [hCs]; rfl
              have h16 : Cs.all (·.oneCell') = true := by rw [hCs]; exact SV.cells_one S6
              have hb6 : w6.heap[B]? = some (.cells Cs 47 (0, 0)) := by rw [hCs]; exact (unhide H6).st.stm.box
              have HSL : Hid (SLies (z + 1) w6 S6) := hide (⟨(unhide H6).st.stm.txt, (unhide H6).st.stm.tg, (unhide H6).st.stm.va, (unhide H6).st.stm.pa, (unhide H6).st.stm.ps, (unhide H6).st.stm.ls⟩)
              have HB6 := hide hb6
              have H16 := hide h16
              have HZ6 := hide hz6
              have HB7 := hide (setRow_heap w6 B Cs Cs _ _ hb6)
              have HF7 := hide ((setRow_other w6 B (B + 1) Cs (by omega)).trans (unhide HBX6).fbox)
              have HF8 := hide (setRow_heap (w6.setRow B Cs) (B + 1) _ #[.int .i64 0, .int .i64 0] _ _ (unhide HF7))
              have HB8 := hide ((setRow_other (w6.setRow B Cs) (B + 1) B #[.int .i64 0, .int .i64 0] (by omega)).trans (unhide HB7))
              have HSV : Hid (S6.v = .agg Cs) := hide (by rw [hCs]; rfl)
              have HCN : Hid (S6.can = P6) := hide ((unhide H6).st.stm.can)
              clear hz6 h16 hb6 hCs
              go_wp2_with (first
                | (refine wpList_load_row rfl 47 _ rfl B rfl 47 Cs (0, 0) _ (unhide HB6) Tryz.underlying47 rfl (sySize_stm.trans (by rw [unhide HZ6])) ?_)
                | (refine wpList_store_row rfl 47 _ _ rfl B Cs rfl rfl 47 Cs (unhide HB6) (sySize_stm.trans (by rw [unhide HZ6])) rfl (unhide H16) ?_)
                | (refine wpList_store_row rfl 30 _ _ rfl (B + 1) #[.int .i64 0, .int .i64 0] rfl rfl 30 #[.int .i64 0, .int .i64 0] (by with_reducible exact unhide HF7) sySize_fau rfl (by simp [Value.oneCell']) ?_)
                | fail)
              (try go_frame)
              refine leaves_cons (f := 33) (args := #[.pointer (some ⟨B + 1, 0, none⟩)]) (by simp) (by simp [go_sem]) ?_
              refine (scatch_idle _ _).mono ?_
              rintro e u' w'' ⟨rfl, rfl, rfl⟩
              refine ⟨_, sres_two _ _ B (B + 1) Cs #[.int .i64 0, .int .i64 0] rfl rfl (unhide HB8) (unhide HF8) (unhide HZ6) rfl, unhide HPO _ _ ⟨below_setRow (below_setRow (unhide HBX6).bel B (Nat.le_refl _) Cs) (B + 1) (by omega) _, fun p' j' h => ?_, fun er' a' h => ?_⟩⟩
              · rw [unhide HE] at h
                injection h with h; injection h with h1 h2
                subst h1
                exact ⟨S6, by rw [unhide HSV]; rfl, unhide HCN, (((unhide HSL).setRow (g := B) (by have := (unhide HX).2.2.2.1; omega) Cs).setRow (g := B + 1) (by have := (unhide HX).2.2.2.1; omega) _).mono (by have := (unhide HX).2.2.2.1; omega)⟩
              · rw [unhide HE] at h; cases h
            · have hE := unhide HA6
              rw [if_neg hl6] at hE
              have HE := hide hE
              have q6 : (0 : Int) < (l6.length : Int) := by omega
              clear hl6 hE
              go_wp2_with fail
              refine (unhide HST).mono ?_
              rintro e w7 ⟨rfl, hb7⟩
              unfold thr
              go_wp2_with fail
              exact unhide HKEY 2 _ w7 (unhide HE) ((unhide HBX6).below hb7) _ rfl rfl
      · have q58 : ((b : Int) != 58) = true := by simp; omega
        have HQ0 : Hid (RR = sbd (nmS C.E l) fun t r => raB s { zSV with lab := t } r) := hide (by rw [(unhide HQB).1, unhide HLB, if_pos ⟨h32, h58⟩])
        have HNM : Hid (Calls Tryz.prog 35 #[.pointer (some ⟨z, 0, none⟩)] w2 fun e w' => SyPost strV C 0 w2 (nmS C.E l) e w') := hide (by
          have q := sname_any w2 (unhide H2).st.rdr
          rw [unhide HCZ] at q
          exact q)
        have HSM := hide (fun t q h => nmS_sm (t := t) (r := q) (unhide H2).st.rdr h)
        clear h58 h32 HLB
        go_wp2_with fail
        rw [show w1.alloc (.cells #[.slice xa l.length cap, .int .i64 (s.size : Int), .int .i64 0, .map (some w0.heap.size)] 81) = w2 from (unhide HW2).1.symm]
        rw [show w1.heap.size = z from (unhide HW2).2.symm]
        clear HW2
        refine (unhide HNM).mono ?_
        intro e w3 hp
        clear HNM
        cases hr3 : nmS C.E l with
        | error x =>
          obtain ⟨er, i⟩ := x
          obtain ⟨hb3, rfl⟩ := sof_err hp hr3
          have hE := unhide HQ0
          rw [hr3, sbd_err] at hE
          have hbx := (unhide H2).bx.but2 (z := C.z) (But2.of hb3) (by have := (unhide HX).2.2.2.1; rw [unhide HCZ]; exact this)
          clear hr3 hp
          unfold thr
          go_wp2_with fail
          exact unhide HKEY er i w3 hE hbx _ rfl rfl
        | ok x =>
          obtain ⟨t, r⟩ := x
          obtain ⟨hb3, rfl, hR3⟩ := sof_ok hp hr3
          have hE := unhide HQ0
          rw [hr3, sbd_ok] at hE
          have HQ1 := hide (hE.trans ((unhide HQB).2 _ _))
          have h3 := (unhide H2).st.next (unhide HX).1 hb3 hR3
          have c0 := h3.stm.cell (k := 0) rfl
          have f0 := h3.stm.fz 0
          have hbx := ((unhide H2).bx.but2 (z := C.z) (But2.of hb3) (by have := (unhide HX).2.2.2.1; rw [unhide HCZ]; exact this))
          have HT3 := hide (unhide HSM t r hr3)
          have h4 := h3.lab (unhide HX).1 (unhide HT3)
          have H4 : Hid (RaS C z B w w2 (w3.setCell ⟨B, 0, none⟩ (.string t)) r { zSV with lab := t } { zSV with lab := t }) := hide (⟨h4, hbx.but2 (z := C.z) ((But2.refl C.z B w3).set 0 (.string t)) (by have := (unhide HX).2.2.2.1; rw [unhide HCZ]; exact this)⟩)
          clear hr3 hp hb3 hR3 hE HQ0 HQB h3 hbx h4 HSM
          go_wp2_with fail
          obtain ⟨w4, hw4⟩ : ∃ w4, w4 = w3.setCell ⟨B, 0, none⟩ (.string t) := ⟨_, rfl⟩
          rw [← hw4] at H4 ⊢
          clear hw4 c0 f0 HT3
          have HA : Hid (RR = sbd (ddS C.E 400 { zSV with lab := t } r) fun S q => sbd (wyS C.E S q) fun S m => if m.length = 0 then .ok (S, m) else .error (2, (ahd C.E 0 m).a)) := hide (unhide HQ1)
          have HD : Hid (Calls Tryz.prog 36 #[.pointer (some ⟨z, 0, none⟩), .pointer (some ⟨B, 0, none⟩)] w4 fun e w' => StPost C 0 (z + 1) B w4 (ddS C.E 400 { zSV with lab := t } r) e w') := hide (by
            have q := sdeed_any (B := z + 1) (S := _) w4 (unhide HX).1 (unhide HX).2.1 (unhide H4).st.rdr ((unhide HX).2.2.1.but2 (unhide H4).st.but (unhide HX).2.1) (unhide H4).st.stm (Nat.le_trans (unhide HX).2.2.2.2 (unhide H4).st.but.size) rfl rfl rfl rfl
            rw [unhide HCZ] at q
            exact q)
          clear HQ1
          refine (unhide HD).mono ?_
          intro e w5 hp
          obtain ⟨hbx5, hbu5, hq5⟩ := (unhide H4).post (unhide HCZ) (unhide HX).2.2.2.1 hp
          clear hp HD
          cases hr5 : ddS C.E 400 { zSV with lab := t } r with
          | error x =>
            obtain ⟨er, i⟩ := x
            rw [hr5] at hq5
            have hq5 : e = thr er i := hq5
            subst hq5
            have hE := unhide HA
            rw [hr5, sbd_err] at hE
            clear hr5
            unfold thr
            go_wp2_with fail
            exact unhide HKEY er i w5 hE hbx5 _ rfl rfl
          | ok x =>
            obtain ⟨P5, l5⟩ := x
            rw [hr5] at hq5
            obtain ⟨he5, S5, h5⟩ := hq5
            subst he5
            have H5 := hide h5
            have hE := unhide HA
            rw [hr5, sbd_ok] at hE
            have HA5 := hide hE
            have HY : Hid (Calls Tryz.prog 37 #[.pointer (some ⟨z, 0, none⟩), .pointer (some ⟨B, 0, none⟩)] w5 fun e w' => StPost C 0 (z + 1) B w5 (wyS C.E P5 l5) e w') := hide (by
              have q := swaysOn_any (B := z + 1) w5 (unhide HX).1 h5.st.rdr h5.st.stm
              rw [unhide HCZ] at q
              exact q)
            clear hr5 h5 hbx5 hbu5 hE HA
            go_wp2_with fail
            refine (unhide HY).mono ?_
            intro e w6 hp
            obtain ⟨hbx6, hbu6, hq6⟩ := (unhide H5).post (unhide HCZ) (unhide HX).2.2.2.1 hp
            clear hp HY
            cases hr6 : wyS C.E P5 l5 with
            | error x =>
              obtain ⟨er, i⟩ := x
              rw [hr6] at hq6
              have hq6 : e = thr er i := hq6
              subst hq6
              have hE := unhide HA5
              rw [hr6, sbd_err] at hE
              clear hr6
              unfold thr
              go_wp2_with fail
              exact unhide HKEY er i w6 hE hbx6 _ rfl rfl
            | ok x =>
              obtain ⟨P6, l6⟩ := x
              rw [hr6] at hq6
              obtain ⟨he6, S6, h6⟩ := hq6
              subst he6
              have hE := unhide HA5
              rw [hr6, sbd_ok] at hE
              have H6 := hide h6
              have HA6 := hide hE
              obtain ⟨xa6, cap6, off6, hblk, k61, k62, -, -⟩ := h6.st.rdr.blk
              rw [unhide HCZ] at hblk
              have c0 : w6.cell? ⟨z, 0, none⟩ = some (.slice xa6 l6.length cap6) := cr hblk
              have HST : Hid (Calls Tryz.prog 38 #[.pointer (some ⟨z, 0, none⟩)] w6 fun e w' => e = thr 2 (ahd C.E 0 l6).a ∧ Below w6.heap.size w6 w') := hide (by
                have q := sstop_any w6 h6.st.rdr
                rw [unhide HCZ] at q
                exact q)
              have HBX6 := hide hbx6
              clear hr6 h6 hblk hbu6 hE HA5 H5 hbx6 k61 k62
              by_cases hl6 : l6.length = 0
              · have hE := unhide HA6
                rw [if_pos hl6] at hE
                have HE := hide hE
                have q6 : ¬ (0 : Int) < (l6.length : Int) := by omega
                clear hl6 hE
                obtain ⟨Cs, hCs⟩ : ∃ Cs, Cs = S6.cells := ⟨_, rfl⟩
                have hz6 : Cs.size = 24 := by rw [hCs]; rfl
                have h16 : Cs.all (·.oneCell') = true := by rw [hCs]; exact SV.cells_one S6
                have hb6 : w6.heap[B]? = some (.cells Cs 47 (0, 0)) := by rw [hCs]; exact (unhide H6).st.stm.box
                have HSL : Hid (SLies (z + 1) w6 S6) := hide (⟨(unhide H6).st.stm.txt, (unhide H6).st.stm.tg, (unhide H6).st.stm.va, (unhide H6).st.stm.pa, (unhide H6).st.stm.ps, (unhide H6).st.stm.ls⟩)
                have HB6 := hide hb6
                have H16 := hide h16
                have HZ6 := hide hz6
                have HB7 := hide (setRow_heap w6 B Cs Cs _ _ hb6)
                have HF7 := hide ((setRow_other w6 B (B + 1) Cs (by omega)).trans (unhide HBX6).fbox)
                have HF8 := hide (setRow_heap (w6.setRow B Cs) (B + 1) _ #[.int .i64 0, .int .i64 0] _ _ (unhide HF7))
                have HB8 := hide ((setRow_other (w6.setRow B Cs) (B + 1) B #[.int .i64 0, .int .i64 0] (by omega)).trans (unhide HB7))
                have HSV : Hid (S6.v = .agg Cs) := hide (by rw [hCs]; rfl)
                have HCN : Hid (S6.can = P6) := hide ((unhide H6).st.stm.can)
                clear hz6 h16 hb6 hCs
                go_wp2_with (first
                  | (refine wpList_load_row rfl 47 _ rfl B rfl 47 Cs (0, 0) _ (unhide HB6) Tryz.underlying47 rfl (sySize_stm.trans (by rw [unhide HZ6])) ?_)
                  | (refine wpList_store_row rfl 47 _ _ rfl B Cs rfl rfl 47 Cs (unhide HB6) (sySize_stm.trans (by rw [unhide HZ6])) rfl (unhide H16) ?_)
                  | (refine wpList_store_row rfl 30 _ _ rfl (B + 1) #[.int .i64 0, .int .i64 0] rfl rfl 30 #[.int .i64 0, .int .i64 0] (by with_reducible exact unhide HF7) sySize_fau rfl (by simp [Value.oneCell']) ?_)
                  | fail)
                (try go_frame)
                refine leaves_cons (f := 33) (args := #[.pointer (some ⟨B + 1, 0, none⟩)]) (by simp) (by simp [go_sem]) ?_
                refine (scatch_idle _ _).mono ?_
                rintro e u' w'' ⟨rfl, rfl, rfl⟩
                refine ⟨_, sres_two _ _ B (B + 1) Cs #[.int .i64 0, .int .i64 0] rfl rfl (unhide HB8) (unhide HF8) (unhide HZ6) rfl, unhide HPO _ _ ⟨below_setRow (below_setRow (unhide HBX6).bel B (Nat.le_refl _) Cs) (B + 1) (by omega) _, fun p' j' h => ?_, fun er' a' h => ?_⟩⟩
                · rw [unhide HE] at h
                  injection h with h; injection h with h1 h2
                  subst h1
                  exact ⟨S6, by rw [unhide HSV]; rfl, unhide HCN, (((unhide HSL).setRow (g := B) (by have := (unhide HX).2.2.2.1; omega) Cs).setRow (g := B + 1) (by have := (unhide HX).2.2.2.1; omega) _).mono (by have := (unhide HX).2.2.2.1; omega)⟩
                · rw [unhide HE] at h; cases h
              · have hE := unhide HA6
                rw [if_neg hl6] at hE
                have HE := hide hE
                have q6 : (0 : Int) < (l6.length : Int) := by omega
                clear hl6 hE
                go_wp2_with fail
                refine (unhide HST).mono ?_
                rintro e w7 ⟨rfl, hb7⟩
                unfold thr
                go_wp2_with fail
                exact unhide HKEY 2 _ w7 (unhide HE) ((unhide HBX6).below hb7) _ rfl rfl
end Go.Proofs.YtpkmamgleofimaaGreatDoor
