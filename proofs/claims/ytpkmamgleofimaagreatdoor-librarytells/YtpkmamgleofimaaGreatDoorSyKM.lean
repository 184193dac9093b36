/- The reader of lines: signs ahead of a piece. The reader of lines: what holds together as tight as a level says, or tighter. -/
import Derived.Test.YtpkmamgleofimaaGreatDoorSyIM
namespace Go.Proofs.YtpkmamgleofimaaGreatDoor
open Go.RowKit

section
variable {E : Nat} {p : Option Lv} {l : List Tk}
theorem sgS_neg (h : isS (ahd E 0 l) (sgn 45) = true) : sgS E p l = sbd (sgO E p l.tail) fun x r => .ok (exE 7 [x], r) := by unfold sgS; rw [if_pos h]
theorem sgS_no (h : isS (ahd E 0 l) (sgn 45) = false) : sgS E p l = piS E p l := by unfold sgS; rw [if_neg (by rw [h]; decide)]
end
set_option maxRecDepth 100000 in
set_option maxHeartbeats 8000000 in
theorem ssigned_any {d : Nat} (hd : d ≤ 400) (HP : XSays 131 d (fun E => piS E (lvO E d))) (HPP : ∀ d', d = d' + 1 → XSays 123 d' (fun E => sgS E (lvO E d'))) : XSays 123 d (fun E => sgS E (lvO E d)) := by
  intro C l w hR hE
  have HR := hide hR
  have HE := hide hE
  have hzl := hR.lt
  have HX3 := hide (XRes.start hR)
  have hw2 : w.heap.size + 1 ≤ (w.alloc (.cells zeroP 42)).heap.size := (unhide HX3).size
  have HNP : Hid (∀ l w, Syr C w l (400 - d) → SyEnv C w → Calls Tryz.prog 131 #[.pointer (some ⟨C.z, 0, none⟩)] w fun e w' => SyPost (patL w.heap.size) C (400 - d) w (piS C.E (lvO C.E d) l) e w') := hide (fun l w h k => HP C l w h k)
  show Calls _ _ _ _ fun e w' => SyPost (patL w.heap.size) C (400 - d) w (sgS C.E (lvO C.E d) l) e w'
  obtain ⟨RR, hRR⟩ : ∃ RR, RR = sgS C.E (lvO C.E d) l := ⟨_, rfl⟩
  rw [← hRR]
  have HQ := hide hRR
  clear hE HP hRR
  generalize ho : 400 - d = o at *
  have HO := hide ho
  clear hR ho
  cases h4 : isS (ahd C.E 0 l) (sgn 45)
  · have HQ1 : Hid (RR = piS C.E (lvO C.E d) l) := hide ((unhide HQ).trans (sgS_no h4))
    have HC := hide (stake_no (sgn 45) _ (unhide HX3).rdr h4)
    clear h4 HQ HPP
    unfold sgn at HC
    generalize piS C.E (lvO C.E d) = PF at *
    go_enter Tryz.func123, Tryz.ntmps123
    go_wp2_with fail
    refine (unhide HC).mono ?_
    rintro e w4 ⟨rfl, hb4⟩
    have HX4 := hide ((unhide HX3).below hb4)
    have HE4 := hide (unhide HNP l w4 (unhide HX4).rdr ((unhide HE).but (unhide HX4).but))
    clear hb4 HC HNP
    go_wp2_with fail
    refine (unhide HE4).mono ?_
    intro e w5 hp
    cases hq : PF l with
    | error x =>
      obtain ⟨er, i⟩ := x
      obtain ⟨hb5, rfl⟩ := sof_err hp hq
      have HB5 := hide ((unhide HX4).but.trans hb5)
      have HQ2 : Hid (RR = .error (er, i)) := hide (by rw [unhide HQ1, hq])
      clear hp hb5 hq
      unfold thr
      go_wp2_with fail
      exact ⟨rfl, spost_err (unhide HQ2) (unhide HB5) rfl⟩
    | ok x =>
      obtain ⟨x, r⟩ := x
      obtain ⟨hb5, ⟨U, rfl, hcan, hlie⟩, hR5⟩ := sof_ok hp hq
      have HX5 := hide ((unhide HX4).next hzl hb5 hR5)
      have HL5 : Hid (U.can = x ∧ Lies (w.heap.size + 1) w5 U) := hide (⟨hcan, hlie.mono (unhide HX4).size⟩)
      have HQ2 : Hid (RR = .ok (x, r)) := hide (by rw [unhide HQ1, hq])
      clear hp hb5 hq hcan hlie hR5 HE4
      unfold pv
      go_wp2_with (first
        | (refine wpList_store_row rfl 42 _ _ rfl w.heap.size #[.int .i64 U.k, .string U.t, .int .i64 U.n, .string U.nm, .slice U.xa U.len U.cap] rfl rfl 42 zeroP (unhide HX5).res size_ex rfl (by simp [Value.oneCell']) ?_)
        | fail)
      (try simp only [Exit.inBlock, Exit.then])
      refine bodyPost_ret (results_cell_row rfl _ _ w.heap.size 42 #[.int .i64 U.k, .string U.t, .int .i64 U.n, .string U.nm, .slice U.xa U.len U.cap] (0, 0) _ rfl (setRow_heap _ _ _ _ _ _ (unhide HX5).res) Tryz.underlying42 rfl size_ex) rfl ?_
      exact (unhide HX5).done (U := U) (unhide HR) (unhide HQ2) (unhide HL5).1 (unhide HL5).2 _
  · have HQ1 : Hid (RR = _) := hide ((unhide HQ).trans (sgS_neg h4))
    have HC := hide (stake_yes (sgn 45) _ (unhide HX3).rdr h4)
    clear h4 HQ HNP
    unfold sgn at HC
    cases d with
    | zero =>
      have HQ2 : Hid (RR = .error (4, (ahd C.E 0 l.tail).a)) := hide (by rw [unhide HQ1]; rfl)
      have HEN := hide (fun w h => senter_no (C := C) (l := l.tail) (o := o) w h (unhide HO).symm)
      clear HQ1 HPP
      generalize (ahd C.E 0 l.tail).a = ae at *
      go_enter Tryz.func123, Tryz.ntmps123
      go_wp2_with fail
      refine (unhide HC).mono ?_
      rintro e w4 ⟨rfl, hb4, hR4⟩
      have HB4 := hide ((unhide HX3).but.trans hb4)
      have HE4 := hide (unhide HEN _ hR4)
      clear hb4 hR4 HC HEN
      go_wp2_with fail
      refine (unhide HE4).mono ?_
      rintro e w5 ⟨rfl, hb5⟩
      have HB5 := hide ((unhide HB4).trans hb5)
      clear hb5
      unfold thr
      go_wp2_with fail
      exact ⟨rfl, spost_err (unhide HQ2) (unhide HB5) rfl⟩
    | succ d =>
      have HQ2 : Hid (RR = sbd (sgS C.E (lvO C.E d) l.tail) fun x r => .ok (exE 7 [x], r)) := hide (by rw [unhide HQ1]; rfl)
      have hO := unhide HO
      have HEN := hide (fun w h => senter_ok (C := C) (l := l.tail) (o := o) w h (by omega))
      rw [show o + 1 = 400 - d by omega] at HEN
      have HPC : Hid (∀ l w, Syr C w l (400 - d) → SyEnv C w → Calls Tryz.prog 123 #[.pointer (some ⟨C.z, 0, none⟩)] w fun e w' => SyPost (patL w.heap.size) C (400 - d) w (sgS C.E (lvO C.E d) l) e w') := hide (fun l w h k => HPP d rfl C l w h k)
      have HLV := hide (fun w l h => sleave_any (C := C) (l := l) (o := o) w h (by omega))
      rw [show o + 1 = 400 - d by omega] at HLV
      clear HQ1 HPP hd hO HO
      generalize 400 - d = o1 at *
      generalize lvO C.E d = p at *
      go_enter Tryz.func123, Tryz.ntmps123
      go_wp2_with fail
      refine (unhide HC).mono ?_
      rintro e w4 ⟨rfl, hb4, hR4⟩
      have HX4 := hide ((unhide HX3).next hzl hb4 hR4)
      have HE4 := hide (unhide HEN _ hR4)
      clear hb4 hR4 HC HEN
      go_wp2_with fail
      refine (unhide HE4).mono ?_
      rintro e w5 ⟨rfl, hb5, hR5⟩
      have HX5 := hide ((unhide HX4).next hzl hb5 hR5)
      have HE5 := hide (unhide HPC l.tail w5 (unhide HX5).rdr ((unhide HE).but (unhide HX5).but))
      clear hb5 hR5 HE4 HPC
      go_wp2_with fail
      refine (unhide HE5).mono ?_
      intro e w6 hp
      cases hq : sgS C.E p l.tail with
      | error x =>
        obtain ⟨er, i⟩ := x
        obtain ⟨hb6, rfl⟩ := sof_err hp hq
        have HB6 := hide ((unhide HX5).but.trans hb6)
        have HQ3 : Hid (RR = .error (er, i)) := hide (by rw [unhide HQ2, hq, sbd_err])
        clear hp hb6 hq
        unfold thr
        go_wp2_with fail
        exact ⟨rfl, spost_err (unhide HQ3) (unhide HB6) rfl⟩
      | ok x =>
        obtain ⟨x, q⟩ := x
        obtain ⟨hb6, ⟨U0, rfl, hcan, hlie⟩, hR6⟩ := sof_ok hp hq
        have hal6 : Below w6.heap.size w6 (w6.alloc (.cells (patO U0) 42)) := ba _
        have hx6 := ((unhide HX5).next hzl hb6 hR6).below hal6
        have HX6 := hide hx6
        have HV6 : Hid ((w6.alloc (.cells (patO U0) 42)).heap[w6.heap.size]? = some (.cells (patO U0) 42 (0, 0))) := hide (at_new rfl)
        have HL6 : Hid (U0.can = x ∧ Lies (w.heap.size + 1) (w6.alloc (.cells (patO U0) 42)) U0) := hide (⟨hcan, (hlie.mono (unhide HX5).size).below hal6⟩)
        have HQ3 : Hid (RR = .ok (exE 7 [x], q)) := hide (by rw [unhide HQ2, hq, sbd_ok])
        have HN6 := hide (unhide HLV _ q hx6.rdr)
        have hw6 : w.heap.size + 1 ≤ w6.heap.size := ((unhide HX5).next hzl hb6 hR6).size
        clear hp hb6 hq hcan hlie hR6 hal6 hx6 HE5 HLV
        unfold pv
        unfold patO at HX6 HV6 HL6 HN6
        go_wp2_with fail
        refine (unhide HN6).mono ?_
        rintro e w7 ⟨rfl, hb7, hR7⟩
        have hx7 := (unhide HX6).next hzl hb7 hR7
        have hv7 := hb7.row (show w6.heap.size ≠ C.z by omega) (unhide HV6)
        obtain ⟨s0, s1, s2, s3, s4⟩ := cells5 hv7
        have hl7 : Lies (w.heap.size + 1) w7 U0 := (unhide HL6).2.but hb7 (by omega)
        obtain ⟨U, ⟨hpv, hpo⟩, hcn, hli⟩ := kids_node (k := 7) (nm := ⟨#[]⟩) (KidsX.one (B := w.heap.size + 1) hl7 (Nat.le_refl _) hx7.size) ⟨by decide, by decide⟩ (by decide)
        have hal8 : Below w7.heap.size w7 (w7.alloc (.cells (patO U0) 42)) := ba _
        have HX4 := hide (hx7.below hal8)
        have HL4 : Hid (U.can = exE 7 [x] ∧ Lies (w.heap.size + 1) (w7.alloc (.cells (patO U0) 42)) U) := hide (⟨by rw [hcn, (unhide HL6).1]; rfl, hli⟩)
        have HPO := hide (And.intro hpo hpv)
        clear hb7 hR7 hv7 hx7 HN6 HX6 HV6 HL6 hpv hpo hcn hli hl7 hal8
        unfold patO at HX4 HL4
        go_wp2_with (first
          | (refine wpList_store_row rfl 42 _ _ rfl w.heap.size #[.int .i64 7, .string ⟨#[]⟩, .int .i64 0, .string ⟨#[]⟩, .slice (some ⟨w7.heap.size, 0, none⟩) 1 1] rfl rfl 42 zeroP (unhide HX4).res size_ex rfl (by simp [Value.oneCell']) ?_)
          | fail)
        (try simp only [Exit.inBlock, Exit.then])
        refine bodyPost_ret (results_cell_row rfl _ _ w.heap.size 42 #[.int .i64 7, .string ⟨#[]⟩, .int .i64 0, .string ⟨#[]⟩, .slice (some ⟨w7.heap.size, 0, none⟩) 1 1] (0, 0) _ rfl (setRow_heap _ _ _ _ _ _ (unhide HX4).res) Tryz.underlying42 rfl size_ex) rfl ?_
        rw [← (unhide HPO).2]
        exact (unhide HX4).done (U := U) (unhide HR) (unhide HQ3) (unhide HL4).1 (unhide HL4).2 _
end Go.Proofs.YtpkmamgleofimaaGreatDoor

namespace Go.Proofs.YtpkmamgleofimaaGreatDoor
open Go.RowKit

theorem rowS_four (E : Nat) (p : Option Lv) : rowS E p 4 = sgS E p := rfl
theorem rowS_step {E : Nat} {p : Option Lv} {lv : Nat} (h1 : 1 ≤ lv) (h2 : lv ≤ 3) : rowS E p lv = rwS E lv (rowS E p (lv + 1)) := by
  have : lv = 1 ∨ lv = 2 ∨ lv = 3 := by omega
  rcases this with rfl | rfl | rfl <;> rfl
def tkN (w : World) (z : Nat) : Nat := match w.cell? ⟨z, 0, none⟩ with | some (.slice _ n _) => n | _ => 0
theorem Syr.tkN {C : SyC} {w : World} {l : List Tk} {o : Nat} (h : Syr C w l o) : tkN w C.z = l.length := by
  obtain ⟨xa, cap, off, h1, -⟩ := h.blk
  have : w.cell? ⟨C.z, 0, none⟩ = some (.slice xa l.length cap) := cr h1
  unfold Go.Proofs.YtpkmamgleofimaaGreatDoor.tkN
  rw [this]
def ten (V U : PT) : Array Value := #[.int .i64 V.k, .string V.t, .int .i64 V.n, .string V.nm, .slice V.xa V.len V.cap, .int .i64 U.k, .string U.t, .int .i64 U.n, .string U.nm, .slice U.xa U.len U.cap]
theorem row_twoX {w : World} {B g : Nat} {V U : PT} (h : w.heap[g]? = some (.cells (ten V U) 42 (0, 0))) (hB : B ≤ g) : Row w B 42 5 five (.slice (some ⟨g, 0, none⟩) 2 2) [V, U] :=
  ⟨rfl, .inr ⟨g, 2, ten V U, rfl, hB, h, Nat.le_refl _, by unfold maxLen; decide, rfl, rfl⟩⟩
theorem rowN2_liesX {B gk : Nat} {k : Int} {g : Option Nat} {w : World} {V U : PT} (hk : 0 ≤ k ∧ k ≤ 100) (hr : w.heap[gk]? = some (.cells (ten V U) 42 (0, 0))) (hB : B ≤ gk) (hg : some gk ≠ g) (hV : LiesX B g w V) (hU : LiesX B g w U) : LiesX B g w (rowN k ⟨#[]⟩ gk 2 [V, U]) := by
  intro X hX
  have hlt : gk < w.heap.size := (Array.getElem?_eq_some_iff.1 hr).1
  have hr2 : X.heap[gk]? = some (.cells (ten V U) 42 (0, 0)) := (hX gk hB hlt hg).trans hr
  exact rowX_in (row_twoX hr2 (B := B) hB) (fun x hx => by
    simp only [List.mem_cons, List.not_mem_nil, or_false] at hx
    rcases hx with rfl | rfl
    · exact hV X hX
    · exact hU X hX) hk (by decide)
theorem kb_le (lv : Nat) (t : Tk) : kbS lv t = 0 ∨ (8 ≤ kbS lv t ∧ kbS lv t ≤ 13) := by
  unfold kbS
  split
  · exact btw_le _
  · exact .inl rfl
theorem kb_ne {E lv : Nat} {l : List Tk} (h : kbS lv (ahd E 0 l) ≠ 0) : l ≠ [] := by
  rintro rfl
  exact h rfl
structure RwL (C : SyC) (o : Nat) (w : World) (gp : Nat) (wr : World) (l : List Tk) (V q : PT) : Prop where
  res : XRes C o w wr l
  box : wr.heap[gp]? = some (.cells (patO V) 42 (0, 0))
  can : V.can = q
  lies : LiesX (w.heap.size + 1) (some gp) wr V
  low : w.heap.size < gp
theorem RwL.next {C : SyC} {o : Nat} {w : World} {gp : Nat} {wr w' : World} {l l' : List Tk} {V q : PT} (h : RwL C o w gp wr l V q) (hz : C.z < w.heap.size) (hb : But C.z wr w') (hR : Syr C w' l' o) : RwL C o w gp w' l' V q :=
  ⟨h.res.next hz hb hR, hb.row (by have := h.low; omega) h.box, h.can, h.lies.but hb (by omega), h.low⟩
theorem RwL.below {C : SyC} {o : Nat} {w : World} {gp : Nat} {wr w' : World} {l : List Tk} {V q : PT} (h : RwL C o w gp wr l V q) (hb : Below wr.heap.size wr w') : RwL C o w gp w' l V q :=
  ⟨h.res.below hb, row_below h.box hb, h.can, h.lies.below hb, h.low⟩
theorem RwL.put {C : SyC} {o : Nat} {w : World} {l0 : List Tk} {o0 gp gk : Nat} {W : World} {l : List Tk} {V q U y : PT} {k : Int} (h : RwL C o w gp W l V q) (h0 : Syr C w l0 o0) (hk : 0 ≤ k ∧ k ≤ 100) (hc : U.can = y) (hU : LiesX (w.heap.size + 1) (some gp) W U)
    (hr : W.heap[gk]? = some (.cells (ten V U) 42 (0, 0))) (hg : gp < gk) : RwL C o w gp (W.setRow gp (patO (rowN k ⟨#[]⟩ gk 2 [V, U]))) l (rowN k ⟨#[]⟩ gk 2 [V, U]) (exE k [q, y]) := by
  have hlo := h.low
  refine ⟨⟨but_setRow h.res.but (by omega) _, h.res.rdr.row h0 (by omega) _, (setRow_other W gp _ _ (by omega)).trans h.res.res⟩, setRow_heap _ _ _ _ _ _ h.box, ?_, ?_, hlo⟩
  · rw [rowN_can, List.map_cons, List.map_cons, List.map_nil, h.can, hc]; rfl
  · exact rowN2_liesX hk ((setRow_other W gp gk _ (by omega)).trans hr) (by omega) (fun e => by injection e with e; omega) (h.lies.setRow _) (hU.setRow _)
set_option maxRecDepth 100000 in
set_option maxHeartbeats 8000000 in
theorem srow_four {d : Nat} (HSG : XSays 123 d (fun E => sgS E (lvO E d))) : RSays d 4 := by
  intro C l w hR hE
  have HR := hide hR
  have hzl := hR.lt
  have HX3 := hide (XRes.start hR)
  have HC : Hid (Calls Tryz.prog 123 #[.pointer (some ⟨C.z, 0, none⟩)] (w.alloc (.cells zeroP 42)) fun e w' => SyPost (patL (w.alloc (.cells zeroP 42)).heap.size) C (400 - d) (w.alloc (.cells zeroP 42)) (sgS C.E (lvO C.E d) l) e w') := hide (HSG C l _ (unhide HX3).rdr (hE.but (unhide HX3).but))
  rw [rowS_four]
  obtain ⟨RR, hRR⟩ : ∃ RR, RR = sgS C.E (lvO C.E d) l := ⟨_, rfl⟩
  rw [← hRR] at HC ⊢
  clear hE HSG hRR
  generalize ho : 400 - d = o at *
  clear hR ho
  go_enter Tryz.func112, Tryz.ntmps112
  go_wp2_with fail
  refine (unhide HC).mono ?_
  intro e w5 hp
  cases hq : RR with
  | error x =>
    obtain ⟨er, i⟩ := x
    obtain ⟨hb5, rfl⟩ := sof_err hp hq
    have HB5 := hide ((unhide HX3).but.trans hb5)
    have HQ2 := hide hq
    clear hp hb5 hq
    unfold thr
    go_wp2_with fail
    exact ⟨rfl, spost_err (unhide HQ2) (unhide HB5) rfl⟩
  | ok x =>
    obtain ⟨x, r⟩ := x
    obtain ⟨hb5, ⟨U, rfl, hcan, hlie⟩, hR5⟩ := sof_ok hp hq
    have HX5 := hide ((unhide HX3).next hzl hb5 hR5)
    have HL5 : Hid (U.can = x ∧ Lies (w.heap.size + 1) w5 U) := hide (⟨hcan, hlie.mono (unhide HX3).size⟩)
    have HQ2 := hide hq
    clear hp hb5 hq hcan hlie hR5 HC
    unfold pv
    go_wp2_with (first
      | (refine wpList_store_row rfl 42 _ _ rfl w.heap.size #[.int .i64 U.k, .string U.t, .int .i64 U.n, .string U.nm, .slice U.xa U.len U.cap] rfl rfl 42 zeroP (unhide HX5).res size_ex rfl (by simp [Value.oneCell']) ?_)
      | fail)
    (try simp only [Exit.inBlock, Exit.then])
    refine bodyPost_ret (results_cell_row rfl _ _ w.heap.size 42 #[.int .i64 U.k, .string U.t, .int .i64 U.n, .string U.nm, .slice U.xa U.len U.cap] (0, 0) _ rfl (setRow_heap _ _ _ _ _ _ (unhide HX5).res) Tryz.underlying42 rfl size_ex) rfl ?_
    exact (unhide HX5).done (U := U) (unhide HR) (unhide HQ2) (unhide HL5).1 (unhide HL5).2 _
set_option maxRecDepth 100000 in
set_option maxHeartbeats 8000000 in
theorem srow_any {d lv : Nat} (h1 : 1 ≤ lv) (h2 : lv ≤ 3) (HN : RSays d (lv + 1)) : RSays d lv := by
  intro C l w hR hE
  have HR := hide hR
  have HE := hide hE
  have hzl := hR.lt
  have HX3 := hide (XRes.start hR)
  rw [rowS_step h1 h2]
  have HLE : Hid (∀ l : List Tk, Le l.length (rowS C.E (lvO C.E d) (lv + 1) l)) := hide (fun l => rowS_le (lvO_le d) (lv + 1) l)
  have HC : Hid (∀ l w, Syr C w l (400 - d) → SyEnv C w → Calls Tryz.prog 112 #[.pointer (some ⟨C.z, 0, none⟩), .int .i64 ((lv : Int) + 1)] w fun e w' => SyPost (patL w.heap.size) C (400 - d) w (rowS C.E (lvO C.E d) (lv + 1) l) e w') := hide (fun l w h k => HN C l w h k)
  obtain ⟨RR, hRR⟩ : ∃ RR, RR = rwS C.E lv (rowS C.E (lvO C.E d) (lv + 1)) l := ⟨_, rfl⟩
  rw [← hRR]
  have HQ : Hid (RR = sbd (rowS C.E (lvO C.E d) (lv + 1) l) fun x r => rwF C.E lv (rowS C.E (lvO C.E d) (lv + 1)) (r.length + 1) x r) := hide (hRR)
  clear hE HN hRR
  generalize ho : 400 - d = o at *
  generalize rowS C.E (lvO C.E d) (lv + 1) = PF at *
  clear hR ho
  have q4 : ((lv : Int) == 4) = false := bn
  have hlv : lv ≤ 3 := h2
  have HC0 := hide (unhide HC l _ (unhide HX3).rdr ((unhide HE).but (unhide HX3).but))
  clear h1 h2
  go_enter Tryz.func112, Tryz.ntmps112
  go_wp2_with fail
  refine (unhide HC0).mono ?_
  intro e w1 hp
  cases hq : PF l with
  | error x =>
    obtain ⟨er, i⟩ := x
    obtain ⟨hb5, rfl⟩ := sof_err hp hq
    have HB5 := hide ((unhide HX3).but.trans hb5)
    have HQ2 : Hid (RR = .error (er, i)) := hide (by rw [unhide HQ, hq, sbd_err])
    clear hp hb5 hq
    unfold thr
    go_wp2_with fail
    exact ⟨rfl, spost_err (unhide HQ2) (unhide HB5) rfl⟩
  | ok x =>
    obtain ⟨x0, r0⟩ := x
    obtain ⟨hb1, ⟨U, rfl, hcan, hlie⟩, hR1⟩ := sof_ok hp hq
    have hx1 := (unhide HX3).next hzl hb1 hR1
    have hal : Below w1.heap.size w1 (w1.alloc (.cells (patO U) 42)) := ba _
    have HI0 : Hid (RwL C o w w1.heap.size (w1.alloc (.cells (patO U) 42)) r0 U x0) := hide (⟨hx1.below hal, at_new rfl, hcan, hlie.newrow (unhide HX3).size _, hx1.size⟩)
    have HQ1 : Hid (RR = rwF C.E lv PF (r0.length + 1) x0 r0) := hide (by rw [unhide HQ, hq, sbd_ok])
    clear hp hb1 hq hcan hlie hR1 hx1 hal HC0 HQ HX3
    unfold pv
    go_wp2_with fail
    rw [show (#[.int .i64 U.k, .string U.t, .int .i64 U.n, .string U.nm, .slice U.xa U.len U.cap] : Array Value) = patO U from rfl]
    generalize (w1.alloc (.cells (patO U) 42)) = w2 at *
    generalize w1.heap.size = gp at *
    go_loopw [] (fun wr => ∃ (l' : List Tk) (V q : PT), Hid (RwL C o w gp wr l' V q) ∧ Hid (RR = rwF C.E lv PF (l'.length + 1) q l')) (fun wr => tkN wr C.z)
    case atStart => exact ⟨r0, U, x0, unhide HI0, unhide HQ1⟩
    case round =>
      obtain ⟨l', V, q, HI, HEQ⟩ := hrel
      have HM := hide (unhide HI).res.rdr.tkN
      have HKB := hide (skind_any lv wr (unhide HI).res.rdr ((unhide HE).but (unhide HI).res.but))
      have hkl := kb_le lv (ahd C.E 0 l')
      have HPS := hide (fun (h : kbS lv (ahd C.E 0 l') ≠ 0) w k => spass_any (C := C) (l := l') (o := o) w k (kb_ne h))
      have HST := hide (fun h => rwF_stop (E := C.E) (lv := lv) (N := PF) (x := q) (l := l') h)
      have HSP := hide (fun h => rwF_step (E := C.E) (lv := lv) (N := PF) (unhide HLE) (x := q) (l := l') h)
      have HLT := hide (fun (h : kbS lv (ahd C.E 0 l') ≠ 0) => show l'.tail.length < l'.length from by have := List.length_pos_iff.2 (kb_ne h); rw [List.length_tail]; omega)
      clear HI0 HQ1
      generalize kbS lv (ahd C.E 0 l') = kb at *
      by_cases hk0 : kb = 0
      · have HQ2 : Hid (RR = .ok (q, l')) := hide (by rw [unhide HEQ]; exact unhide HST hk0)
        have e0 : ((kb : Int) == 0) = true := bt
        clear hk0 hkl HPS HST HSP HLT
        go_wp2_with fail
        refine (unhide HKB).mono ?_
        rintro e w3 ⟨rfl, hb3⟩
        have HI3 := hide ((unhide HI).below hb3)
        obtain ⟨s0, s1, s2, s3, s4⟩ := cells5 (unhide HI3).box
        clear hb3
        go_wp2_with (first
          | (refine wpList_store_row rfl 42 _ _ rfl w.heap.size (patO V) rfl rfl 42 zeroP (unhide HI3).res.res size_ex rfl (patO_oneC V) ?_)
          | fail)
        (try simp only [Exit.inBlock, Exit.then])
        refine bodyPost_ret (results_cell_row rfl _ _ w.heap.size 42 (patO V) (0, 0) _ rfl (setRow_heap _ _ _ _ _ _ (unhide HI3).res.res) Tryz.underlying42 rfl size_ex) rfl ?_
        exact (unhide HI3).res.done (U := V) (unhide HR) (unhide HQ2) (unhide HI3).can (unhide HI3).lies.lies _
      · have hk13 : 0 ≤ (kb : Int) ∧ (kb : Int) ≤ 100 := by omega
        have e0 : ((kb : Int) == 0) = false := bn
        have HQ2 : Hid (RR = sbd (PF l'.tail) fun y r => rwF C.E lv PF (r.length + 1) (exE kb [q, y]) r) := hide (by rw [unhide HEQ]; exact unhide HSP hk0)
        have hlt := unhide HLT hk0
        have HPS2 := hide (unhide HPS hk0)
        clear hk0 hkl HPS HST HSP HLT HEQ
        go_wp2_with fail
        refine (unhide HKB).mono ?_
        rintro e w3 ⟨rfl, hb3⟩
        have HI3 := hide ((unhide HI).below hb3)
        clear hb3
        go_wp2_with fail
        refine (unhide HPS2 _ (unhide HI3).res.rdr).mono ?_
        rintro e w4 ⟨rfl, hb4, hR4⟩
        have HI4 := hide ((unhide HI3).next hzl hb4 hR4)
        clear hb4 hR4 HPS2 HI3
        go_wp2_with fail
        obtain ⟨s0, s1, s2, s3, s4⟩ := cells5 (unhide HI4).box
        obtain ⟨S0, hS0⟩ : ∃ S0 : World → Prop, S0 = fun w' => w'.cell? ⟨gp, 0, none⟩ = some (.int .i64 V.k) ∧ w'.cell? ⟨gp, 1, none⟩ = some (.string V.t) ∧ w'.cell? ⟨gp, 2, none⟩ = some (.int .i64 V.n) ∧ w'.cell? ⟨gp, 3, none⟩ = some (.string V.nm) ∧ w'.cell? ⟨gp, 4, none⟩ = some (.slice V.xa V.len V.cap) := ⟨_, rfl⟩
        have HS0 := hide hS0
        have hS : S0 w4.drew := by rw [hS0]; exact ⟨s0, s1, s2, s3, s4⟩
        have HKE : Hid (∀ W, W.heap[gp]? = some (.cells (patO V) 42 (0, 0)) → S0 W) := hide (fun W h => by rw [hS0]; exact cells5 h)
        have HI4d := hide ((unhide HI4).below (Below.refl _ _).drew)
        have HRC := hide (unhide HC l'.tail w4.drew (unhide HI4d).res.rdr ((unhide HE).but (unhide HI4d).res.but))
        have hwr : IntKind.i64.wrap ((lv : Int) + 1) = (lv : Int) + 1 := (IntWalk.i64_left _).trans (IntWalk.wrap64_in _ (by omega))
        clear hS0 HC
        refine startQ 8 S0 ?_
        intro F
        refine takeR F 0 HS0 hS ?_
        (try go_frame)
        refine takeR F 1 HS0 hS ?_
        (try go_frame)
        refine takeR F 2 HS0 hS ?_
        (try go_frame)
        refine takeR F 3 HS0 hS ?_
        (try go_frame)
        refine takeR F 4 HS0 hS ?_
        (try go_frame)
        refine stepQ 5 (fun K2 hK2 => ?_)
        go_simp
        refine (unhide HRC).mono ?_
        intro e w5 hp
        cases hq : PF l'.tail with
        | error x =>
          obtain ⟨er, i⟩ := x
          obtain ⟨hb5, rfl⟩ := sof_err hp hq
          have HB5 := hide ((unhide HI4d).res.but.trans hb5)
          have HQ3 : Hid (RR = .error (er, i)) := hide (by rw [unhide HQ2, hq, sbd_err])
          clear hp hb5 hq
          unfold thr
          exact ⟨rfl, spost_err (unhide HQ3) (unhide HB5) rfl⟩
        | ok x =>
          obtain ⟨y, r⟩ := x
          obtain ⟨hb5, ⟨U2, rfl, hcan, hlie⟩, hR5⟩ := sof_ok hp hq
          have hI5 := (unhide HI4d).next hzl hb5 hR5
          have hrl := (unhide HLE) l'.tail y r hq
          have HQ3 : Hid (RR = rwF C.E lv PF (r.length + 1) (exE kb [q, y]) r) := hide (by rw [unhide HQ2, hq, sbd_ok])
          have hgpl : gp < w4.heap.size := (Array.getElem?_eq_some_iff.1 (unhide HI4).box).1
          have hgp5 : gp < w5.heap.size := (Array.getElem?_eq_some_iff.1 hI5.box).1
          have hU5 : LiesX (w.heap.size + 1) (some gp) w5 U2 := hlie.except (by have := (unhide HI4).res.size; exact this) (fun i hi => by injection hi with hi; subst hi; exact hgpl)
          have HI5 := hide hI5
          unfold pv
          refine hK2 _ _ (unhide HKE _ hI5.box) ?_
          clear hS
          have hS : S0 w5 := unhide HKE _ hI5.box
          refine stepQ 6 (fun K3 hK3 => ?_)
          go_simp
          have hbA : Below w5.heap.size w5 (w5.alloc (.cells (ten V U2) 42)) := ba _
          have hI6 := hI5.below hbA
          refine hK3 _ _ (unhide HKE _ hI6.box) ?_
          clear hS
          have hS : S0 (w5.alloc (.cells (ten V U2) 42)) := unhide HKE _ hI6.box
          refine stepQ 7 (fun K5 hK5 => ?_)
          go_simp
          refine hK5 _ _ hS ?_
          refine lastE (by kernel_rfl) rfl (by kernel_rfl) (fun K4 hK4 => ?_)
          refine wanted_op rfl (wp_store_row 42 (.tmp 5) (.tmp 30) rfl gp (patO (rowN (kb : Int) ⟨#[]⟩ w5.heap.size 2 [V, U2])) rfl rfl 42 (patO V) hI6.box size_ex rfl (patO_oneC _) ?_)
          refine hK4 _ _ ?_
          (try simp only [List.getElem_toArray, List.getElem_cons_succ, List.getElem_cons_zero])
          (try go_frame)
          have HEND := hide (hI6.put (k := (kb : Int)) (gk := w5.heap.size) (unhide HR) hk13 hcan (hU5.below hbA) (at_new rfl) hgp5)
          clear hK5 K5 hK4 hK3 hK2 K4 K3 K2 F hS HS0 HKE hb5 hR5 hbA hI5 hI6 hp hq hcan hlie hU5
          go_wp2_with fail
          exact ⟨⟨r, _, _, unhide HEND, unhide HQ3⟩, by rw [unhide HM]; exact Nat.lt_of_le_of_lt (Nat.le_of_eq (unhide HEND).res.rdr.tkN) (by omega)⟩
theorem sall_any : ∀ d : Nat, d ≤ 400 → RSays d 1 ∧ XSays 123 d (fun E => sgS E (lvO E d)) ∧ XSays 131 d (fun E => piS E (lvO E d)) ∧ XSays 95 d (fun E => xpO E (lvO E d))
  | 0, hd => by
    have HX := sexpr_any hd (fun d' h => absurd h (by omega))
    have HP := spiece_any hd HX (fun d' h => absurd h (by omega))
    have HS := ssigned_any hd HP (fun d' h => absurd h (by omega))
    exact ⟨srow_any (by decide) (by decide) (srow_any (by decide) (by decide) (srow_any (by decide) (by decide) (srow_four HS))), HS, HP, HX⟩
  | d + 1, hd => by
    obtain ⟨ih1, ih2, ih3, -⟩ := sall_any d (by omega)
    have HX := sexpr_any hd (fun d' h => by obtain rfl : d = d' := (by omega); exact ih1)
    have HP := spiece_any hd HX (fun d' h => by obtain rfl : d = d' := (by omega); exact ih3)
    have HS := ssigned_any hd HP (fun d' h => by obtain rfl : d = d' := (by omega); exact ih2)
    exact ⟨srow_any (by decide) (by decide) (srow_any (by decide) (by decide) (srow_any (by decide) (by decide) (srow_four HS))), HS, HP, HX⟩
end Go.Proofs.YtpkmamgleofimaaGreatDoor
