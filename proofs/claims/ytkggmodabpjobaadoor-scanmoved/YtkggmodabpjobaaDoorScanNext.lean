/- What begin does; retry, where there is no choice. What next does, whatever the machine's turns are: it goes on from turn to turn, and each time something grows less. -/
import Derived.Test.YtkggmodabpjobaaDoorScanRep
import Derived.BigRegion
import Derived.Deep.QuietTactic
import Derived.BigQuiet
import Derived.Scope
import Derived.WalkMore
namespace Go.Proofs.YtkggmodabpjobaaDoor
open Go.RowKit

set_option maxRecDepth 100000 in
set_option maxHeartbeats 1000000 in
theorem retry_none {w : World} {B g : Nat} {m : MS} {N : List Nd} {O : List Int} {W : List Wr} {G S : List Gft} (h : Rep w B g m N O W [] G S) :
    Calls Tryd.prog 22 #[.pointer (some ⟨g, 0, none⟩)] w fun e w' => e = .returned (.int .i64 3) ∧ w' = w := by
  obtain ⟨a, cap, hcv, -, -⟩ := h.choices.len
  have c10 := h.c10
  rw [hcv] at c10
  dsimp only [List.length_nil] at c10
  clear h hcv
  go_enter Tryd.func22, Tryd.ntmps22
  go_wp2_with fail
  go_ret
  exact ⟨rfl, rfl⟩

set_option maxRecDepth 100000 in
set_option maxHeartbeats 4000000 in
theorem begin_any {w : World} {B g : Nat} {m : MS} {N : List Nd} {O : List Int} {W : List Wr} {C : List Cr} {G S : List Gft} (h : Rep w B g m N O W C G S) (i rt : Nat) (hrt : m.root = (rt : Int)) :
    Calls Tryd.prog 13 #[.pointer (some ⟨g, 0, none⟩), .int .i64 (i : Int)] w fun e w' => e = .returned (.tuple #[]) ∧ ∃ wv cv gv, Rep w' B g { m with begun := false, node := rt, i := i, b := -1, wv := wv, cv := cv, gv := gv } N O [] [] [] S ∧ Fr g m { m with begun := false, node := rt, i := i, b := -1, wv := wv, cv := cv, gv := gv } w w' := by
  obtain ⟨wa, wc, hwv, -, hwc⟩ := h.works.len
  obtain ⟨ca, cc, hcv, -, hcc⟩ := h.choices.len
  obtain ⟨ga, gc, hgv, -, hgc⟩ := h.given.len
  have t1 := cut_run (a := wa) (n := W.length) (cap := wc) (k := 0) Tryd.underlying51 size_work (by omega) hwc (h.works.zeroAt hwv)
  have t2 := cut_run (a := ca) (n := C.length) (cap := cc) (k := 0) Tryd.underlying52 size_choice (by omega) hcc (h.choices.zeroAt hcv)
  have t3 := cut_run (a := ga) (n := G.length) (cap := gc) (k := 0) Tryd.underlying30 size_gift (by omega) hgc (h.given.zeroAt hgv)
  have e0 : ((0 : Nat) : Int) = 0 := rfl
  rw [e0] at t1 t2 t3
  have hW1 : Row w B 81 4 wrV (.slice wa 0 wc) [] := h.works.take wrV_len hwv (Nat.zero_le _)
  have hC1 : Row w B 84 6 crV (.slice ca 0 cc) [] := h.choices.take crV_len hcv (Nat.zero_le _)
  have hG1 : Row w B 44 2 gfV (.slice ga 0 gc) [] := h.given.take gfV_len hgv (Nat.zero_le _)
  have hga : (Value.slice ga 0 gc).ownBlock = m.gv.ownBlock := by rw [hgv]; cases ga <;> rfl
  have hwa : (Value.slice wa 0 wc).ownBlock = m.wv.ownBlock := by rw [hwv]; cases wa <;> rfl
  have hca : (Value.slice ca 0 cc).ownBlock = m.cv.ownBlock := by rw [hcv]; cases ca <;> rfl
  have c3 := h.c3
  have c5 := h.c5
  have c6 := h.c6
  have c7 := h.c7
  have c8 := h.c8
  have c9 := h.c9
  have c10 := h.c10
  have c11 := h.c11
  have f5 := h.frozen 5
  have f6 := h.frozen 6
  have f7 := h.frozen 7
  have f8 := h.frozen 8
  have f9 := h.frozen 9
  have f10 := h.frozen 10
  have f11 := h.frozen 11
  rw [hrt] at c3
  rw [hwv] at c9
  rw [hcv] at c10
  rw [hgv] at c11
  have HR := hide h
  have HT := hide (And.intro hW1 (And.intro hC1 (And.intro hG1 (And.intro hga (And.intro hwa hca)))))
  clear h hwv hcv hgv hW1 hC1 hG1 hga hwa hca e0 hrt
  go_enter Tryd.func13, Tryd.ntmps13
  go_wp2_with fail
  obtain ⟨m0, hm0⟩ : ∃ m0 : MS, m0 = { m with begun := false, node := rt, i := i, b := -1 } := ⟨_, rfl⟩
  obtain ⟨w0, hw0⟩ : ∃ w0, w0 = (((w.setCell ⟨g, 5, none⟩ (.bool false)).setCell ⟨g, 6, none⟩ (.int .i64 (rt : Int))).setCell ⟨g, 7, none⟩ (.int .i64 (i : Int))).setCell ⟨g, 8, none⟩ (.int .i64 (-1)) := ⟨_, rfl⟩
  rw [← hw0]
  have hbut : But g w w0 := by rw [hw0]; exact ((((But.refl g w).setCell 5 _).setCell 6 _).setCell 7 _).setCell 8 _
  have h0 : Rep w0 B g m0 N O W C G S := by
    rw [hw0, hm0]
    have r1 := (unhide HR).put 5 (.bool false) { m with begun := false } rfl rfl rfl rfl rfl rfl rfl
    have r2 := r1.put 6 (.int .i64 (rt : Int)) { m with begun := false, node := rt } rfl rfl rfl rfl rfl rfl rfl
    have r3 := r2.put 7 (.int .i64 (i : Int)) { m with begun := false, node := rt, i := i } rfl rfl rfl rfl rfl rfl rfl
    exact r3.put 8 (.int .i64 (-1)) { m with begun := false, node := rt, i := i, b := -1 } rfl rfl rfl rfl rfl rfl rfl
  have hF0 : Fr g m m0 w w0 := by
    rw [hm0]
    exact ⟨hbut.os, hbut.tape, hbut.output, hbut.size, fun k hk hn => hbut.block k hk fun e => hn (.inl e), fun k hk => .inl hk⟩
  have c9 : w0.cell? ⟨g, 9, none⟩ = some (.slice wa W.length wc) := by rw [hw0]; go_simp
  have c10 : w0.cell? ⟨g, 10, none⟩ = some (.slice ca C.length cc) := by rw [hw0]; go_simp
  have c11 : w0.cell? ⟨g, 11, none⟩ = some (.slice ga G.length gc) := by rw [hw0]; go_simp
  have f9 := h0.frozen 9
  have f10 := h0.frozen 10
  have f11 := h0.frozen 11
  have HM := hide hm0
  have H0 := hide h0
  have HF0 := hide hF0
  have HBU := hide hbut
  clear h0 hF0 hw0 hm0 hbut c3 c5 c6 c7 c8 f5 f6 f7 f8
  go_region
  go_end0
  obtain ⟨hW1, hC1, hG1, hga, hwa, hca⟩ := unhide HT
  have bl := (unhide HR).blk
  have b0 := unhide HBU
  have hb0 := (unhide H0).blk
  have w1 := hW1.keepBut bl (by decide) b0
  have k1 := hC1.keepBut bl (by decide) b0
  have g1 := hG1.keepBut bl (by decide) b0
  have s9 : But g w0 (w0.setCell ⟨g, 9, none⟩ (.slice wa 0 wc)) := (But.refl g w0).setCell 9 _
  have r9 := (unhide H0).putW (.slice wa 0 wc) w1
  have r10 := r9.putC (.slice ca 0 cc) (k1.keepBut hb0 (by decide) s9)
  have r11 := r10.putG (.slice ga 0 gc) (g1.keepBut hb0 (by decide) (s9.setCell 10 _)) (fun k hk => r10.apart k (by rw [unhide HM]; exact hga ▸ hk))
  have r := r11.later (Below.refl _ _).drew
  have s11 := (s9.setCell 10 (.slice ca 0 cc)).setCell 11 (.slice ga 0 gc)
  have f : Fr g m0 { m0 with wv := .slice wa 0 wc, cv := .slice ca 0 cc, gv := .slice ga 0 gc } w0 (((w0.setCell ⟨g, 9, none⟩ (.slice wa 0 wc)).setCell ⟨g, 10, none⟩ (.slice ca 0 cc)).setCell ⟨g, 11, none⟩ (.slice ga 0 gc)).drew := by
    refine ⟨s11.os, s11.tape, s11.output, s11.size, fun k hk hn => s11.block k hk fun e => hn (.inl e), fun k hk => .inl ?_⟩
    rw [unhide HM] at hk ⊢
    rcases hk with y | y | y | y | y | y | y
    · exact .inl y
    · exact .inr (.inl y)
    · exact .inr (.inr (.inl y))
    · exact .inr (.inr (.inr (.inl (hwa ▸ y))))
    · exact .inr (.inr (.inr (.inr (.inl (hca ▸ y)))))
    · exact .inr (.inr (.inr (.inr (.inr (.inl (hga ▸ y))))))
    · exact .inr (.inr (.inr (.inr (.inr (.inr y)))))
  have ff := (unhide HF0).trans f
  rw [unhide HM] at r ff
  exact ⟨rfl, _, _, _, r, ff⟩
end Go.Proofs.YtkggmodabpjobaaDoor

namespace Go.Proofs.YtkggmodabpjobaaDoor
open Go.RowKit

/-- As Q; by a goto: J of the label. -/
def Jumps (J : Nat → Act → World → Prop) (Q : Exit → Act → World → Prop) : Exit → Act → World → Prop
  | .goto l, a, w => J l a w
  | e, a, w => Q e a w

section
variable {P : Program} {a : Act} {w : World} {Q : Exit → Act → World → Prop} {c : Code}
theorem back_to (J : Nat → Nat → Act → World → Prop) (pass : ∀ l r a w, J l r a w → ∃ rest, findLabel c l = some rest ∧ rest.wp P (Jumps (fun l' a' w' => ∃ r', r' < r ∧ J l' r' a' w') Q) a w) (b : Frame) (k : List Item) (cs : List Frame) :
    ∀ r l a w, J l r a w → ∃ rest, findLabel c l = some rest ∧ ∃ e a' w', Q e a' w' ∧ Arrives P (lone (b.at a (.code rest :: .inScope c :: k)) cs w) b k cs e a' w' := by
  intro r
  induction r using Nat.strongRecOn with
  | _ r ih =>
    intro l a w hJ
    obtain ⟨rest, hf, hp⟩ := pass l r a w hJ
    refine ⟨rest, hf, ?_⟩
    obtain ⟨e, a1, w1, hq, har⟩ := hp b (.inScope c :: k) cs
    cases e with
    | normal => exact ⟨.normal, a1, w1, hq, Steps.trans har (.one step_inScope)⟩
    | exit id => exact ⟨.exit id, a1, w1, hq, fun k' hk => har k' (by simp [exitTo, hk])⟩
    | goto l' =>
      obtain ⟨r', hlt, hJ'⟩ := hq
      obtain ⟨rest', hf', e2, a2, w2, hq2, har2⟩ := ih r' hlt l' a1 w1 hJ'
      have hg : gotoIn l' (.inScope c :: k) = some (.code rest' :: .inScope c :: k) := by simp [gotoIn, hf']
      exact ⟨e2, a2, w2, hq2, .of_steps (har _ hg) har2⟩
    | ret => exact ⟨_, a1, w1, hq, har⟩
    | panic ch => exact ⟨_, a1, w1, hq, har⟩
    | outgrown => exact ⟨_, a1, w1, hq, har⟩
/-- A scope with several labels that the run jumps to. -/
theorem scope_many (J : Nat → Nat → Act → World → Prop) (first : c.wp P (Jumps (fun l a w => ∃ r, J l r a w) Q) a w)
    (pass : ∀ l r a w, J l r a w → ∃ rest, findLabel c l = some rest ∧ rest.wp P (Jumps (fun l' a' w' => ∃ r', r' < r ∧ J l' r' a' w') Q) a w) : (Code.scope c).wp P Q a w := by
  intro b k cs
  obtain ⟨e, a1, w1, hq, har⟩ := first b (.inScope c :: k) cs
  cases e with
  | normal => exact ⟨.normal, a1, w1, hq, .head step_scope (Steps.trans har (.one step_inScope))⟩
  | exit id => exact ⟨.exit id, a1, w1, hq, fun k' hk => .head step_scope (har k' (by simp [exitTo, hk]))⟩
  | goto l =>
    obtain ⟨r, hJ⟩ := hq
    obtain ⟨rest, hf, e2, a2, w2, hq2, har2⟩ := back_to J pass b k cs r l a1 w1 hJ
    have hg : gotoIn l (.inScope c :: k) = some (.code rest :: .inScope c :: k) := by simp [gotoIn, hf]
    exact ⟨e2, a2, w2, hq2, .of_steps (.head step_scope (har _ hg)) har2⟩
  | ret => exact ⟨_, a1, w1, hq, .of_steps (.one step_scope) har⟩
  | panic ch => exact ⟨_, a1, w1, hq, .of_steps (.one step_scope) har⟩
  | outgrown => exact ⟨_, a1, w1, hq, .of_steps (.one step_scope) har⟩
end

/-- What comes of a turn: another one with less to do, or the end. -/
def Turns (M : Nat → Nat → World → Prop) (E : Bool → World → Prop) (k : Nat) (e : Ending) (w' : World) : Prop :=
  (∃ t k', e = .returned (.int .i64 ((t : Nat) : Int)) ∧ t ≤ 2 ∧ k' < k ∧ M t k' w') ∨ (e = .returned (.int .i64 3) ∧ E false w')

/-- The frame of next. -/
def Fr37 (g : Nat) (a : Act) : Prop := ∃ u1 u2 u3 u4 u5 u6 u7 u8 u9 u10 u11 u12 u13 u14 u15 u16 u17 u18 u19 u20 u21 u22 u23 u24 u25 u26 u27 u28 u29 u30 u31 u32 u33 u34 u35 u36 : Value, a = ⟨#[.pointer (some ⟨g, 0, none⟩), u1, u2, u3, u4, u5, u6, u7, u8, u9, u10, u11, u12, u13, u14, u15, u16, u17, u18, u19, u20, u21, u22, u23, u24, u25, u26, u27, u28, u29, u30, u31, u32, u33, u34, u35, u36], []⟩
def md (l : Nat) : Nat := if l = 1 then 0 else if l = 2 then 1 else 2
/-- What holds at a label. -/
def AtL (g : Nat) (M : Nat → Nat → World → Prop) (l r : Nat) (a : Act) (w : World) : Prop := l ≤ 2 ∧ Fr37 g a ∧ M (md l) r w

set_option maxRecDepth 100000 in
set_option maxHeartbeats 4000000 in
theorem next_any {g : Nat} (M : Nat → Nat → World → Prop) (E : Bool → World → Prop)
    (hc : ∀ k w, M 0 k w → Calls Tryd.prog 20 #[.pointer (some ⟨g, 0, none⟩)] w fun e w' => Turns M E k e w')
    (hf : ∀ k w, M 1 k w → (w.cell? ⟨g, 8, none⟩ = some (.int .i64 (-1)) ∧ E true w) ∨ ((∃ b : Nat, w.cell? ⟨g, 8, none⟩ = some (.int .i64 (b : Int))) ∧ Calls Tryd.prog 21 #[.pointer (some ⟨g, 0, none⟩)] w fun e w' => ∃ t k', e = .returned (.int .i64 ((t : Nat) : Int)) ∧ t ≤ 2 ∧ k' < k ∧ M t k' w'))
    (hr : ∀ k w, M 2 k w → Calls Tryd.prog 22 #[.pointer (some ⟨g, 0, none⟩)] w fun e w' => Turns M E k e w')
    {w : World} {begun : Bool} (c5 : w.cell? ⟨g, 5, none⟩ = some (.bool begun)) (f5 : w.frozen? ⟨g, 5, none⟩ = false)
    (hb : begun = true → ∃ k, M 2 k w) (hn : begun = false → ∃ k, M 0 k (w.setCell ⟨g, 5, none⟩ (.bool true))) :
    Calls Tryd.prog 14 #[.pointer (some ⟨g, 0, none⟩)] w fun e w' => ∃ ok, e = .returned (.bool ok) ∧ E ok w' := by
  have HC := hide hc
  have HF := hide hf
  have HRt := hide hr
  have HB := hide hb
  have HN := hide hn
  clear hc hf hr hb hn
  go_enter Tryd.func14, Tryd.ntmps14
  go_wp2_with fail
  refine scope_many (AtL g M) ?_ ?_
  · cases begun
    · obtain ⟨k0, hM0⟩ := unhide HN rfl
      have HM0 := hide hM0
      clear hM0
      go_wp2_with fail
      go_step3
      go_wp2_with fail
      refine (unhide HC _ _ (unhide HM0)).mono ?_
      rintro e w1 (⟨t1, k1, rfl, ht1, hk1, hM1⟩ | ⟨rfl, hE1⟩)
      · have HM1 := hide hM1
        clear hM1
        rcases (show t1 = 0 ∨ t1 = 1 ∨ t1 = 2 by omega) with rfl | rfl | rfl
        · go_wp2_with fail
          go_step3
          exact ⟨k1, (by decide), ⟨_, _, _, _, _, _, _, _, _, _, _, _, _, _, _, _, _, _, _, _, _, _, _, _, _, _, _, _, _, _, _, _, _, _, _, _, rfl⟩, unhide HM1⟩
        · rcases unhide HF _ _ (unhide HM1) with ⟨c8, hEt⟩ | ⟨⟨b8, c8⟩, hFo⟩
          · have HE := hide hEt
            clear hEt
            go_wp2_with fail
            go_step3
            go_wp2_with fail
            simp only [Jumps]
            go_ret
            exact ⟨_, rfl, unhide HE⟩
          · have HFo := hide hFo
            clear hFo
            have h8 : (((b8 : Nat) : Int) == -1) = false := by rw [beq_eq_false_iff_ne]; omega
            go_wp2_with fail
            go_step3
            go_wp2_with fail
            refine (unhide HFo).mono ?_
            rintro e w2 ⟨t2, k2, rfl, ht2, hk2, hM2⟩
            have HM2 := hide hM2
            clear hM2
            rcases (show t2 = 0 ∨ t2 = 1 ∨ t2 = 2 by omega) with rfl | rfl | rfl
            · go_wp2_with fail
              go_step3
              exact ⟨k2, (by decide), ⟨_, _, _, _, _, _, _, _, _, _, _, _, _, _, _, _, _, _, _, _, _, _, _, _, _, _, _, _, _, _, _, _, _, _, _, _, rfl⟩, unhide HM2⟩
            · go_wp2_with fail
              go_step3
              exact ⟨k2, (by decide), ⟨_, _, _, _, _, _, _, _, _, _, _, _, _, _, _, _, _, _, _, _, _, _, _, _, _, _, _, _, _, _, _, _, _, _, _, _, rfl⟩, unhide HM2⟩
            · go_wp2_with fail
              go_step3
              go_wp2_with fail
              refine (unhide HRt _ _ (unhide HM2)).mono ?_
              rintro e w3 (⟨t3, k3, rfl, ht3, hk3, hM3⟩ | ⟨rfl, hE3⟩)
              · have HM3 := hide hM3
                clear hM3
                rcases (show t3 = 0 ∨ t3 = 1 ∨ t3 = 2 by omega) with rfl | rfl | rfl
                · go_wp2_with fail
                  go_step3
                  exact ⟨k3, (by decide), ⟨_, _, _, _, _, _, _, _, _, _, _, _, _, _, _, _, _, _, _, _, _, _, _, _, _, _, _, _, _, _, _, _, _, _, _, _, rfl⟩, unhide HM3⟩
                · go_wp2_with fail
                  go_step3
                  exact ⟨k3, (by decide), ⟨_, _, _, _, _, _, _, _, _, _, _, _, _, _, _, _, _, _, _, _, _, _, _, _, _, _, _, _, _, _, _, _, _, _, _, _, rfl⟩, unhide HM3⟩
                · go_wp2_with fail
                  go_step3
                  exact ⟨k3, (by decide), ⟨_, _, _, _, _, _, _, _, _, _, _, _, _, _, _, _, _, _, _, _, _, _, _, _, _, _, _, _, _, _, _, _, _, _, _, _, rfl⟩, unhide HM3⟩
              · have HE := hide hE3
                clear hE3
                go_wp2_with fail
                simp only [Jumps]
                go_ret
                exact ⟨_, rfl, unhide HE⟩
        · go_wp2_with fail
          go_step3
          exact ⟨k1, (by decide), ⟨_, _, _, _, _, _, _, _, _, _, _, _, _, _, _, _, _, _, _, _, _, _, _, _, _, _, _, _, _, _, _, _, _, _, _, _, rfl⟩, unhide HM1⟩
      · have HE := hide hE1
        clear hE1
        go_wp2_with fail
        simp only [Jumps]
        go_ret
        exact ⟨_, rfl, unhide HE⟩
    · obtain ⟨k0, hM0⟩ := unhide HB rfl
      have HM0 := hide hM0
      clear hM0
      go_wp2_with fail
      go_step3
      exact ⟨k0, (by decide), ⟨_, _, _, _, _, _, _, _, _, _, _, _, _, _, _, _, _, _, _, _, _, _, _, _, _, _, _, _, _, _, _, _, _, _, _, _, rfl⟩, unhide HM0⟩
  · rintro l r a w ⟨hl, ⟨u1, u2, u3, u4, u5, u6, u7, u8, u9, u10, u11, u12, u13, u14, u15, u16, u17, u18, u19, u20, u21, u22, u23, u24, u25, u26, u27, u28, u29, u30, u31, u32, u33, u34, u35, u36, rfl⟩, hM⟩
    have HM0 := hide hM
    clear hM c5 f5 HB HN
    rcases (show l = 0 ∨ l = 1 ∨ l = 2 by omega) with rfl | rfl | rfl
    · refine ⟨_, rfl, ?_⟩
      go_wp2_with fail
      refine (unhide HRt _ _ (unhide HM0)).mono ?_
      rintro e w4 (⟨t4, k4, rfl, ht4, hk4, hM4⟩ | ⟨rfl, hE4⟩)
      · have HM4 := hide hM4
        clear hM4
        rcases (show t4 = 0 ∨ t4 = 1 ∨ t4 = 2 by omega) with rfl | rfl | rfl
        · go_wp2_with fail
          go_step3
          exact ⟨k4, (by omega), (by decide), ⟨_, _, _, _, _, _, _, _, _, _, _, _, _, _, _, _, _, _, _, _, _, _, _, _, _, _, _, _, _, _, _, _, _, _, _, _, rfl⟩, unhide HM4⟩
        · go_wp2_with fail
          go_step3
          exact ⟨k4, (by omega), (by decide), ⟨_, _, _, _, _, _, _, _, _, _, _, _, _, _, _, _, _, _, _, _, _, _, _, _, _, _, _, _, _, _, _, _, _, _, _, _, rfl⟩, unhide HM4⟩
        · go_wp2_with fail
          go_step3
          exact ⟨k4, (by omega), (by decide), ⟨_, _, _, _, _, _, _, _, _, _, _, _, _, _, _, _, _, _, _, _, _, _, _, _, _, _, _, _, _, _, _, _, _, _, _, _, rfl⟩, unhide HM4⟩
      · have HE := hide hE4
        clear hE4
        go_wp2_with fail
        simp only [Jumps]
        go_ret
        exact ⟨_, rfl, unhide HE⟩
    · refine ⟨_, rfl, ?_⟩
      go_wp2_with fail
      refine (unhide HC _ _ (unhide HM0)).mono ?_
      rintro e w5 (⟨t5, k5, rfl, ht5, hk5, hM5⟩ | ⟨rfl, hE5⟩)
      · have HM5 := hide hM5
        clear hM5
        rcases (show t5 = 0 ∨ t5 = 1 ∨ t5 = 2 by omega) with rfl | rfl | rfl
        · go_wp2_with fail
          go_step3
          exact ⟨k5, (by omega), (by decide), ⟨_, _, _, _, _, _, _, _, _, _, _, _, _, _, _, _, _, _, _, _, _, _, _, _, _, _, _, _, _, _, _, _, _, _, _, _, rfl⟩, unhide HM5⟩
        · rcases unhide HF _ _ (unhide HM5) with ⟨c8, hEt⟩ | ⟨⟨b8, c8⟩, hFo⟩
          · have HE := hide hEt
            clear hEt
            go_wp2_with fail
            go_step3
            go_wp2_with fail
            simp only [Jumps]
            go_ret
            exact ⟨_, rfl, unhide HE⟩
          · have HFo := hide hFo
            clear hFo
            have h8 : (((b8 : Nat) : Int) == -1) = false := by rw [beq_eq_false_iff_ne]; omega
            go_wp2_with fail
            go_step3
            go_wp2_with fail
            refine (unhide HFo).mono ?_
            rintro e w6 ⟨t6, k6, rfl, ht6, hk6, hM6⟩
            have HM6 := hide hM6
            clear hM6
            rcases (show t6 = 0 ∨ t6 = 1 ∨ t6 = 2 by omega) with rfl | rfl | rfl
            · go_wp2_with fail
              go_step3
              exact ⟨k6, (by omega), (by decide), ⟨_, _, _, _, _, _, _, _, _, _, _, _, _, _, _, _, _, _, _, _, _, _, _, _, _, _, _, _, _, _, _, _, _, _, _, _, rfl⟩, unhide HM6⟩
            · go_wp2_with fail
              go_step3
              exact ⟨k6, (by omega), (by decide), ⟨_, _, _, _, _, _, _, _, _, _, _, _, _, _, _, _, _, _, _, _, _, _, _, _, _, _, _, _, _, _, _, _, _, _, _, _, rfl⟩, unhide HM6⟩
            · go_wp2_with fail
              go_step3
              go_wp2_with fail
              refine (unhide HRt _ _ (unhide HM6)).mono ?_
              rintro e w7 (⟨t7, k7, rfl, ht7, hk7, hM7⟩ | ⟨rfl, hE7⟩)
              · have HM7 := hide hM7
                clear hM7
                rcases (show t7 = 0 ∨ t7 = 1 ∨ t7 = 2 by omega) with rfl | rfl | rfl
                · go_wp2_with fail
                  go_step3
                  exact ⟨k7, (by omega), (by decide), ⟨_, _, _, _, _, _, _, _, _, _, _, _, _, _, _, _, _, _, _, _, _, _, _, _, _, _, _, _, _, _, _, _, _, _, _, _, rfl⟩, unhide HM7⟩
                · go_wp2_with fail
                  go_step3
                  exact ⟨k7, (by omega), (by decide), ⟨_, _, _, _, _, _, _, _, _, _, _, _, _, _, _, _, _, _, _, _, _, _, _, _, _, _, _, _, _, _, _, _, _, _, _, _, rfl⟩, unhide HM7⟩
                · go_wp2_with fail
                  go_step3
                  exact ⟨k7, (by omega), (by decide), ⟨_, _, _, _, _, _, _, _, _, _, _, _, _, _, _, _, _, _, _, _, _, _, _, _, _, _, _, _, _, _, _, _, _, _, _, _, rfl⟩, unhide HM7⟩
              · have HE := hide hE7
                clear hE7
                go_wp2_with fail
                simp only [Jumps]
                go_ret
                exact ⟨_, rfl, unhide HE⟩
        · go_wp2_with fail
          go_step3
          exact ⟨k5, (by omega), (by decide), ⟨_, _, _, _, _, _, _, _, _, _, _, _, _, _, _, _, _, _, _, _, _, _, _, _, _, _, _, _, _, _, _, _, _, _, _, _, rfl⟩, unhide HM5⟩
      · have HE := hide hE5
        clear hE5
        go_wp2_with fail
        simp only [Jumps]
        go_ret
        exact ⟨_, rfl, unhide HE⟩
    · refine ⟨_, rfl, ?_⟩
      rcases unhide HF _ _ (unhide HM0) with ⟨c8, hEt⟩ | ⟨⟨b8, c8⟩, hFo⟩
      · have HE := hide hEt
        clear hEt
        go_wp2_with fail
        simp only [Jumps]
        go_ret
        exact ⟨_, rfl, unhide HE⟩
      · have HFo := hide hFo
        clear hFo
        have h8 : (((b8 : Nat) : Int) == -1) = false := by rw [beq_eq_false_iff_ne]; omega
        go_wp2_with fail
        refine (unhide HFo).mono ?_
        rintro e w8 ⟨t8, k8, rfl, ht8, hk8, hM8⟩
        have HM8 := hide hM8
        clear hM8
        rcases (show t8 = 0 ∨ t8 = 1 ∨ t8 = 2 by omega) with rfl | rfl | rfl
        · go_wp2_with fail
          go_step3
          exact ⟨k8, (by omega), (by decide), ⟨_, _, _, _, _, _, _, _, _, _, _, _, _, _, _, _, _, _, _, _, _, _, _, _, _, _, _, _, _, _, _, _, _, _, _, _, rfl⟩, unhide HM8⟩
        · go_wp2_with fail
          go_step3
          exact ⟨k8, (by omega), (by decide), ⟨_, _, _, _, _, _, _, _, _, _, _, _, _, _, _, _, _, _, _, _, _, _, _, _, _, _, _, _, _, _, _, _, _, _, _, _, rfl⟩, unhide HM8⟩
        · go_wp2_with fail
          go_step3
          go_wp2_with fail
          refine (unhide HRt _ _ (unhide HM8)).mono ?_
          rintro e w9 (⟨t9, k9, rfl, ht9, hk9, hM9⟩ | ⟨rfl, hE9⟩)
          · have HM9 := hide hM9
            clear hM9
            rcases (show t9 = 0 ∨ t9 = 1 ∨ t9 = 2 by omega) with rfl | rfl | rfl
            · go_wp2_with fail
              go_step3
              exact ⟨k9, (by omega), (by decide), ⟨_, _, _, _, _, _, _, _, _, _, _, _, _, _, _, _, _, _, _, _, _, _, _, _, _, _, _, _, _, _, _, _, _, _, _, _, rfl⟩, unhide HM9⟩
            · go_wp2_with fail
              go_step3
              exact ⟨k9, (by omega), (by decide), ⟨_, _, _, _, _, _, _, _, _, _, _, _, _, _, _, _, _, _, _, _, _, _, _, _, _, _, _, _, _, _, _, _, _, _, _, _, rfl⟩, unhide HM9⟩
            · go_wp2_with fail
              go_step3
              exact ⟨k9, (by omega), (by decide), ⟨_, _, _, _, _, _, _, _, _, _, _, _, _, _, _, _, _, _, _, _, _, _, _, _, _, _, _, _, _, _, _, _, _, _, _, _, rfl⟩, unhide HM9⟩
          · have HE := hide hE9
            clear hE9
            go_wp2_with fail
            simp only [Jumps]
            go_ret
            exact ⟨_, rfl, unhide HE⟩
end Go.Proofs.YtkggmodabpjobaaDoor
