/- What next does, whatever the machine's turns are: it goes on from turn to turn, and each time something grows less. -/
import Derived.Test.YtkphpcgmfkhpnaaDoorScanRep
import Derived.Scope
import Derived.WalkMore
namespace Go.Proofs.YtkphpcgmfkhpnaaDoor
open Go.RowKit

/-- As Q; by a goto: J of the label. -/
def Jumps (J : Nat → Act → World → Prop) (Q : Exit → Act → World → Prop) : Exit → Act → World → Prop
  | .goto l, a, w => J l a w
  | e, a, w => Q e a w

section
variable {P : Program} {a : Act} {w : World} {Q : Exit → Act → World → Prop} {c : Code}
theorem back_to (J : Nat → Nat → Act → World → Prop) (pass : ∀ l r a w, J l r a w → ∃ rest, findLabel c l = some rest ∧ rest.wp P (Jumps (fun l' a' w' => ∃ r', r' < r ∧ J l' r' a' w') Q) a w) (b : Frame) (k : List Item) (cs : List Frame) :
    ∀ r l a w, J l r a w → ∃ rest, findLabel c l = some rest ∧ ∃ e a' w', Q e a' w' ∧ Arrives P (lone (b.at a (.code rest :: .inScope c :: k)) cs w) b k cs e a' w' := by
  intro r
  induction r using Nat.strongRecOn with
  | _ r ih =>
    intro l a w hJ
    obtain ⟨rest, hf, hp⟩ := pass l r a w hJ
    refine ⟨rest, hf, ?_⟩
    obtain ⟨e, a1, w1, hq, har⟩ := hp b (.inScope c :: k) cs
    cases e with
    | normal => exact ⟨.normal, a1, w1, hq, Steps.trans har (.one step_inScope)⟩
    | exit id => exact ⟨.exit id, a1, w1, hq, fun k' hk => har k' (by simp [exitTo, hk])⟩
    | goto l' =>
      obtain ⟨r', hlt, hJ'⟩ := hq
      obtain ⟨rest', hf', e2, a2, w2, hq2, har2⟩ := ih r' hlt l' a1 w1 hJ'
      have hg : gotoIn l' (.inScope c :: k) = some (.code rest' :: .inScope c :: k) := by simp [gotoIn, hf']
      exact ⟨e2, a2, w2, hq2, .of_steps (har _ hg) har2⟩
    | ret => exact ⟨_, a1, w1, hq, har⟩
    | panic ch => exact ⟨_, a1, w1, hq, har⟩
    | outgrown => exact ⟨_, a1, w1, hq, har⟩
/-- A scope with several labels that the run jumps to. -/
theorem scope_many (J : Nat → Nat → Act → World → Prop) (first : c.wp P (Jumps (fun l a w => ∃ r, J l r a w) Q) a w)
    (pass : ∀ l r a w, J l r a w → ∃ rest, findLabel c l = some rest ∧ rest.wp P (Jumps (fun l' a' w' => ∃ r', r' < r ∧ J l' r' a' w') Q) a w) : (Code.scope c).wp P Q a w := by
  intro b k cs
  obtain ⟨e, a1, w1, hq, har⟩ := first b (.inScope c :: k) cs
  cases e with
  | normal => exact ⟨.normal, a1, w1, hq, .head step_scope (Steps.trans har (.one step_inScope))⟩
  | exit id => exact ⟨.exit id, a1, w1, hq, fun k' hk => .head step_scope (har k' (by simp [exitTo, hk]))⟩
  | goto l =>
    obtain ⟨r, hJ⟩ := hq
    obtain ⟨rest, hf, e2, a2, w2, hq2, har2⟩ := back_to J pass b k cs r l a1 w1 hJ
    have hg : gotoIn l (.inScope c :: k) = some (.code rest :: .inScope c :: k) := by simp [gotoIn, hf]
    exact ⟨e2, a2, w2, hq2, .of_steps (.head step_scope (har _ hg)) har2⟩
  | ret => exact ⟨_, a1, w1, hq, .of_steps (.one step_scope) har⟩
  | panic ch => exact ⟨_, a1, w1, hq, .of_steps (.one step_scope) har⟩
  | outgrown => exact ⟨_, a1, w1, hq, .of_steps (.one step_scope) har⟩
end

/-- What comes of a turn: another one with less to do, or the end. -/
def Turns (M : Nat → Nat → World → Prop) (E : Bool → World → Prop) (k : Nat) (e : Ending) (w' : World) : Prop :=
  (∃ t k', e = .returned (.int .i64 ((t : Nat) : Int)) ∧ t ≤ 2 ∧ k' < k ∧ M t k' w') ∨ (e = .returned (.int .i64 3) ∧ E false w')

/-- The frame of next. -/
def Fr37 (g : Nat) (a : Act) : Prop := ∃ u1 u2 u3 u4 u5 u6 u7 u8 u9 u10 u11 u12 u13 u14 u15 u16 u17 u18 u19 u20 u21 u22 u23 u24 u25 u26 u27 u28 u29 u30 u31 u32 u33 u34 u35 u36 : Value, a = ⟨#[.pointer (some ⟨g, 0, none⟩), u1, u2, u3, u4, u5, u6, u7, u8, u9, u10, u11, u12, u13, u14, u15, u16, u17, u18, u19, u20, u21, u22, u23, u24, u25, u26, u27, u28, u29, u30, u31, u32, u33, u34, u35, u36], []⟩
def md (l : Nat) : Nat := if l = 1 then 0 else if l = 2 then 1 else 2
/-- What holds at a label. -/
def AtL (g : Nat) (M : Nat → Nat → World → Prop) (l r : Nat) (a : Act) (w : World) : Prop := l ≤ 2 ∧ Fr37 g a ∧ M (md l) r w

set_option maxRecDepth 100000 in
set_option maxHeartbeats 4000000 in
theorem next_any {g : Nat} (M : Nat → Nat → World → Prop) (E : Bool → World → Prop)
    (hc : ∀ k w, M 0 k w → Calls Tryd.prog 26 #[.pointer (some ⟨g, 0, none⟩)] w fun e w' => Turns M E k e w')
    (hf : ∀ k w, M 1 k w → (w.cell? ⟨g, 8, none⟩ = some (.int .i64 (-1)) ∧ E true w) ∨ ((∃ b : Nat, w.cell? ⟨g, 8, none⟩ = some (.int .i64 (b : Int))) ∧ Calls Tryd.prog 27 #[.pointer (some ⟨g, 0, none⟩)] w fun e w' => ∃ t k', e = .returned (.int .i64 ((t : Nat) : Int)) ∧ t ≤ 2 ∧ k' < k ∧ M t k' w'))
    (hr : ∀ k w, M 2 k w → Calls Tryd.prog 28 #[.pointer (some ⟨g, 0, none⟩)] w fun e w' => Turns M E k e w')
    {w : World} {begun : Bool} (c5 : w.cell? ⟨g, 5, none⟩ = some (.bool begun)) (f5 : w.frozen? ⟨g, 5, none⟩ = false)
    (hb : begun = true → ∃ k, M 2 k w) (hn : begun = false → ∃ k, M 0 k (w.setCell ⟨g, 5, none⟩ (.bool true))) :
    Calls Tryd.prog 19 #[.pointer (some ⟨g, 0, none⟩)] w fun e w' => ∃ ok, e = .returned (.bool ok) ∧ E ok w' := by
  have HC := hide hc
  have HF := hide hf
  have HRt := hide hr
  have HB := hide hb
  have HN := hide hn
  clear hc hf hr hb hn
  go_enter Tryd.func19, Tryd.ntmps19
  go_wp2_with fail
  refine scope_many (AtL g M) ?_ ?_
  · cases begun
    · obtain ⟨k0, hM0⟩ := unhide HN rfl
      have HM0 := hide hM0
      clear hM0
      go_wp2_with fail
      go_step3
      go_wp2_with fail
      refine (unhide HC _ _ (unhide HM0)).mono ?_
      rintro e w1 (⟨t1, k1, rfl, ht1, hk1, hM1⟩ | ⟨rfl, hE1⟩)
      · have HM1 := hide hM1
        clear hM1
        rcases (show t1 = 0 ∨ t1 = 1 ∨ t1 = 2 by omega) with rfl | rfl | rfl
        · go_wp2_with fail
          go_step3
          exact ⟨k1, (by decide), ⟨_, _, _, _, _, _, _, _, _, _, _, _, _, _, _, _, _, _, _, _, _, _, _, _, _, _, _, _, _, _, _, _, _, _, _, _, rfl⟩, unhide HM1⟩
        · rcases unhide HF _ _ (unhide HM1) with ⟨c8, hEt⟩ | ⟨⟨b8, c8⟩, hFo⟩
          · have HE := hide hEt
            clear hEt
            go_wp2_with fail
            go_step3
            go_wp2_with fail
            simp only [Jumps]
            go_ret
            exact ⟨_, rfl, unhide HE⟩
          · have HFo := hide hFo
            clear hFo
            have h8 : (((b8 : Nat) : Int) == -1) = false := by rw [beq_eq_false_iff_ne]; omega
            go_wp2_with fail
            go_step3
            go_wp2_with fail
            refine (unhide HFo).mono ?_
            rintro e w2 ⟨t2, k2, rfl, ht2, hk2, hM2⟩
            have HM2 := hide hM2
            clear hM2
            rcases (show t2 = 0 ∨ t2 = 1 ∨ t2 = 2 by omega) with rfl | rfl | rfl
            · go_wp2_with fail
              go_step3
              exact ⟨k2, (by decide), ⟨_, _, _, _, _, _, _, _, _, _, _, _, _, _, _, _, _, _, _, _, _, _, _, _, _, _, _, _, _, _, _, _, _, _, _, _, rfl⟩, unhide HM2⟩
            · go_wp2_with fail
              go_step3
              exact ⟨k2, (by decide), ⟨_, _, _, _, _, _, _, _, _, _, _, _, _, _, _, _, _, _, _, _, _, _, _, _, _, _, _, _, _, _, _, _, _, _, _, _, rfl⟩, unhide HM2⟩
            · go_wp2_with fail
              go_step3
              go_wp2_with fail
              refine (unhide HRt _ _ (unhide HM2)).mono ?_
              rintro e w3 (⟨t3, k3, rfl, ht3, hk3, hM3⟩ | ⟨rfl, hE3⟩)
              · have HM3 := hide hM3
                clear hM3
                rcases (show t3 = 0 ∨ t3 = 1 ∨ t3 = 2 by omega) with rfl | rfl | rfl
                · go_wp2_with fail
                  go_step3
                  exact ⟨k3, (by decide), ⟨_, _, _, _, _, _, _, _, _, _, _, _, _, _, _, _, _, _, _, _, _, _, _, _, _, _, _, _, _, _, _, _, _, _, _, _, rfl⟩, unhide HM3⟩
                · go_wp2_with fail
                  go_step3
                  exact ⟨k3, (by decide), ⟨_, _, _, _, _, _, _, _, _, _, _, _, _, _, _, _, _, _, _, _, _, _, _, _, _, _, _, _, _, _, _, _, _, _, _, _, rfl⟩, unhide HM3⟩
                · go_wp2_with fail
                  go_step3
                  exact ⟨k3, (by decide), ⟨_, _, _, _, _, _, _, _, _, _, _, _, _, _, _, _, _, _, _, _, _, _, _, _, _, _, _, _, _, _, _, _, _, _, _, _, rfl⟩, unhide HM3⟩
              · have HE := hide hE3
                clear hE3
                go_wp2_with fail
                simp only [Jumps]
                go_ret
                exact ⟨_, rfl, unhide HE⟩
        · go_wp2_with fail
          go_step3
          exact ⟨k1, (by decide), ⟨_, _, _, _, _, _, _, _, _, _, _, _, _, _, _, _, _, _, _, _, _, _, _, _, _, _, _, _, _, _, _, _, _, _, _, _, rfl⟩, unhide HM1⟩
      · have HE := hide hE1
        clear hE1
        go_wp2_with fail
        simp only [Jumps]
        go_ret
        exact ⟨_, rfl, unhide HE⟩
    · obtain ⟨k0, hM0⟩ := unhide HB rfl
      have HM0 := hide hM0
      clear hM0
      go_wp2_with fail
      go_step3
      exact ⟨k0, (by decide), ⟨_, _, _, _, _, _, _, _, _, _, _, _, _, _, _, _, _, _, _, _, _, _, _, _, _, _, _, _, _, _, _, _, _, _, _, _, rfl⟩, unhide HM0⟩
  · rintro l r a w ⟨hl, ⟨u1, u2, u3, u4, u5, u6, u7, u8, u9, u10, u11, u12, u13, u14, u15, u16, u17, u18, u19, u20, u21, u22, u23, u24, u25, u26, u27, u28, u29, u30, u31, u32, u33, u34, u35, u36, rfl⟩, hM⟩
    have HM0 := hide hM
    clear hM c5 f5 HB HN
    rcases (show l = 0 ∨ l = 1 ∨ l = 2 by omega) with rfl | rfl | rfl
    · refine ⟨_, rfl, ?_⟩
      go_wp2_with fail
      refine (unhide HRt _ _ (unhide HM0)).mono ?_
      rintro e w4 (⟨t4, k4, rfl, ht4, hk4, hM4⟩ | ⟨rfl, hE4⟩)
      · have HM4 := hide hM4
        clear hM4
        rcases (show t4 = 0 ∨ t4 = 1 ∨ t4 = 2 by omega) with rfl | rfl | rfl
        · go_wp2_with fail
          go_step3
          exact ⟨k4, (by omega), (by decide), ⟨_, _, _, _, _, _, _, _, _, _, _, _, _, _, _, _, _, _, _, _, _, _, _, _, _, _, _, _, _, _, _, _, _, _, _, _, rfl⟩, unhide HM4⟩
        · go_wp2_with fail
          go_step3
          exact ⟨k4, (by omega), (by decide), ⟨_, _, _, _, _, _, _, _, _, _, _, _, _, _, _, _, _, _, _, _, _, _, _, _, _, _, _, _, _, _, _, _, _, _, _, _, rfl⟩, unhide HM4⟩
        · go_wp2_with fail
          go_step3
          exact ⟨k4, (by omega), (by decide), ⟨_, _, _, _, _, _, _, _, _, _, _, _, _, _, _, _, _, _, _, _, _, _, _, _, _, _, _, _, _, _, _, _, _, _, _, _, rfl⟩, unhide HM4⟩
      · have HE := hide hE4
        clear hE4
        go_wp2_with fail
        simp only [Jumps]
        go_ret
        exact ⟨_, rfl, unhide HE⟩
    · refine ⟨_, rfl, ?_⟩
      go_wp2_with fail
      refine (unhide HC _ _ (unhide HM0)).mono ?_
      rintro e w5 (⟨t5, k5, rfl, ht5, hk5, hM5⟩ | ⟨rfl, hE5⟩)
      · have HM5 := hide hM5
        clear hM5
        rcases (show t5 = 0 ∨ t5 = 1 ∨ t5 = 2 by omega) with rfl | rfl | rfl
        · go_wp2_with fail
          go_step3
          exact ⟨k5, (by omega), (by decide), ⟨_, _, _, _, _, _, _, _, _, _, _, _, _, _, _, _, _, _, _, _, _, _, _, _, _, _, _, _, _, _, _, _, _, _, _, _, rfl⟩, unhide HM5⟩
        · rcases unhide HF _ _ (unhide HM5) with ⟨c8, hEt⟩ | ⟨⟨b8, c8⟩, hFo⟩
          · have HE := hide hEt
            clear hEt
            go_wp2_with fail
            go_step3
            go_wp2_with fail
            simp only [Jumps]
            go_ret
            exact ⟨_, rfl, unhide HE⟩
          · have HFo := hide hFo
            clear hFo
            have h8 : (((b8 : Nat) : Int) == -1) = false := by rw [beq_eq_false_iff_ne]; omega
            go_wp2_with fail
            go_step3
            go_wp2_with fail
            refine (unhide HFo).mono ?_
            rintro e w6 ⟨t6, k6, rfl, ht6, hk6, hM6⟩
            have HM6 := hide hM6
            clear hM6
            rcases (show t6 = 0 ∨ t6 = 1 ∨ t6 = 2 by omega) with rfl | rfl | rfl
            · go_wp2_with fail
              go_step3
              exact ⟨k6, (by omega), (by decide), ⟨_, _, _, _, _, _, _, _, _, _, _, _, _, _, _, _, _, _, _, _, _, _, _, _, _, _, _, _, _, _, _, _, _, _, _, _, rfl⟩, unhide HM6⟩
            · go_wp2_with fail
              go_step3
              exact ⟨k6, (by omega), (by decide), ⟨_, _, _, _, _, _, _, _, _, _, _, _, _, _, _, _, _, _, _, _, _, _, _, _, _, _, _, _, _, _, _, _, _, _, _, _, rfl⟩, unhide HM6⟩
            · go_wp2_with fail
              go_step3
              go_wp2_with fail
              refine (unhide HRt _ _ (unhide HM6)).mono ?_
              rintro e w7 (⟨t7, k7, rfl, ht7, hk7, hM7⟩ | ⟨rfl, hE7⟩)
              · have HM7 := hide hM7
                clear hM7
                rcases (show t7 = 0 ∨ t7 = 1 ∨ t7 = 2 by omega) with rfl | rfl | rfl
                · go_wp2_with fail
                  go_step3
                  exact ⟨k7, (by omega), (by decide), ⟨_, _, _, _, _, _, _, _, _, _, _, _, _, _, _, _, _, _, _, _, _, _, _, _, _, _, _, _, _, _, _, _, _, _, _, _, rfl⟩, unhide HM7⟩
                · go_wp2_with fail
                  go_step3
                  exact ⟨k7, (by omega), (by decide), ⟨_, _, _, _, _, _, _, _, _, _, _, _, _, _, _, _, _, _, _, _, _, _, _, _, _, _, _, _, _, _, _, _, _, _, _, _, rfl⟩, unhide HM7⟩
                · go_wp2_with fail
                  go_step3
                  exact ⟨k7, (by omega), (by decide), ⟨_, _, _, _, _, _, _, _, _, _, _, _, _, _, _, _, _, _, _, _, _, _, _, _, _, _, _, _, _, _, _, _, _, _, _, _, rfl⟩, unhide HM7⟩
              · have HE := hide hE7
                clear hE7
                go_wp2_with fail
                simp only [Jumps]
                go_ret
                exact ⟨_, rfl, unhide HE⟩
        · go_wp2_with fail
          go_step3
          exact ⟨k5, (by omega), (by decide), ⟨_, _, _, _, _, _, _, _, _, _, _, _, _, _, _, _, _, _, _, _, _, _, _, _, _, _, _, _, _, _, _, _, _, _, _, _, rfl⟩, unhide HM5⟩
      · have HE := hide hE5
        clear hE5
        go_wp2_with fail
        simp only [Jumps]
        go_ret
        exact ⟨_, rfl, unhide HE⟩
    · refine ⟨_, rfl, ?_⟩
      rcases unhide HF _ _ (unhide HM0) with ⟨c8, hEt⟩ | ⟨⟨b8, c8⟩, hFo⟩
      · have HE := hide hEt
        clear hEt
        go_wp2_with fail
        simp only [Jumps]
        go_ret
        exact ⟨_, rfl, unhide HE⟩
      · have HFo := hide hFo
        clear hFo
        have h8 : (((b8 : Nat) : Int) == -1) = false := by rw [beq_eq_false_iff_ne]; omega
        go_wp2_with fail
        refine (unhide HFo).mono ?_
        rintro e w8 ⟨t8, k8, rfl, ht8, hk8, hM8⟩
        have HM8 := hide hM8
        clear hM8
        rcases (show t8 = 0 ∨ t8 = 1 ∨ t8 = 2 by omega) with rfl | rfl | rfl
        · go_wp2_with fail
          go_step3
          exact ⟨k8, (by omega), (by decide), ⟨_, _, _, _, _, _, _, _, _, _, _, _, _, _, _, _, _, _, _, _, _, _, _, _, _, _, _, _, _, _, _, _, _, _, _, _, rfl⟩, unhide HM8⟩
        · go_wp2_with fail
          go_step3
          exact ⟨k8, (by omega), (by decide), ⟨_, _, _, _, _, _, _, _, _, _, _, _, _, _, _, _, _, _, _, _, _, _, _, _, _, _, _, _, _, _, _, _, _, _, _, _, rfl⟩, unhide HM8⟩
        · go_wp2_with fail
          go_step3
          go_wp2_with fail
          refine (unhide HRt _ _ (unhide HM8)).mono ?_
          rintro e w9 (⟨t9, k9, rfl, ht9, hk9, hM9⟩ | ⟨rfl, hE9⟩)
          · have HM9 := hide hM9
            clear hM9
            rcases (show t9 = 0 ∨ t9 = 1 ∨ t9 = 2 by omega) with rfl | rfl | rfl
            · go_wp2_with fail
              go_step3
              exact ⟨k9, (by omega), (by decide), ⟨_, _, _, _, _, _, _, _, _, _, _, _, _, _, _, _, _, _, _, _, _, _, _, _, _, _, _, _, _, _, _, _, _, _, _, _, rfl⟩, unhide HM9⟩
            · go_wp2_with fail
              go_step3
              exact ⟨k9, (by omega), (by decide), ⟨_, _, _, _, _, _, _, _, _, _, _, _, _, _, _, _, _, _, _, _, _, _, _, _, _, _, _, _, _, _, _, _, _, _, _, _, rfl⟩, unhide HM9⟩
            · go_wp2_with fail
              go_step3
              exact ⟨k9, (by omega), (by decide), ⟨_, _, _, _, _, _, _, _, _, _, _, _, _, _, _, _, _, _, _, _, _, _, _, _, _, _, _, _, _, _, _, _, _, _, _, _, rfl⟩, unhide HM9⟩
          · have HE := hide hE9
            clear hE9
            go_wp2_with fail
            simp only [Jumps]
            go_ret
            exact ⟨_, rfl, unhide HE⟩
end Go.Proofs.YtkphpcgmfkhpnaaDoor
