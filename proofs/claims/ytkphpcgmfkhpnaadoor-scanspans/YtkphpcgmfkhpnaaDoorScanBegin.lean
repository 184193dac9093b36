/- What begin does; retry, where there is no choice. -/
import Derived.Test.YtkphpcgmfkhpnaaDoorScanRep
import Derived.BigRegion
import Derived.Deep.QuietTactic
import Derived.BigQuiet
namespace Go.Proofs.YtkphpcgmfkhpnaaDoor
open Go.RowKit

set_option maxRecDepth 100000 in
set_option maxHeartbeats 1000000 in
theorem retry_none {w : World} {B g : Nat} {m : MS} {N : List Nd} {O : List Int} {W : List Wr} {G S : List Gft} (h : Rep w B g m N O W [] G S) :
    Calls Tryd.prog 28 #[.pointer (some ⟨g, 0, none⟩)] w fun e w' => e = .returned (.int .i64 3) ∧ w' = w := by
  obtain ⟨a, cap, hcv, -, -⟩ := h.choices.len
  have c10 := h.c10
  rw [hcv] at c10
  dsimp only [List.length_nil] at c10
  clear h hcv
  go_enter Tryd.func28, Tryd.ntmps28
  go_wp2_with fail
  go_ret
  exact ⟨rfl, rfl⟩

set_option maxRecDepth 100000 in
set_option maxHeartbeats 4000000 in
theorem begin_any {w : World} {B g : Nat} {m : MS} {N : List Nd} {O : List Int} {W : List Wr} {C : List Cr} {G S : List Gft} (h : Rep w B g m N O W C G S) (i rt : Nat) (hrt : m.root = (rt : Int)) :
    Calls Tryd.prog 18 #[.pointer (some ⟨g, 0, none⟩), .int .i64 (i : Int)] w fun e w' => e = .returned (.tuple #[]) ∧ ∃ wv cv gv, Rep w' B g { m with begun := false, node := rt, i := i, b := -1, wv := wv, cv := cv, gv := gv } N O [] [] [] S ∧ Fr g m { m with begun := false, node := rt, i := i, b := -1, wv := wv, cv := cv, gv := gv } w w' := by
  obtain ⟨wa, wc, hwv, -, hwc⟩ := h.works.len
  obtain ⟨ca, cc, hcv, -, hcc⟩ := h.choices.len
  obtain ⟨ga, gc, hgv, -, hgc⟩ := h.given.len
  have t1 := cut_run (a := wa) (n := W.length) (cap := wc) (k := 0) Tryd.underlying54 size_work (by omega) hwc (h.works.zeroAt hwv)
  have t2 := cut_run (a := ca) (n := C.length) (cap := cc) (k := 0) Tryd.underlying55 size_choice (by omega) hcc (h.choices.zeroAt hcv)
  have t3 := cut_run (a := ga) (n := G.length) (cap := gc) (k := 0) Tryd.underlying35 size_gift (by omega) hgc (h.given.zeroAt hgv)
  have e0 : ((0 : Nat) : Int) = 0 := rfl
  rw [e0] at t1 t2 t3
  have hW1 : Row w B 87 4 wrV (.slice wa 0 wc) [] := h.works.take wrV_len hwv (Nat.zero_le _)
  have hC1 : Row w B 90 6 crV (.slice ca 0 cc) [] := h.choices.take crV_len hcv (Nat.zero_le _)
  have hG1 : Row w B 61 2 gfV (.slice ga 0 gc) [] := h.given.take gfV_len hgv (Nat.zero_le _)
  have hga : (Value.slice ga 0 gc).ownBlock = m.gv.ownBlock := by rw [hgv]; cases ga <;> rfl
  have hwa : (Value.slice wa 0 wc).ownBlock = m.wv.ownBlock := by rw [hwv]; cases wa <;> rfl
  have hca : (Value.slice ca 0 cc).ownBlock = m.cv.ownBlock := by rw [hcv]; cases ca <;> rfl
  have c3 := h.c3
  have c5 := h.c5
  have c6 := h.c6
  have c7 := h.c7
  have c8 := h.c8
  have c9 := h.c9
  have c10 := h.c10
  have c11 := h.c11
  have f5 := h.frozen 5
  have f6 := h.frozen 6
  have f7 := h.frozen 7
  have f8 := h.frozen 8
  have f9 := h.frozen 9
  have f10 := h.frozen 10
  have f11 := h.frozen 11
  rw [hrt] at c3
  rw [hwv] at c9
  rw [hcv] at c10
  rw [hgv] at c11
  have HR := hide h
  have HT := hide (And.intro hW1 (And.intro hC1 (And.intro hG1 (And.intro hga (And.intro hwa hca)))))
  clear h hwv hcv hgv hW1 hC1 hG1 hga hwa hca e0 hrt
  go_enter Tryd.func18, Tryd.ntmps18
  go_wp2_with fail
  obtain ⟨m0, hm0⟩ : ∃ m0 : MS, m0 = { m with begun := false, node := rt, i := i, b := -1 } := ⟨_, rfl⟩
  obtain ⟨w0, hw0⟩ : ∃ w0, w0 = (((w.setCell ⟨g, 5, none⟩ (.bool false)).setCell ⟨g, 6, none⟩ (.int .i64 (rt : Int))).setCell ⟨g, 7, none⟩ (.int .i64 (i : Int))).setCell ⟨g, 8, none⟩ (.int .i64 (-1)) := ⟨_, rfl⟩
  rw [← hw0]
  have hbut : But g w w0 := by rw [hw0]; exact ((((But.refl g w).setCell 5 _).setCell 6 _).setCell 7 _).setCell 8 _
  have h0 : Rep w0 B g m0 N O W C G S := by
    rw [hw0, hm0]
    have r1 := (unhide HR).put 5 (.bool false) { m with begun := false } rfl rfl rfl rfl rfl rfl rfl
    have r2 := r1.put 6 (.int .i64 (rt : Int)) { m with begun := false, node := rt } rfl rfl rfl rfl rfl rfl rfl
    have r3 := r2.put 7 (.int .i64 (i : Int)) { m with begun := false, node := rt, i := i } rfl rfl rfl rfl rfl rfl rfl
    exact r3.put 8 (.int .i64 (-1)) { m with begun := false, node := rt, i := i, b := -1 } rfl rfl rfl rfl rfl rfl rfl
  have hF0 : Fr g m m0 w w0 := by
    rw [hm0]
    exact ⟨hbut.os, hbut.tape, hbut.output, hbut.size, fun k hk hn => hbut.block k hk fun e => hn (.inl e), fun k hk => .inl hk⟩
  have c9 : w0.cell? ⟨g, 9, none⟩ = some (.slice wa W.length wc) := by rw [hw0]; go_simp
  have c10 : w0.cell? ⟨g, 10, none⟩ = some (.slice ca C.length cc) := by rw [hw0]; go_simp
  have c11 : w0.cell? ⟨g, 11, none⟩ = some (.slice ga G.length gc) := by rw [hw0]; go_simp
  have f9 := h0.frozen 9
  have f10 := h0.frozen 10
  have f11 := h0.frozen 11
  have HM := hide hm0
  have H0 := hide h0
  have HF0 := hide hF0
  have HBU := hide hbut
  clear h0 hF0 hw0 hm0 hbut c3 c5 c6 c7 c8 f5 f6 f7 f8
  go_region
  go_end0
  obtain ⟨hW1, hC1, hG1, hga, hwa, hca⟩ := unhide HT
  have bl := (unhide HR).blk
  have b0 := unhide HBU
  have hb0 := (unhide H0).blk
  have w1 := hW1.keepBut bl (by decide) b0
  have k1 := hC1.keepBut bl (by decide) b0
  have g1 := hG1.keepBut bl (by decide) b0
  have s9 : But g w0 (w0.setCell ⟨g, 9, none⟩ (.slice wa 0 wc)) := (But.refl g w0).setCell 9 _
  have r9 := (unhide H0).putW (.slice wa 0 wc) w1
  have r10 := r9.putC (.slice ca 0 cc) (k1.keepBut hb0 (by decide) s9)
  have r11 := r10.putG (.slice ga 0 gc) (g1.keepBut hb0 (by decide) (s9.setCell 10 _)) (fun k hk => r10.apart k (by rw [unhide HM]; exact hga ▸ hk))
  have r := r11.later (Below.refl _ _).drew
  have s11 := (s9.setCell 10 (.slice ca 0 cc)).setCell 11 (.slice ga 0 gc)
  have f : Fr g m0 { m0 with wv := .slice wa 0 wc, cv := .slice ca 0 cc, gv := .slice ga 0 gc } w0 (((w0.setCell ⟨g, 9, none⟩ (.slice wa 0 wc)).setCell ⟨g, 10, none⟩ (.slice ca 0 cc)).setCell ⟨g, 11, none⟩ (.slice ga 0 gc)).drew := by
    refine ⟨s11.os, s11.tape, s11.output, s11.size, fun k hk hn => s11.block k hk fun e => hn (.inl e), fun k hk => .inl ?_⟩
    rw [unhide HM] at hk ⊢
    rcases hk with y | y | y | y | y | y | y
    · exact .inl y
    · exact .inr (.inl y)
    · exact .inr (.inr (.inl y))
    · exact .inr (.inr (.inr (.inl (hwa ▸ y))))
    · exact .inr (.inr (.inr (.inr (.inl (hca ▸ y)))))
    · exact .inr (.inr (.inr (.inr (.inr (.inl (hga ▸ y))))))
    · exact .inr (.inr (.inr (.inr (.inr (.inr y)))))
  have ff := (unhide HF0).trans f
  rw [unhide HM] at r ff
  exact ⟨rfl, _, _, _, r, ff⟩
end Go.Proofs.YtkphpcgmfkhpnaaDoor
