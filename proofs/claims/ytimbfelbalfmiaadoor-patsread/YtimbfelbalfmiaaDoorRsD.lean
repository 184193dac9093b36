/- The document's walk over signs: which sign comes; comes, name, number. -/
import Derived.Test.YtimbfelbalfmiaaDoorRsC
namespace Go.Proofs.YtimbfelbalfmiaaDoor
open Go.RowKit

section
variable {s : ByteArray} {i : Nat}
theorem sgs_here (hi : i ≤ s.size) : sgs s i = if sk s i < s.size then
      (if nx s i = 39 then (if cq s (sk s i + 1) < s.size then ⟨302, ⟨(ct s (sk s i + 1)).toArray⟩, sk s i, cq s (sk s i + 1) + 1⟩ :: sgs s (cq s (sk s i + 1) + 1) else [⟨301, ⟨#[]⟩, sk s i, s.size⟩])
       else if letterN (nx s i) = true then ⟨303, s.extract (sk s i) (wdE s (sk s i)), sk s i, wdE s (sk s i)⟩ :: sgs s (wdE s (sk s i))
       else if digitN (nx s i) = true then ⟨304, s.extract (sk s i) (dgE s (sk s i)), sk s i, dgE s (sk s i)⟩ :: sgs s (dgE s (sk s i))
       else ⟨nx s i, s.extract (sk s i) (sk s i + 1), sk s i, sk s i + 1⟩ :: sgs s (sk s i + 1))
    else [⟨305, ⟨#[]⟩, s.size, s.size⟩] := by
  have h1 : bat s (sk s i) ≠ 32 := nx_ne s i
  rw [sgs_sk s (s.size + 1) i hi (by omega), sgs_eq s (sk s i) (sk_le s i hi).2, if_neg h1]
  rfl
theorem sgs_txt (hi : i ≤ s.size) (h : nx s i = 39) (hc : cq s (sk s i + 1) < s.size) : sgs s i = ⟨302, ⟨(ct s (sk s i + 1)).toArray⟩, sk s i, cq s (sk s i + 1) + 1⟩ :: sgs s (cq s (sk s i + 1) + 1) := by
  rw [sgs_here hi, if_pos (nx_in (by omega)), if_pos h, if_pos hc]
theorem sgs_brk (hi : i ≤ s.size) (h : nx s i = 39) (hc : ¬ cq s (sk s i + 1) < s.size) : sgs s i = [⟨301, ⟨#[]⟩, sk s i, s.size⟩] := by
  rw [sgs_here hi, if_pos (nx_in (by omega)), if_pos h, if_neg hc]
theorem let_in (h : letterN (nx s i) = true) : sk s i < s.size ∧ nx s i ≠ 39 := by
  have : 65 ≤ nx s i ∧ nx s i ≤ 90 := of_decide_eq_true h
  exact ⟨nx_in (by omega), by omega⟩
theorem dig_in (h : digitN (nx s i) = true) : sk s i < s.size ∧ nx s i ≠ 39 ∧ letterN (nx s i) = false := by
  have : 48 ≤ nx s i ∧ nx s i ≤ 57 := of_decide_eq_true h
  exact ⟨nx_in (by omega), by omega, decide_eq_false (by omega)⟩
theorem sgs_wrd (hi : i ≤ s.size) (h : letterN (nx s i) = true) : sgs s i = ⟨303, s.extract (sk s i) (wdE s (sk s i)), sk s i, wdE s (sk s i)⟩ :: sgs s (wdE s (sk s i)) := by
  rw [sgs_here hi, if_pos (let_in h).1, if_neg (let_in h).2, if_pos h]
theorem sgs_dgt (hi : i ≤ s.size) (h : digitN (nx s i) = true) : sgs s i = ⟨304, s.extract (sk s i) (dgE s (sk s i)), sk s i, dgE s (sk s i)⟩ :: sgs s (dgE s (sk s i)) := by
  rw [sgs_here hi, if_pos (dig_in h).1, if_neg (dig_in h).2.1, if_neg (by rw [(dig_in h).2.2]; decide), if_pos h]
theorem sgs_chr (hi : i ≤ s.size) {c : Nat} (h : nx s i = c) (h0 : c ≠ 0) (h1 : c ≠ 39) (h2 : letterN c = false) (h3 : digitN c = false) : sgs s i = ⟨c, s.extract (sk s i) (sk s i + 1), sk s i, sk s i + 1⟩ :: sgs s (sk s i + 1) := by
  subst h
  rw [sgs_here hi, if_pos (nx_in h0), if_neg h1, if_neg (by rw [h2]; decide), if_neg (by rw [h3]; decide)]
/-- The sign that comes, by its kind. -/
theorem sgs_any (hi : i ≤ s.size) : ∃ x r, sgs s i = x :: r ∧ x.a = sk s i ∧ ((x.k = 305 ∧ sk s i = s.size) ∨ (x.k = 301 ∧ nx s i = 39 ∧ ¬ cq s (sk s i + 1) < s.size) ∨ (x.k = 302 ∧ nx s i = 39 ∧ cq s (sk s i + 1) < s.size) ∨ (x.k = 303 ∧ letterN (nx s i) = true) ∨ (x.k = 304 ∧ digitN (nx s i) = true) ∨ (x.k = nx s i ∧ sk s i < s.size ∧ nx s i ≠ 39 ∧ letterN (nx s i) = false ∧ digitN (nx s i) = false)) := by
  have hle := sk_le s i hi
  by_cases h : sk s i < s.size
  · by_cases h39 : nx s i = 39
    · by_cases hc : cq s (sk s i + 1) < s.size
      · exact ⟨_, _, sgs_txt hi h39 hc, rfl, by simp [h39, hc]⟩
      · exact ⟨_, _, sgs_brk hi h39 hc, rfl, by simp [h39, hc]⟩
    · by_cases hl : letterN (nx s i) = true
      · exact ⟨_, _, sgs_wrd hi hl, rfl, by simp [hl]⟩
      · by_cases hd : digitN (nx s i) = true
        · exact ⟨_, _, sgs_dgt hi hd, rfl, by simp [hd]⟩
        · refine ⟨_, _, by rw [sgs_here hi, if_pos h, if_neg h39, if_neg hl, if_neg hd], rfl, .inr (.inr (.inr (.inr (.inr ⟨rfl, h, h39, by simpa using hl, by simpa using hd⟩))))⟩
  · exact ⟨_, _, by rw [sgs_here hi, if_neg h], by show s.size = sk s i; omega, .inl ⟨rfl, by omega⟩⟩
theorem sgs_ne (hi : i ≤ s.size) : ∃ x r, sgs s i = x :: r := by obtain ⟨x, r, h, -⟩ := sgs_any hi; exact ⟨x, r, h⟩
theorem sgs_no (hi : i ≤ s.size) {c : Nat} (hc : c < 256) (h : nx s i ≠ c) : ∃ x r, sgs s i = x :: r ∧ x.a = sk s i ∧ x.k ≠ c := by
  obtain ⟨x, r, h1, h2, h3⟩ := sgs_any hi
  exact ⟨x, r, h1, h2, by omega⟩
end

/-- What a function of the walk leaves: what it has read, or what was wrong. -/
def WPost {α : Type} (V : α → Ending → World → Prop) (V0 : Ending → World → Prop) (z : Nat) (s : ByteArray) (d : Int) (w : World) (R : Rd α) (e : Ending) (w' : World) : Prop :=
  But z w w' ∧ (match R with | .ok x => V x.1 e w' ∧ Wk w' z s (sgs s x.2) d 0 0 | .error x => V0 e w' ∧ ∃ D, d ≤ D ∧ D ≤ 201 ∧ WkB w' z s D x.1 x.2 ∧ x.1 ≠ 0)
section
variable {α : Type} {V : α → Ending → World → Prop} {V0 : Ending → World → Prop} {z : Nat} {s : ByteArray} {d : Int} {w w' : World} {R : Rd α} {e : Ending}
theorem wpost_ok {a : α} {j : Nat} (h : R = .ok (a, j)) (hb : But z w w') (hv : V a e w') (hr : Wk w' z s (sgs s j) d 0 0) : WPost V V0 z s d w R e w' := by subst h; exact ⟨hb, hv, hr⟩
theorem wpost_err {er D : Int} {i : Nat} (h : R = .error (er, i)) (hb : But z w w') (hv : V0 e w') (h1 : d ≤ D) (h2 : D ≤ 201) (hr : WkB w' z s D er i) (h3 : er ≠ 0 := by decide) : WPost V V0 z s d w R e w' := by subst h; exact ⟨hb, hv, D, h1, h2, hr, h3⟩
theorem wof_ok {a : α} {j : Nat} (h : WPost V V0 z s d w R e w') (hr : R = .ok (a, j)) : But z w w' ∧ V a e w' ∧ Wk w' z s (sgs s j) d 0 0 := by subst hr; exact ⟨h.1, h.2.1, h.2.2⟩
theorem wof_err {er : Int} {i : Nat} (h : WPost V V0 z s d w R e w') (hr : R = .error (er, i)) : But z w w' ∧ V0 e w' ∧ ∃ D, d ≤ D ∧ D ≤ 201 ∧ WkB w' z s D er i ∧ er ≠ 0 := by subst hr; exact h
end
def strV0 (e : Ending) (_ : World) : Prop := ∃ t, e = .returned (.string t)
def numV0 (e : Ending) (_ : World) : Prop := ∃ n : Int, e = .returned (.int .i64 n)
def patV0 (e : Ending) (_ : World) : Prop := ∃ U, e = .returned (pv U)

/-- A sign of one byte is taken. -/
theorem wtk_ok {w : World} {z i : Nat} {s : ByteArray} {d : Int} (hi : i ≤ s.size) (h : Wk w z s (sgs s i) d 0 0) (c : Nat) (hc : nx s i = c) (h0 : c ≠ 0) (h1 : c ≠ 39) (h2 : letterN c = false) (h3 : digitN c = false) (h4 : c < 256) :
    Calls Tryd.prog 19 #[.pointer (some ⟨z, 0, none⟩), .int .i64 (c : Int)] w fun e w' => e = .returned (sgE ⟨c, s.extract (sk s i) (sk s i + 1), sk s i, sk s i + 1⟩) ∧ But z w w' ∧ Wk w' z s (sgs s (sk s i + 1)) d 0 0 := by
  rw [sgs_chr hi hc h0 h1 h2 h3] at h
  obtain ⟨y, r, hy⟩ := sgs_ne (s := s) (i := sk s i + 1) (nx_in (s := s) (i := i) (by omega))
  rw [hy] at h ⊢
  exact wtake_ok h c rfl (by omega)
theorem wtk_no {w : World} {z i : Nat} {s : ByteArray} {d : Int} (hi : i ≤ s.size) (h : Wk w z s (sgs s i) d 0 0) (c : Nat) (hc : nx s i ≠ c) (h4 : c < 256) :
    Calls Tryd.prog 19 #[.pointer (some ⟨z, 0, none⟩), .int .i64 (c : Int)] w fun e w' => (∃ x, e = .returned (sgE x)) ∧ But z w w' ∧ WkB w' z s d 2 (sk s i) := by
  obtain ⟨x, r, hx, ha, hk⟩ := sgs_no hi h4 hc
  rw [hx] at h
  refine (wtake_no h c hk).mono ?_
  rintro e w' ⟨rfl, hb, hW⟩
  rw [if_neg (by omega), ha] at hW
  exact ⟨⟨x, rfl⟩, hb, x, r, hW⟩

/-- Another sign comes than one of more bytes that is wanted. -/
theorem wtw_no {w : World} {z i : Nat} {s : ByteArray} {d : Int} (hi : i ≤ s.size) (h : Wk w z s (sgs s i) d 0 0) (K : Nat) (hK : (K = 303 ∧ letterN (nx s i) = false) ∨ (K = 304 ∧ digitN (nx s i) = false) ∨ (K = 302 ∧ nx s i ≠ 39)) :
    Calls Tryd.prog 19 #[.pointer (some ⟨z, 0, none⟩), .int .i64 (K : Int)] w fun e w' => (∃ x, e = .returned (sgE x)) ∧ But z w w' ∧ WkB w' z s d 2 (sk s i) := by
  obtain ⟨x, r, hx, ha, hk⟩ := sgs_any hi
  have hb := bat_lt s (sk s i)
  have hb : nx s i < 256 := hb
  have hne : x.k ≠ K ∧ ¬ (x.k = 301 ∧ K = 302) := by
    rcases hK with ⟨rfl, q⟩ | ⟨rfl, q⟩ | ⟨rfl, q⟩
    · rw [q] at hk; simp only [Bool.false_eq_true, and_false, false_or, true_and] at hk; omega
    · rw [q] at hk; simp only [Bool.false_eq_true, and_false, false_or, and_true] at hk; omega
    · omega
  rw [hx] at h
  refine (wtake_no h K hne.1).mono ?_
  rintro e w' ⟨rfl, hb, hW⟩
  rw [if_neg hne.2, ha] at hW
  exact ⟨⟨x, rfl⟩, hb, x, r, hW⟩
theorem wtt_brk {w : World} {z i : Nat} {s : ByteArray} {d : Int} (hi : i ≤ s.size) (h : Wk w z s (sgs s i) d 0 0) (h39 : nx s i = 39) (hc : ¬ cq s (sk s i + 1) < s.size) :
    Calls Tryd.prog 19 #[.pointer (some ⟨z, 0, none⟩), .int .i64 302] w fun e w' => (∃ x, e = .returned (sgE x)) ∧ But z w w' ∧ WkB w' z s d 2 s.size := by
  rw [sgs_brk hi h39 hc] at h
  refine (wtake_no h 302 (show (301 : Nat) ≠ 302 by decide)).mono ?_
  rintro e w' ⟨rfl, hb, hW⟩
  rw [if_pos ⟨rfl, rfl⟩] at hW
  exact ⟨⟨_, rfl⟩, hb, _, _, hW⟩
theorem wtt_ok {w : World} {z i : Nat} {s : ByteArray} {d : Int} (hi : i ≤ s.size) (h : Wk w z s (sgs s i) d 0 0) (h39 : nx s i = 39) (hc : cq s (sk s i + 1) < s.size) :
    Calls Tryd.prog 19 #[.pointer (some ⟨z, 0, none⟩), .int .i64 302] w fun e w' => e = .returned (sgE ⟨302, ⟨(ct s (sk s i + 1)).toArray⟩, sk s i, cq s (sk s i + 1) + 1⟩) ∧ But z w w' ∧ Wk w' z s (sgs s (cq s (sk s i + 1) + 1)) d 0 0 := by
  rw [sgs_txt hi h39 hc] at h
  obtain ⟨y, r, hy⟩ := sgs_ne (s := s) (i := cq s (sk s i + 1) + 1) hc
  rw [hy] at h ⊢
  exact wtake_ok h 302 rfl (by decide)
theorem wtd_ok {w : World} {z i : Nat} {s : ByteArray} {d : Int} (hi : i ≤ s.size) (h : Wk w z s (sgs s i) d 0 0) (hd : digitN (nx s i) = true) :
    Calls Tryd.prog 19 #[.pointer (some ⟨z, 0, none⟩), .int .i64 304] w fun e w' => e = .returned (sgE ⟨304, s.extract (sk s i) (dgE s (sk s i)), sk s i, dgE s (sk s i)⟩) ∧ But z w w' ∧ Wk w' z s (sgs s (dgE s (sk s i))) d 0 0 := by
  rw [sgs_dgt hi hd] at h
  obtain ⟨y, r, hy⟩ := sgs_ne (s := s) (i := dgE s (sk s i)) (dgE_adv (s := s) (j := sk s i) hd).2
  rw [hy] at h ⊢
  exact wtake_ok h 304 rfl (by decide)
theorem wtw_ok {w : World} {z i : Nat} {s : ByteArray} {d : Int} (hi : i ≤ s.size) (h : Wk w z s (sgs s i) d 0 0) (hd : letterN (nx s i) = true) :
    Calls Tryd.prog 19 #[.pointer (some ⟨z, 0, none⟩), .int .i64 303] w fun e w' => e = .returned (sgE ⟨303, s.extract (sk s i) (wdE s (sk s i)), sk s i, wdE s (sk s i)⟩) ∧ But z w w' ∧ Wk w' z s (sgs s (wdE s (sk s i))) d 0 0 := by
  rw [sgs_wrd hi hd] at h
  obtain ⟨y, r, hy⟩ := sgs_ne (s := s) (i := wdE s (sk s i)) (wdE_adv (s := s) (j := sk s i) hd).2
  rw [hy] at h ⊢
  exact wtake_ok h 303 rfl (by decide)

set_option maxHeartbeats 4000000 in
theorem wname_any {w : World} {z i : Nat} {s : ByteArray} {d : Int} (hi : i ≤ s.size) (hd : d ≤ 201) (h : Wk w z s (sgs s i) d 0 0) :
    Calls Tryd.prog 29 #[.pointer (some ⟨z, 0, none⟩)] w fun e w' => WPost strV strV0 z s d w (nmP s i) e w' := by
  unfold nmP
  have hzl := h.lt
  by_cases hl : letterN (nx s i) = true
  · rw [if_pos hl]
    have hE := wdE_adv (s := s) (j := sk s i) hl
    have hsz := ext_size s (Nat.le_of_lt hE.1) hE.2
    have HT := hide (wtw_ok hi h hl)
    clear h hl
    by_cases hq : 16 < wdE s (sk s i) - sk s i
    · rw [if_pos hq]
      show Calls _ _ _ _ fun e w' => WPost strV strV0 z s d w (.error (7, sk s i)) e w'
      have hg : (16 : Int) < ((s.extract (sk s i) (wdE s (sk s i))).size : Int) := by rw [hsz]; omega
      have HNE := hide (sgs_ne (s := s) (i := wdE s (sk s i)) hE.2)
      clear hq hsz
      generalize s.extract (sk s i) (wdE s (sk s i)) = t at *
      generalize wdE s (sk s i) = e2 at *
      generalize sk s i = k at *
      go_enter Tryd.func29, Tryd.ntmps29
      go_wp2_with fail
      refine (unhide HT).mono ?_
      rintro e w2 ⟨rfl, hb, hW⟩
      have HS := hide (fun o => wstop_ok (hW.below ((Below.refl _ _).alloc (Nat.le_refl _) o)) 7 (k : Int))
      have hz2 := hW.lt
      have HB := hide hb
      clear hb hW
      unfold sgE
      go_wp2_with fail
      refine (unhide HS _).mono ?_
      rintro e w3 ⟨rfl, hb, hW⟩
      obtain ⟨y0, y1, y2, y3⟩ := sg4 (but_z hb (at_new rfl) (Nat.ne_of_gt hz2))
      have HB3 := hide (((unhide HB).alloc _).trans hb)
      have HW3 := hide (show WkB w3 z s d 7 (k : Int) by obtain ⟨x, r, q⟩ := unhide HNE; rw [q] at hW; exact ⟨x, r, hW⟩)
      clear hb hW
      go_wp2_with fail
      go_ret
      exact wpost_err rfl (unhide HB3) ⟨_, rfl⟩ (Int.le_refl _) hd (unhide HW3)
    · rw [if_neg hq]
      show Calls _ _ _ _ fun e w' => WPost strV strV0 z s d w (.ok (s.extract (sk s i) (wdE s (sk s i)), wdE s (sk s i))) e w'
      have hg : ¬ (16 : Int) < ((s.extract (sk s i) (wdE s (sk s i))).size : Int) := by rw [hsz]; omega
      clear hq hsz
      generalize s.extract (sk s i) (wdE s (sk s i)) = t at *
      generalize wdE s (sk s i) = e2 at *
      generalize sk s i = k at *
      go_enter Tryd.func29, Tryd.ntmps29
      go_wp2_with fail
      refine (unhide HT).mono ?_
      rintro e w2 ⟨rfl, hb, hW⟩
      have HB := hide hb
      have HW := hide hW
      clear hb hW
      unfold sgE
      go_wp2_with fail
      go_ret
      exact wpost_ok rfl ((unhide HB).alloc _) rfl ((unhide HW).below ((Below.refl _ _).alloc (Nat.le_refl _) _))
  · have hl : letterN (nx s i) = false := by simpa using hl
    rw [if_neg (by rw [hl]; decide)]
    show Calls _ _ _ _ fun e w' => WPost strV strV0 z s d w (.error (2, sk s i)) e w'
    have HT := hide (wtw_no hi h 303 (.inl ⟨rfl, hl⟩))
    clear h hl
    generalize sk s i = k at *
    go_enter Tryd.func29, Tryd.ntmps29
    go_wp2_with fail
    refine (unhide HT).mono ?_
    rintro e w2 ⟨⟨x, rfl⟩, hb, hW⟩
    have HS := hide (fun o => (hW.below ((Below.refl _ _).alloc (Nat.le_refl _) o)).stop (by decide) 7 (x.a : Int))
    have HB := hide hb
    have HW := hide hW
    clear hb hW
    unfold sgE
    rcases Nat.lt_or_ge 16 x.t.size with hq | hq
    · have hg : (16 : Int) < (x.t.size : Int) := by omega
      clear hq
      go_wp2_with fail
      refine (unhide HS _).mono ?_
      rintro e w3 ⟨rfl, rfl⟩
      go_wp2_with fail
      go_ret
      exact wpost_err rfl ((unhide HB).alloc _) ⟨_, rfl⟩ (Int.le_refl _) hd ((unhide HW).below ((Below.refl _ _).alloc (Nat.le_refl _) _))
    · have hg : ¬ (16 : Int) < (x.t.size : Int) := by omega
      clear hq
      go_wp2_with fail
      go_ret
      exact wpost_err rfl ((unhide HB).alloc _) ⟨_, rfl⟩ (Int.le_refl _) hd ((unhide HW).below ((Below.refl _ _).alloc (Nat.le_refl _) _))
end Go.Proofs.YtimbfelbalfmiaaDoor
