/- LexCovers: all but blanks is in some token. -/
import Derived.Test.YtljkendefdhklaaDoorLexAlive
import Derived.Test.YtljkendefdhklaaDoorLexCovP
namespace Go.Proofs.YtljkendefdhklaaDoor
open Go.RowKit

theorem tok_new {w : World} {x : Tk} (n : Nat) : ((w.alloc (.cells #[.int .i64 (x.k : Int), .string x.t, .int .i64 (x.a : Int)] 32)).drewN n).cell? ⟨w.heap.size, 0, none⟩ = some (.int .i64 (x.k : Int)) ∧ ((w.alloc (.cells #[.int .i64 (x.k : Int), .string x.t, .int .i64 (x.a : Int)] 32)).drewN n).cell? ⟨w.heap.size, 1, none⟩ = some (.string x.t) ∧ ((w.alloc (.cells #[.int .i64 (x.k : Int), .string x.t, .int .i64 (x.a : Int)] 32)).drewN n).cell? ⟨w.heap.size, 2, none⟩ = some (.int .i64 (x.a : Int)) := by
  have h := row_below (at_new (w := w) (o := .cells #[.int .i64 (x.k : Int), .string x.t, .int .i64 (x.a : Int)] 32) rfl) (drewN_below n)
  exact ⟨(cell_of_row _ _ 0 _ _ _ h).trans rfl, (cell_of_row _ _ 1 _ _ _ h).trans rfl, (cell_of_row _ _ 2 _ _ _ h).trans rfl⟩

set_option maxRecDepth 10000 in
set_option maxHeartbeats 4000000 in
theorem lexCovers_walk (s : ByteArray) (hs : s.size ≤ maxLen) (w : World) (hm : ∃ m, w.cell? ⟨0, 0, none⟩ = some (.int .i64 m)) :
    Calls Tryd.prog 4 #[.string s] w fun e w' => e = .returned (.bool true) ∧ Below w.heap.size w w' := by
  obtain ⟨m, hm⟩ := hm
  have H0 := hide (alive_any w m hm)
  have H1 := hide (fun W h => line_any s W hs m h)
  have hf := line_fault s
  have HF := hide hf
  have HS := hide (line_small s)
  have HC := hide (line_count s)
  have HV := hide (line_cov s)
  have HM := hide hm
  unfold LinePost fau at H1
  generalize (lineP s).2.1 = er at *
  generalize (lineP s).2.2 = ea at *
  generalize (lineP s).1 = L at *
  unfold maxLen at hs
  clear hm hf
  go_enter Tryd.func4, Tryd.ntmps4
  go_wp2_with (go_at_call 9; refine (unhide H0).mono ?_; rintro e w0 ⟨rfl, hb0⟩; have HB0 := hide hb0; clear hb0)
  refine (unhide H1 _ (cell_later (unhide HB0) (unhide HM))).mono ?_
  rintro e w1 ⟨v1, rfl, hr1, hb1⟩
  obtain ⟨a1, c1, rfl, -, -⟩ := hr1.len
  have HR1 := hide (And.intro hr1 (bnext (unhide HB0) hb1))
  have hw1 : w1.heap.size ≤ w1.heap.size := Nat.le_refl _
  clear hr1 hb1
  by_cases he : er = 0
  · subst he
    have HV2 := hide (unhide HV rfl)
    clear HV
    go_wp2_with fail
    have HB2 := hide (bnext (unhide HR1).2 ((Below.refl _ _).alloc (Nat.le_refl _) (.cells #[.int .i64 0, .int .i64 (ea : Int)] 25)))
    have HR2 := hide ((unhide HR1).1.later ((Below.refl _ _).alloc (Nat.le_refl _) (.cells #[.int .i64 0, .int .i64 (ea : Int)] 25)))
    generalize w1.alloc (.cells #[.int .i64 0, .int .i64 (ea : Int)] 25) = w2 at *
    clear HR1 hw1
    go_loopw [5, 38] (fun y x wr => ∃ (k e : Nat), k ≤ L.length ∧ e ≤ s.size ∧ x = .int .i64 (k : Int) ∧ y = .int .i64 (e : Int) ∧ Hid (Below w2.heap.size w2 wr) ∧ Hid (Cov s e (L.drop k))) (fun _ x _ => L.length - (intOf x).toNat)
    case atStart => exact ⟨0, 0, Nat.zero_le _, Nat.zero_le _, rfl, rfl, Below.refl _ _, unhide HV2⟩
    case round =>
      obtain ⟨k, e, hk, hes, rfl, rfl, HB, HCv⟩ := hrel
      have hLc := unhide HC
      rcases Nat.lt_or_ge k L.length with hlt | hge
      · have q1 : (k : Int) < (L.length : Int) := by omega
        have hx : L[k]? = some L[k] := List.getElem?_eq_getElem hlt
        have hsm := unhide HS L[k] (List.getElem_mem hlt)
        have hcv := unhide HCv
        rw [List.drop_eq_getElem_cons hlt] at hcv
        obtain ⟨h1, h2, h3, h4, h5, h6⟩ := hcv
        obtain ⟨g, cap, hv, -, -⟩ := (unhide HR2).form (by intro h; rw [h] at hlt; simp at hlt)
        injection hv with hv1 hv2 hv3
        subst hv1 hv3
        obtain ⟨t0, t1, t2⟩ := tok3 ((unhide HR2).later (unhide HB)) rfl hx
        have i1 := idx_run Tryd.underlying22 size_tok hlt (g := g) (cap := c1)
        generalize L[k] = x at *
        obtain ⟨xk, xt, xa⟩ := x
        have HT := hide (fun n => tok_new (w := wr) (x := ⟨xk, xt, xa⟩) n)
        have HX := hide (And.intro h3 (And.intro h4 h6))
        dsimp only at h1 h2 h5 HT t0 t1 t2 hsm
        have hsm1 : xk ≤ 5 := hsm.1
        have hsm2 : xa ≤ 2000 := hsm.2.1
        have hsm3 : xt.size ≤ 2000 := hsm.2.2
        clear hx hsm h3 h4 h6 hv2
        have g1 : ¬ (xa : Int) < (e : Int) := by omega
        have g2 : ¬ (s.size : Int) ≤ (xa : Int) := by omega
        go_wp2_with fail
        have HB3 := hide (bnext (unhide HB) ((Below.refl _ _).alloc (Nat.le_refl _) (.cells #[.int .i64 (xk : Int), .string xt, .int .i64 (xa : Int)] 32)))
        generalize wr.alloc (.cells #[.int .i64 (xk : Int), .string xt, .int .i64 (xa : Int)] 32) = w3 at *
        generalize wr.heap.size = N3 at *
        clear t0 t1 t2 i1 HB HCv
        have HBl := hide (unhide HX).1
        have HXX := unhide HX
        clear HX
        have HX := hide HXX.2
        have hgd := HXX.2.1
        clear HXX
        go_loop [8] (fun y => ∃ j : Nat, e ≤ j ∧ j ≤ xa ∧ y = .int .i64 (j : Int)) (fun y => xa - (intOf y).toNat)
        case atStart => exact ⟨e, Nat.le_refl _, h1, rfl⟩
        case round =>
          obtain ⟨j, hj1, hj2, rfl⟩ := hrel
          have n0 := (unhide HT 0).1
          have n1 := (unhide HT 0).2.1
          have n2 := (unhide HT 0).2.2
          rw [show w3.drewN 0 = w3 from rfl] at n0 n1 n2
          rcases Nat.lt_or_ge j xa with hjt | hjt
          · have q2 : (j : Int) < (xa : Int) := by omega
            have hjs : j < s.size := by omega
            have q3 : (j : Int) < (s.size : Int) := by omega
            have hb32 : ((s[j]).toNat : Int) = 32 := by rw [bat_at s j hjs, unhide HBl j hj1 hjt]; rfl
            clear hgd HT
            go_wp2_with fail
            exact ⟨⟨j + 1, by omega, by omega, rfl⟩, by simp [intOf]; omega⟩
          · obtain rfl : j = xa := by omega
            rcases hgd with ⟨h3, hb⟩ | ⟨h4, hb⟩ | ⟨hkk, hn, hle, hex⟩
            · dsimp only at h3 hb
              subst h3
              have hb39 : ((s[j]).toNat : Int) = 39 := by rw [bat_at s j h2, hb]; rfl
              have HQ := hide (quote_any xt w3 (by omega) m (cell_later (bnext (unhide HB2) (unhide HB3)) (unhide HM)))
              have HN := hide (show ntk ⟨3, xt, j⟩ = (quoteB xt).size from rfl)
              have hq5 : j + (quoteB xt).size ≤ s.size := h5
              have hq6 : (quoteB xt).size ≤ 100000 := by
                have h1 := quoteL_len xt.data.toList
                have h2 : xt.data.toList.length = xt.size := by simp
                have h3 : (quoteB xt).size = (quoteL xt.data.toList).length := by simp [quoteB, ByteArray.size]
                omega
              clear hb h5
              generalize quoteB xt = Q at *
              have HT1 := hide (unhide HT 0)
              clear HT
              go_wp2_with fail
              refine (unhide HQ).mono ?_
              rintro e4 w4 ⟨rfl, hb4⟩
              have m2 := cell_later hb4 (unhide HT1).2.2
              have HB4 := hide (bnext (unhide HB3) hb4)
              clear hb4 n0 n1 n2
              go_wp2_with fail
              exact ⟨⟨k + 1, j + Q.size, by omega, by omega, rfl, rfl, HB4, by rw [← unhide HN]; exact (unhide HX).2⟩, by simp [intOf]; omega⟩
            · dsimp only at h4 hb
              subst h4
              have hb91 : ((s[j]).toNat : Int) = 91 := by rw [bat_at s j h2, hb]; rfl
              have HN := hide (show ntk ⟨4, xt, j⟩ = xt.size + 2 from rfl)
              have hq5 : j + (xt.size + 2) ≤ s.size := h5
              clear hb h5 HT
              go_wp2_with fail
              exact ⟨⟨k + 1, j + (xt.size + 2), by omega, by omega, rfl, rfl, HB3, by rw [← unhide HN]; exact (unhide HX).2⟩, by simp [intOf]; omega⟩
            · dsimp only at hkk hn hle hex
              have m0 := fun n => (unhide HT n).1
              have m1 := fun n => (unhide HT n).2.1
              have m2 := fun n => (unhide HT n).2.2
              have p1 : ((xt.size : Int) == 0) = false := by rw [beq_eq_false_iff_ne]; omega
              have p0 : wrap64 ((j : Int) + (xt.size : Int)) = (j : Int) + (xt.size : Int) := IntWalk.wrap64_in _ (by omega)
              have p4 : IntKind.i64.wrap ((j : Int) + (xt.size : Int)) = (j : Int) + (xt.size : Int) := (IntWalk.i64_left _).trans p0
              have p2 : decide ((s.size : Int) < (j : Int) + (xt.size : Int)) = false := decide_eq_false (by omega)
              have p3 : ((s.extract j (j + xt.size)).toList == xt.toList) = true := by rw [hex]; exact beq_self_eq_true _
              clear HT h5 hex
              rcases hkk with hk1 | hk2 | hk5
              · subst hk1
                have HN := hide (show ntk ⟨1, xt, j⟩ = xt.size from rfl)
                go_wp2_with fail
                go_quiet (fail)
                go_wp2_with fail
                exact ⟨⟨k + 1, j + xt.size, by omega, by omega, rfl, rfl, bnext (unhide HB3) (drewN_below _), by rw [← unhide HN]; exact (unhide HX).2⟩, by simp [intOf]; omega⟩
              · subst hk2
                have HN := hide (show ntk ⟨2, xt, j⟩ = xt.size from rfl)
                go_wp2_with fail
                go_quiet (fail)
                go_wp2_with fail
                exact ⟨⟨k + 1, j + xt.size, by omega, by omega, rfl, rfl, bnext (unhide HB3) (drewN_below _), by rw [← unhide HN]; exact (unhide HX).2⟩, by simp [intOf]; omega⟩
              · subst hk5
                have HN := hide (show ntk ⟨5, xt, j⟩ = xt.size from rfl)
                go_wp2_with fail
                go_quiet (fail)
                go_wp2_with fail
                exact ⟨⟨k + 1, j + xt.size, by omega, by omega, rfl, rfl, bnext (unhide HB3) (drewN_below _), by rw [← unhide HN]; exact (unhide HX).2⟩, by simp [intOf]; omega⟩
      · obtain rfl : k = L.length := by omega
        have hcv := unhide HCv
        rw [List.drop_length] at hcv
        have HBl := hide hcv.2
        clear hcv HCv
        go_wp2_with fail
        go_loop [10] (fun y => ∃ j : Nat, e ≤ j ∧ j ≤ s.size ∧ y = .int .i64 (j : Int)) (fun y => s.size - (intOf y).toNat)
        case atStart => exact ⟨e, Nat.le_refl _, hes, rfl⟩
        case round =>
          obtain ⟨j, hj1, hj2, rfl⟩ := hrel
          rcases Nat.lt_or_ge j s.size with hjt | hjt
          · have q3 : (j : Int) < (s.size : Int) := by omega
            have hb32 : ((s[j]).toNat : Int) = 32 := by rw [bat_at s j hjt, unhide HBl j hj1 hjt]; rfl
            go_wp2_with fail
            exact ⟨⟨j + 1, by omega, by omega, rfl⟩, by simp [intOf]; omega⟩
          · obtain rfl : j = s.size := by omega
            go_wp2_with fail
            go_ret
            exact ⟨rfl, bnext (unhide HB2) (unhide HB)⟩
  · have e0 : ((er : Int) != 0) = true := by rw [bne_iff_ne]; omega
    have hL : L = [] := (unhide HF).2.2.2 he
    subst hL
    have hea : ea ≤ s.size := (unhide HF).2.2.1
    have g3 : (0 : Int) ≤ (ea : Int) := by omega
    have g4 : (ea : Int) ≤ (s.size : Int) := by omega
    have HB2 := hide (bnext (unhide HR1).2 ((Below.refl _ _).alloc (Nat.le_refl _) (.cells #[.int .i64 (er : Int), .int .i64 (ea : Int)] 25)))
    clear HF he HV HR1
    go_wp2_with fail
    go_ret
    exact ⟨rfl, unhide HB2⟩
end Go.Proofs.YtljkendefdhklaaDoor
