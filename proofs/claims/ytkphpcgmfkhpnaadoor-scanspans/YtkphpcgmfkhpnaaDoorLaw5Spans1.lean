/- A span is as long as can be, a break as short; BREAKX ends at each: ScanSpans is true of any texts and place. -/
import Derived.Test.YtkphpcgmfkhpnaaDoorLaw5Spans0
namespace Go.Proofs.YtkphpcgmfkhpnaaDoor
open Go.RowKit

set_option maxRecDepth 100000 in
set_option maxHeartbeats 2000000 in
theorem scanSpans_walk (t s : ByteArray) (i : Int) (w0 : t.size ≤ maxLen) (w1 : s.size ≤ maxLen) (_w2 : (Lit.int .i64 i).wf = true) (w : World) (hS : Shapes w) :
    Calls Tryd.prog 4 #[.string t, .string s, .int .i64 i] w fun e w' => e = .returned (.bool true) ∧ Below w.heap.size w w' := by
  have HA := hide (alive5 w hS)
  have HW1 := hide w1
  unfold maxLen at w0 w1
  rcases (show i < 0 ∨ (¬ i < 0 ∧ (s.size : Int) < i) ∨ (¬ i < 0 ∧ ¬ (s.size : Int) < i ∧ t.toList.isEmpty = true) ∨ (¬ i < 0 ∧ ¬ (s.size : Int) < i ∧ t.toList.isEmpty = false ∧ (256 : Int) < (t.size : Int)) ∨ (¬ i < 0 ∧ ¬ (s.size : Int) < i ∧ t.toList.isEmpty = false ∧ ¬ (256 : Int) < (t.size : Int) ∧ (3000 : Int) < (s.size : Int)) ∨ (¬ i < 0 ∧ ¬ (s.size : Int) < i ∧ t.toList.isEmpty = false ∧ ¬ (256 : Int) < (t.size : Int) ∧ ¬ (3000 : Int) < (s.size : Int)) by cases t.toList.isEmpty <;> simp <;> omega) with q1 | ⟨q1, q2⟩ | ⟨q1, q2, q3⟩ | ⟨q1, q2, q3, q4⟩ | ⟨q1, q2, q3, q4, q5⟩ | ⟨q1, q2, q3, q4, q5⟩
  · clear hS
    go_enter Tryd.func4, Tryd.ntmps4
    go_wp2_with (go_at_call 5; refine (unhide HA).mono ?_; rintro e w1 ⟨rfl, hb1⟩)
    go_ret
    exact ⟨rfl, hb1⟩
  · clear hS
    go_enter Tryd.func4, Tryd.ntmps4
    go_wp2_with (go_at_call 5; refine (unhide HA).mono ?_; rintro e w1 ⟨rfl, hb1⟩)
    go_ret
    exact ⟨rfl, hb1⟩
  · clear hS
    go_enter Tryd.func4, Tryd.ntmps4
    go_wp2_with (go_at_call 5; refine (unhide HA).mono ?_; rintro e w1 ⟨rfl, hb1⟩)
    go_ret
    exact ⟨rfl, hb1⟩
  · clear hS
    go_enter Tryd.func4, Tryd.ntmps4
    go_wp2_with (go_at_call 5; refine (unhide HA).mono ?_; rintro e w1 ⟨rfl, hb1⟩)
    go_ret
    exact ⟨rfl, hb1⟩
  · clear hS
    go_enter Tryd.func4, Tryd.ntmps4
    go_wp2_with (go_at_call 5; refine (unhide HA).mono ?_; rintro e w1 ⟨rfl, hb1⟩)
    go_ret
    exact ⟨rfl, hb1⟩
  · obtain ⟨j, rfl⟩ : ∃ j : Nat, i = j := ⟨i.toNat, by omega⟩
    have hj : j ≤ s.size := by omega
    have hz : s.size ≤ 3000 := by omega
    have ht : 0 < t.size := nonempty_size q3
    obtain ⟨ea, eb, ec⟩ := spans_words (t := t) (s := s) (j := j) ⟨ht, by omega⟩ hz hj
    have HEa := hide ea
    have HEb := hide eb
    have HEc := hide ec
    have HY := hide (fun k W (h : Below w.heap.size w W) hk ht => all_text k t s (j : Int) W (hS.later h) (unhide HW1) hk ht)
    have hhl := hits_len s t j
    clear hS ea eb ec w0 w1
    go_enter Tryd.func4, Tryd.ntmps4
    go_wp2_with fail
    refine (unhide HA).mono ?_
    rintro e w1 ⟨rfl, hb1⟩
    have HB1 := hide hb1
    clear hb1 HA
    go_wp2_with fail
    refine (some_any 5 0 t w1).mono ?_
    rintro e w2 ⟨rfl, hb2⟩
    have HB2 := hide (bnext (unhide HB1) hb2)
    clear hb2
    go_wp2_with fail
    refine (unhide HY 5 w2 (unhide HB2) (.inl rfl) ⟨ht, by omega⟩).mono ?_
    rintro e w3 ⟨va, La, rfl, hLa, hb3, hra⟩
    have HB3 := hide (bnext (unhide HB2) hb3)
    rw [unhide HEa] at hra ⊢
    obtain ⟨aa, ca, hva, -, -⟩ := hLa.row.len
    have hok1 : allOk ((if j < unt s t false j then [(unt s t false j, ([] : List Gft))] else []), false, 0) = true := by split <;> rfl
    rw [hok1]
    have HLa0 := hide (And.intro hLa (And.intro hra hva))
    clear hb3 HB2 HB1 hok1 hLa hra hva
    dsimp only
    go_wp2_with fail
    refine (some_any 6 0 t w3).mono ?_
    rintro e w4 ⟨rfl, hb4⟩
    have HB4 := hide (bnext (unhide HB3) hb4)
    have hb45 := hb4
    clear hb4
    go_wp2_with fail
    refine (unhide HY 6 w4 (unhide HB4) (.inr (.inl rfl)) ⟨ht, by omega⟩).mono ?_
    rintro e w5 ⟨vb, Lb, rfl, hLb, hb5, hrb⟩
    have HB5 := hide (bnext (unhide HB4) hb5)
    rw [unhide HEb] at hrb ⊢
    obtain ⟨ab, cb, hvb, -, -⟩ := hLb.row.len
    have hok1 : allOk ((if unt s t true j < s.size then [(unt s t true j, ([] : List Gft))] else []), false, 0) = true := by split <;> rfl
    rw [hok1]
    have HLa1 := hide (And.intro ((unhide HLa0).1.later (bnext hb45 hb5)) (unhide HLa0).2)
    have HLb0 := hide (And.intro hLb (And.intro hrb hvb))
    clear hb5 HB4 HB3 hok1 hb45 hLb hrb hvb HLa0
    dsimp only
    go_wp2_with fail
    refine (some_any 7 0 t w5).mono ?_
    rintro e w6 ⟨rfl, hb6⟩
    have HB6 := hide (bnext (unhide HB5) hb6)
    have hb67 := hb6
    clear hb6
    go_wp2_with fail
    refine (unhide HY 7 w6 (unhide HB6) (.inr (.inr rfl)) ⟨ht, by omega⟩).mono ?_
    rintro e w7 ⟨vc, Lc, rfl, hLc, hb7, hrc⟩
    have HB7 := hide (bnext (unhide HB6) hb7)
    rw [unhide HEc] at hrc ⊢
    obtain ⟨ac, cc, hvc, -, -⟩ := hLc.row.len
    have hlc : Lc.length = (hits s t j).length := by have := congrArg List.length hrc; rw [List.length_map] at this; rw [this]; exact List.length_map _
    have hok1 : allOk ((hits s t j).map (fun e => (e, ([] : List Gft))), false, 0) = true := by unfold allOk; rw [List.length_map]; simp; omega
    rw [hok1]
    have HLa := hide (And.intro ((unhide HLa1).1.later (bnext hb67 hb7)) (unhide HLa1).2)
    have HLb := hide (And.intro ((unhide HLb0).1.later (bnext hb67 hb7)) (unhide HLb0).2)
    have HLc := hide (And.intro hLc (And.intro hrc hvc))
    rw [hlc] at hvc
    rw [(unhide HLa).2.2, (unhide HLb).2.2, hvc]
    clear hb67 hb7 HB6 HB5 hok1 hLc hrc hvc HY HLa1 HLb0
    dsimp only
    go_upto_block 0 with fail
    go_cut [16] from 20 to 94 (fun v wx => v = .int .i64 (unt s t false j : Int) ∧ wx = w7)
    case first =>
      go_wp2_with fail
      go_loop [16] (fun v => ∃ k : Nat, j ≤ k ∧ k ≤ s.size ∧ v = .int .i64 (k : Int) ∧ Hid (unt s t false j = unt s t false k)) (fun v => s.size - (intOf v).toNat)
      case atStart => exact ⟨j, Nat.le_refl _, hj, rfl, rfl⟩
      case round =>
        obtain ⟨k, hjk, hks, rfl, HK⟩ := hrel
        rcases Nat.lt_or_ge k s.size with hlt | hge
        · have h1 : (k : Int) < (s.size : Int) := by omega
          have HByte := hide (byt_at s k hlt)
          have HC := hide (lawHas_any t (byt s k) (by rw [← byt_at s k hlt]; exact UInt8.toNat_lt _) w7 (by omega))
          rw [← unhide HByte] at HC
          have hw : wrap64 ((k : Int) + 1) = (k : Int) + 1 := IntWalk.wrap64_in _ (by omega)
          cases hB : inB t (byt s k) with
          | true =>
            rw [unhide HByte, hB, ← unhide HByte] at HC
            have HK2 := hide (show unt s t false j = unt s t false (k + 1) by rw [unhide HK, unt_step s t false hlt, if_neg (by rw [hB]; simp)])
            clear hB HK
            go_wp2_with fail
            refine (unhide HC).mono ?_
            rintro e w8 ⟨rfl, rfl⟩
            go_wp2_with fail
            exact ⟨⟨k + 1, by omega, by omega, by go_num, HK2⟩, by simp [intOf]; omega⟩
          | false =>
            rw [unhide HByte, hB, ← unhide HByte] at HC
            have hE : unt s t false j = k := by rw [unhide HK, unt_step s t false hlt, if_pos hB]
            have HE := hide hE
            clear hB HK hE
            go_wp2_with fail
            refine (unhide HC).mono ?_
            rintro e w8 ⟨rfl, rfl⟩
            go_wp2_with fail
            go_meet
            exact ⟨by rw [unhide HE], rfl⟩
        · have hE : unt s t false j = k := by rw [unhide HK, unt_end s t false hge]
          have HE := hide hE
          have hk2 : k = s.size := by omega
          subst hk2
          clear HK hE
          go_wp2_with fail
          go_meet
          exact ⟨by rw [unhide HE], rfl⟩
    case rest =>
      obtain ⟨rfl, rfl⟩ := hcut
      go_upto_block 2 with fail
      go_cut [17, 18, 19] from 95 to 125 (fun f k e wx => f = .int .i64 (fstX s t j s.size) ∧ k = .int .i64 ((hits s t j).length : Int) ∧ e = .int .i64 (s.size : Int) ∧ wx = wc)
      case first =>
        go_wp2_with fail
        go_loop [17, 18, 19] (fun f k e => ∃ x : Nat, j ≤ x ∧ x ≤ s.size ∧ f = .int .i64 (fstX s t j x) ∧ k = .int .i64 (hup s t j x : Int) ∧ e = .int .i64 (x : Int)) (fun _ _ e => s.size - (intOf e).toNat)
        case atStart => exact ⟨j, Nat.le_refl _, hj, by rw [show fstX s t j j = -1 from if_neg (by have := unt_ge s t true _ j (Nat.le_refl _); omega)], by rw [hup_first]; rfl, rfl⟩
        case round =>
          obtain ⟨x, hjx, hxs, rfl, rfl, rfl⟩ := hrel
          rcases Nat.lt_or_ge x s.size with hlt | hge
          · have h1 : (x : Int) < (s.size : Int) := by omega
            have HByte := hide (byt_at s x hlt)
            have HC := hide (lawHas_any t (byt s x) (by rw [← byt_at s x hlt]; exact UInt8.toNat_lt _) wc (by omega))
            rw [← unhide HByte] at HC
            have hw : wrap64 ((x : Int) + 1) = (x : Int) + 1 := IntWalk.wrap64_in _ (by omega)
            cases hB : inB t (byt s x) with
            | false =>
              rw [unhide HByte, hB] at HC
              have HF := hide (fstX_miss (i := j) hlt hB)
              have HU := hide (show hup s t j (x + 1) = hup s t j x by rw [hup_step hjx, hB]; rfl)
              rw [← unhide HByte] at HC
              clear hB
              go_wp2_with fail
              refine (unhide HC).mono ?_
              rintro e w8 ⟨rfl, rfl⟩
              go_wp2_with fail
              exact ⟨⟨x + 1, by omega, by omega, by rw [unhide HF], by rw [unhide HU], by go_num⟩, by simp [intOf]; omega⟩
            | true =>
              rw [unhide HByte, hB] at HC
              have HU := hide (show hup s t j (x + 1) = hup s t j x + 1 by rw [hup_step hjx, hB]; rfl)
              have hle := fstX_hit hjx hB
              obtain ⟨hLc, hrc, hvc⟩ := unhide HLc
              have hat := hits_at hjx hlt hB
              have hul : hup s t j x < (hits s t j).length := (List.getElem?_eq_some_iff.1 hat).1
              obtain ⟨xc, hxc⟩ : ∃ xc, Lc[hup s t j x]? = some xc := ⟨_, List.getElem?_eq_getElem (by omega)⟩
              have hxc2 : xc.pr = (x, []) := by
                have := congrArg (fun l : List (Nat × List Gft) => l[hup s t j x]?) hrc
                simp only [List.getElem?_map, hxc, Option.map_some] at this
                rw [hat] at this
                exact Option.some.inj this
              obtain ⟨gc, cc2, hgc, -⟩ := hLc.row.form (by intro e; rw [e] at hxc; simp at hxc)
              rw [hvc] at hgc
              injection hgc with hg1 hg2 hg3
              subst hg1 hg3
              have o0 : wc.cell? ⟨gc, hup s t j x * 2, none⟩ = some (.int .i64 (x : Int)) := by have := hLc.row.cell wyV_len hvc hxc (k := 0) rfl; rw [show xc.to = x from congrArg Prod.fst hxc2] at this; exact this
              have i0 := idx_run (g := gc) (n := (hits s t j).length) (cap := cc) Tryd.underlying30 size_way hul
              have hlt' : ¬ ((hits s t j).length : Int) ≤ (hup s t j x : Int) := by omega
              have hw5 : wrap64 ((hup s t j x : Int) + 1) = (hup s t j x : Int) + 1 := IntWalk.wrap64_in _ (by omega)
              rw [← unhide HByte] at HC
              clear hLc hrc hvc hxc hxc2 hat hB
              by_cases hF : unt s t true j < x
              · have HF := hide (show fstX s t j (x + 1) = fstX s t j x by unfold fstX; rw [if_pos hF, if_pos (by omega)])
                have hf0 : ¬ fstX s t j x < 0 := by rw [show fstX s t j x = (unt s t true j : Int) from if_pos hF]; omega
                clear hF hle hhl HByte HLa HLb HLc HB7 HEa HEb HEc HW1
                generalize fstX s t j x = ff at *
                generalize hup s t j x = uu at *
                go_wp2_with fail
                refine (unhide HC).mono ?_
                rintro e w8 ⟨rfl, rfl⟩
                clear HC
                go_wp2_with fail
                exact ⟨⟨x + 1, by omega, by omega, by rw [unhide HF], by rw [unhide HU]; go_num, by go_num⟩, by simp [intOf]; omega⟩
              · have HF := hide (show fstX s t j (x + 1) = (x : Int) by unfold fstX; rw [if_pos (by omega), show unt s t true j = x by omega])
                have hf0 : fstX s t j x < 0 := by rw [show fstX s t j x = -1 from if_neg hF]; omega
                clear hF hle hhl HByte HLa HLb HLc HB7 HEa HEb HEc HW1
                generalize fstX s t j x = ff at *
                generalize hup s t j x = uu at *
                go_wp2_with fail
                refine (unhide HC).mono ?_
                rintro e w8 ⟨rfl, rfl⟩
                clear HC
                go_wp2_with fail
                exact ⟨⟨x + 1, by omega, by omega, by rw [unhide HF], by rw [unhide HU]; go_num, by go_num⟩, by simp [intOf]; omega⟩
          · have hxe : x = s.size := by omega
            subst hxe
            rw [hup_last]
            go_wp2_with fail
            go_meet
            exact ⟨rfl, rfl, rfl, rfl⟩

      case rest =>
        obtain ⟨rfl, rfl, rfl, rfl⟩ := hcut
        · obtain ⟨hLa, hra, hva⟩ := unhide HLa
          obtain ⟨hLb, hrb, hvb⟩ := unhide HLb
          have hla := congrArg List.length hra
          rw [List.length_map] at hla
          have hlb := congrArg List.length hrb
          rw [List.length_map] at hlb
          have hla : La.length = if j < unt s t false j then 1 else 0 := by rw [hla]; split <;> rfl
          have hlb : Lb.length = if unt s t true j < s.size then 1 else 0 := by rw [hlb]; split <;> rfl
          by_cases hF : unt s t true j < s.size
          · rw [if_pos hF] at hlb
            rw [show fstX s t j s.size = (unt s t true j : Int) from if_pos hF]
            obtain ⟨gb, cb2, hgb, -⟩ := hLb.row.form (by intro e; rw [e] at hlb; simp at hlb)
            rw [hvb] at hgb
            injection hgb with hg1 hg2 hg3
            subst hg1 hg3
            obtain ⟨xb, hxb⟩ : ∃ xb, Lb[0]? = some xb := ⟨_, List.getElem?_eq_getElem (by omega)⟩
            have hxb2 : xb.pr = (unt s t true j, []) := by
              have := congrArg (fun l : List (Nat × List Gft) => l[0]?) hrb
              rw [if_pos hF] at this
              simpa [hxb] using this
            have p0 : wc.cell? ⟨gb, 0, none⟩ = some (.int .i64 (unt s t true j : Int)) := by have := hLb.row.cell wyV_len hvb hxb (k := 0) rfl; rw [show xb.to = unt s t true j from congrArg Prod.fst hxb2] at this; simpa using this
            have j0 := idx_run (g := gb) (n := 1) (cap := cb) (i := 0) Tryd.underlying30 size_way (by omega)
            rw [show ((0 : Nat) : Int) = 0 from rfl, Nat.zero_mul] at j0
            have y1 : (0 : Int) ≤ (unt s t true j : Int) := by omega
            rw [hlb]
            clear hLb hrb hxb hxb2 hvb hF
            by_cases hA : j < unt s t false j
            · rw [if_pos hA] at hla
              obtain ⟨ga, ca2, hga, -⟩ := hLa.row.form (by intro e; rw [e] at hla; simp at hla)
              rw [hva] at hga
              injection hga with hg1 hg2 hg3
              subst hg1 hg3
              obtain ⟨xa, hxa⟩ : ∃ xa, La[0]? = some xa := ⟨_, List.getElem?_eq_getElem (by omega)⟩
              have hxa2 : xa.pr = (unt s t false j, []) := by
                have := congrArg (fun l : List (Nat × List Gft) => l[0]?) hra
                rw [if_pos hA] at this
                simpa [hxa] using this
              have o0 : wc.cell? ⟨ga, 0, none⟩ = some (.int .i64 (unt s t false j : Int)) := by have := hLa.row.cell wyV_len hva hxa (k := 0) rfl; rw [show xa.to = unt s t false j from congrArg Prod.fst hxa2] at this; simpa using this
              have i0 := idx_run (g := ga) (n := 1) (cap := ca) (i := 0) Tryd.underlying30 size_way (by omega)
              rw [show ((0 : Nat) : Int) = 0 from rfl, Nat.zero_mul] at i0
              have z1 : ((unt s t false j : Int) == (j : Int)) = false := by rw [beq_eq_false_iff_ne]; omega
              have z2 : (j : Int) < (unt s t false j : Int) := by omega
              rw [hla]
              clear hLa hra hxa hxa2 hva hA
              go_wp2_with fail
              go_ret
              exact ⟨by simp, unhide HB7⟩
            · rw [if_neg hA] at hla
              have hE : unt s t false j = j := by have := unt_ge s t false _ j (Nat.le_refl _); omega
              rw [hla, hE]
              clear hLa hra hva hA
              go_wp2_with fail
              go_ret
              exact ⟨by simp, unhide HB7⟩

          · rw [if_neg hF] at hlb
            rw [show fstX s t j s.size = -1 from if_neg hF]
            rw [hlb]
            clear hLb hrb hvb hF
            by_cases hA : j < unt s t false j
            · rw [if_pos hA] at hla
              obtain ⟨ga, ca2, hga, -⟩ := hLa.row.form (by intro e; rw [e] at hla; simp at hla)
              rw [hva] at hga
              injection hga with hg1 hg2 hg3
              subst hg1 hg3
              obtain ⟨xa, hxa⟩ : ∃ xa, La[0]? = some xa := ⟨_, List.getElem?_eq_getElem (by omega)⟩
              have hxa2 : xa.pr = (unt s t false j, []) := by
                have := congrArg (fun l : List (Nat × List Gft) => l[0]?) hra
                rw [if_pos hA] at this
                simpa [hxa] using this
              have o0 : wc.cell? ⟨ga, 0, none⟩ = some (.int .i64 (unt s t false j : Int)) := by have := hLa.row.cell wyV_len hva hxa (k := 0) rfl; rw [show xa.to = unt s t false j from congrArg Prod.fst hxa2] at this; simpa using this
              have i0 := idx_run (g := ga) (n := 1) (cap := ca) (i := 0) Tryd.underlying30 size_way (by omega)
              rw [show ((0 : Nat) : Int) = 0 from rfl, Nat.zero_mul] at i0
              have z1 : ((unt s t false j : Int) == (j : Int)) = false := by rw [beq_eq_false_iff_ne]; omega
              have z2 : (j : Int) < (unt s t false j : Int) := by omega
              rw [hla]
              clear hLa hra hxa hxa2 hva hA
              go_wp2_with fail
              go_ret
              exact ⟨by simp, unhide HB7⟩
            · rw [if_neg hA] at hla
              have hE : unt s t false j = j := by have := unt_ge s t false _ j (Nat.le_refl _); omega
              rw [hla, hE]
              clear hLa hra hva hA
              go_wp2_with fail
              go_ret
              exact ⟨by simp, unhide HB7⟩
end Go.Proofs.YtkphpcgmfkhpnaaDoor
