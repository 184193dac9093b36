/- What only does with a text; paired; further, for the kinds that look for no byte of a text. -/
import Derived.Test.YtkggmodabpjobaaDoorScanOnly
namespace Go.Proofs.YtkggmodabpjobaaDoor
open Go.RowKit

theorem ext_ext (s : ByteArray) (i k : Nat) (h : i + k ≤ s.size) : (s.extract i s.size).extract 0 k = sub s i (i + k) := by
  unfold sub
  apply ByteArray.ext
  rw [ByteArray.data_extract, ByteArray.data_extract, ByteArray.data_extract, Array.extract_extract, Nat.add_zero, Nat.min_eq_left h]
theorem sub_size (s : ByteArray) (i k : Nat) : (sub s i k).size = min k s.size - i := by unfold sub; exact ByteArray.size_extract
theorem toList_beq (a b : ByteArray) : (a.toList == b.toList) = decide (a = b) := by
  by_cases h : a = b
  · subst h; simp
  · rw [decide_eq_false h, beq_eq_false_iff_ne]
    intro k
    rw [ByteArray.toList_eq, ByteArray.toList_eq] at k
    exact h (ByteArray.ext (Array.toList_inj.1 k))

set_option maxRecDepth 100000 in
set_option maxHeartbeats 400000 in
theorem preLite_any (s t : ByteArray) (i : Nat) (w : World) (_hs : s.size ≤ 65536) (_ht : t.size ≤ 65536) (hi : i ≤ s.size) :
    Calls Tryd.prog 48 #[.string (s.extract i s.size), .string t] w fun e w' => e = .returned (.bool (decide (sub s i (i + t.size) = t))) ∧ w' = w := by
  have hz : (s.extract i s.size).size = s.size - i := by rw [ByteArray.size_extract]; omega
  by_cases h : i + t.size ≤ s.size
  · have HE := hide (ext_ext s i t.size h)
    have HB := hide (toList_beq (sub s i (i + t.size)) t)
    generalize s.extract i s.size = u at *
    have h1 : (t.size : Int) ≤ (u.size : Int) := by omega
    go_enter Tryd.func48, Tryd.ntmps48
    go_wp2
    go_ret
    exact ⟨ret_bool (by rw [unhide HE, unhide HB]), rfl⟩
  · have hf : decide (sub s i (i + t.size) = t) = false := by
      apply decide_eq_false
      intro k
      have := congrArg ByteArray.size k
      rw [sub_size] at this
      omega
    rw [hf]
    generalize s.extract i s.size = u at *
    have h1 : decide ((t.size : Int) ≤ (u.size : Int)) = false := by simp; omega
    have h2 : (u.size : Int) < (t.size : Int) := by omega
    go_enter Tryd.func48, Tryd.ntmps48
    go_wp2
    go_ret
    exact ⟨rfl, rfl⟩
set_option maxHeartbeats 400000 in
theorem pre_any (s t : ByteArray) (i : Nat) (w : World) (hs : s.size ≤ 65536) (ht : t.size ≤ 65536) (hi : i ≤ s.size) :
    Calls Tryd.prog 43 #[.string (s.extract i s.size), .string t] w fun e w' => e = .returned (.bool (decide (sub s i (i + t.size) = t))) ∧ w' = w := by
  have C := hide (preLite_any s t i w hs ht hi)
  go_enter Tryd.func43, Tryd.ntmps43
  go_wp2_with fail
  refine (unhide C).mono ?_
  rintro e w ⟨rfl, rfl⟩
  go_wp2
  go_ret
  exact ⟨rfl, rfl⟩

set_option maxRecDepth 100000 in
set_option maxHeartbeats 1000000 in
theorem only_lit {w : World} {g gn o : Nat} {s : ByteArray} {T : PT} {i : Nat} (c0 : w.cell? ⟨g, 0, none⟩ = some (.string s)) (k0 : w.cell? ⟨gn, o, none⟩ = some (.int .i64 T.k)) (k1 : w.cell? ⟨gn, o + 1, none⟩ = some (.string T.t)) (hs : s.size ≤ 65536) (hi : i ≤ s.size) (hk : T.k = 1) (ht : T.t.size ≤ 65536) :
    Calls Tryd.prog 34 #[.pointer (some ⟨g, 0, none⟩), .pointer (some ⟨gn, o, none⟩), .int .i64 (i : Int)] w fun e w' => OnlPost s T i w e w' := by
  have HO := hide (show onl s T i = if sub s i (i + T.t.size) = T.t then some (i + T.t.size) else none by unfold onl; simp [hk])
  rw [hk] at k0
  have h1 : (i : Int) ≤ (s.size : Int) := by omega
  clear hk
  have HP := hide (fun W => pre_any s T.t i W hs ht hi)
  go_enter Tryd.func34, Tryd.ntmps34
  go_wp2_with fail
  go_quiet (first | (go_at_call 43; exact Calls.quiet_of_same (unhide HP _)))
  go_wp2_with fail
  go_ret2
  refine ⟨_, _, rfl, ?_, ?_, below_drewN (Below.refl _ _) _⟩
  · intro h
    exact ⟨i + T.t.size, by omega, by rw [unhide HO, if_pos (by simpa using h)]⟩
  · intro h
    rw [unhide HO, if_neg (by simpa using h)]

/-- What paired answers. -/
def PrdPost (s : ByteArray) (i : Nat) (w : World) (e : Ending) (w' : World) : Prop :=
  ∃ (to : Int) (ok : Bool), e = .returned (.tuple #[.int .i64 to, .bool ok]) ∧ (ok = true → ∃ x : Nat, to = (x : Int) ∧ prs s i = some x) ∧ (ok = false → prs s i = none) ∧ Below w.heap.size w w'
theorem prd_step (s : ByteArray) {x : Nat} (d : Int) (h : x < s.size) : prd s (s.size - x) d x = (if (if byt s x = 40 then d + 1 else if byt s x = 41 then d - 1 else d) = 0 then some (x + 1) else if (if byt s x = 40 then d + 1 else if byt s x = 41 then d - 1 else d) < 0 then none else prd s (s.size - (x + 1)) (if byt s x = 40 then d + 1 else if byt s x = 41 then d - 1 else d) (x + 1)) := by
  rw [show s.size - x = (s.size - (x + 1)) + 1 by omega, prd]
theorem byt_at (s : ByteArray) (i : Nat) (h : i < s.size) : (s[i]'h).toNat = byt s i := bat_at s i h

set_option maxRecDepth 100000 in
set_option maxHeartbeats 1000000 in
theorem paired_any {w : World} {g : Nat} {s : ByteArray} {i : Nat} (c0 : w.cell? ⟨g, 0, none⟩ = some (.string s)) (hs : s.size ≤ 65536) (hi : i ≤ s.size) :
    Calls Tryd.prog 46 #[.pointer (some ⟨g, 0, none⟩), .int .i64 (i : Int)] w fun e w' => PrdPost s i w e w' := by
  have H0 := hide (show prs s i = prd s (s.size - i) 0 i from rfl)
  go_enter Tryd.func46, Tryd.ntmps46
  go_wp2_with fail
  go_loop [6, 7] (fun dv iv => ∃ (d : Int) (x : Nat), dv = .int .i64 d ∧ iv = .int .i64 (x : Int) ∧ x ≤ s.size ∧ (-100000 ≤ d ∧ d ≤ (x : Int)) ∧ ((0 ≤ d ∧ prs s i = prd s (s.size - x) d x) ∨ (d < 0 ∧ prs s i = none))) (fun _ iv => s.size - (intOf iv).toNat)
  case atStart => exact ⟨0, i, rfl, rfl, hi, by omega, .inl ⟨by omega, unhide H0⟩⟩
  case round =>
    obtain ⟨d, x, rfl, rfl, hx, hd, hp⟩ := hrel
    rcases hp with ⟨hd0, hp⟩ | ⟨hd0, hp⟩
    · by_cases hlt : x < s.size
      · have h1 : (x : Int) < (s.size : Int) := by omega
        have h2 : (0 : Int) ≤ d := hd0
        have HB := hide (byt_at s x hlt)
        have hst := prd_step s d hlt
        rw [← hp] at hst
        have HS := hide hst
        clear hst hp
        rcases (show byt s x = 40 ∨ byt s x = 41 ∨ (byt s x ≠ 40 ∧ byt s x ≠ 41) by omega) with hb | hb | ⟨hb, hb2⟩
        · have hc : (s[x]).toNat = 40 := by rw [unhide HB, hb]
          rw [if_pos hb] at HS
          have h3 : ((d + 1) == 0) = false := by rw [beq_eq_false_iff_ne]; omega
          have HS2 := hide (show prs s i = prd s (s.size - (x + 1)) (d + 1) (x + 1) by rw [unhide HS, if_neg (by omega), if_neg (by omega)])
          clear HS HB hb
          go_wp2_with fail
          exact ⟨⟨d + 1, x + 1, rfl, by go_num, by omega, by omega, .inl ⟨by omega, unhide HS2⟩⟩, by simp [intOf]; omega⟩
        · have hc : (s[x]).toNat = 41 := by rw [unhide HB, hb]
          rw [if_neg (show ¬ byt s x = 40 by omega), if_pos hb] at HS
          by_cases h0 : d - 1 = 0
          · have h3 : ((d - 1) == 0) = true := by rw [beq_iff_eq]; exact h0
            rw [if_pos h0] at HS
            clear HB hb
            go_wp2_with fail
            go_ret2
            exact ⟨_, _, rfl, fun _ => ⟨x + 1, by omega, unhide HS⟩, by simp, Below.refl _ _⟩
          · have h3 : ((d - 1) == 0) = false := by rw [beq_eq_false_iff_ne]; exact h0
            rw [if_neg h0] at HS
            clear HB hb
            go_wp2_with fail
            refine ⟨⟨d - 1, x + 1, rfl, by go_num, by omega, by omega, ?_⟩, by simp [intOf]; omega⟩
            by_cases h4 : d - 1 < 0
            · exact .inr ⟨h4, by rw [unhide HS, if_pos h4]⟩
            · exact .inl ⟨by omega, by rw [unhide HS, if_neg h4]⟩
        · have hc1 : ((((s[x]).toNat : Int)) == 40) = false := by rw [unhide HB, beq_eq_false_iff_ne]; omega
          have hc2 : ((((s[x]).toNat : Int)) == 41) = false := by rw [unhide HB, beq_eq_false_iff_ne]; omega
          rw [if_neg hb, if_neg hb2] at HS
          by_cases h0 : d = 0
          · have h3 : (d == 0) = true := by rw [beq_iff_eq]; exact h0
            rw [if_pos h0] at HS
            clear HB hb hb2 h0
            go_wp2_with fail
            go_ret2
            exact ⟨_, _, rfl, fun _ => ⟨x + 1, by omega, unhide HS⟩, by simp, Below.refl _ _⟩
          · have h3 : (d == 0) = false := by rw [beq_eq_false_iff_ne]; exact h0
            rw [if_neg h0, if_neg (by omega)] at HS
            clear HB hb hb2
            go_wp2_with fail
            exact ⟨⟨d, x + 1, rfl, by go_num, by omega, by omega, .inl ⟨by omega, unhide HS⟩⟩, by simp [intOf]; omega⟩
      · have hxe : x = s.size := by omega
        have h1 : decide ((x : Int) < (s.size : Int)) = false := by simp; omega
        have hn : prs s i = none := by rw [hp, hxe, Nat.sub_self]; rfl
        have HN := hide hn
        clear hn hp
        go_wp2_with fail
        go_ret2
        exact ⟨_, _, rfl, by simp, fun _ => unhide HN, Below.refl _ _⟩
    · have HN := hide hp
      clear hp
      have h2 : ¬ (0 : Int) ≤ d := by omega
      by_cases hlt : x < s.size
      · have h1 : (x : Int) < (s.size : Int) := by omega
        go_wp2_with fail
        go_ret2
        exact ⟨_, _, rfl, by simp, fun _ => unhide HN, Below.refl _ _⟩
      · have h1 : decide ((x : Int) < (s.size : Int)) = false := by simp; omega
        go_wp2_with fail
        go_ret2
        exact ⟨_, _, rfl, by simp, fun _ => unhide HN, Below.refl _ _⟩

/-- What further answers. -/
def FurPost (s : ByteArray) (r : Option (Nat × Nat)) (w : World) (e : Ending) (w' : World) : Prop :=
  ∃ (to nx : Int) (ok : Bool), e = .returned (.tuple #[.int .i64 to, .int .i64 nx, .bool ok]) ∧ (ok = true → ∃ x y : Nat, to = (x : Int) ∧ nx = (y : Int) ∧ r = some (x, y) ∧ x ≤ s.size) ∧ (ok = false → r = none) ∧ Below w.heap.size w w'

set_option maxRecDepth 100000 in
set_option maxHeartbeats 1000000 in
theorem further_arb {w : World} {g gn o : Nat} {s : ByteArray} {T : PT} {i : Nat} (c0 : w.cell? ⟨g, 0, none⟩ = some (.string s)) (k0 : w.cell? ⟨gn, o, none⟩ = some (.int .i64 T.k)) (_hs : s.size ≤ 65536) (_hi : i ≤ s.size + 1) (hk : T.k = 13) :
    Calls Tryd.prog 35 #[.pointer (some ⟨g, 0, none⟩), .pointer (some ⟨gn, o, none⟩), .int .i64 (i : Int)] w fun e w' => FurPost s (if i ≤ s.size then some (i, i + 1) else none) w e w' := by
  rw [hk] at k0
  clear hk
  rcases Classical.em (i ≤ s.size) with h | h
  · have h1 : (i : Int) ≤ (s.size : Int) := by omega
    rw [if_pos h]
    go_enter Tryd.func35, Tryd.ntmps35
    go_wp2_with fail
    go_quiet (fail)
    go_wp2_with fail
    go_ret3
    exact ⟨_, _, _, rfl, fun _ => ⟨i, i + 1, rfl, by omega, rfl, h⟩, (by intro h; (first | (simp at h; done) | (simp at h; omega))), below_drewN (Below.refl _ _) _⟩
  · have h1 : ¬ (i : Int) ≤ (s.size : Int) := by omega
    rw [if_neg h]
    go_enter Tryd.func35, Tryd.ntmps35
    go_wp2_with fail
    go_quiet (fail)
    go_wp2_with fail
    go_ret3
    exact ⟨_, _, _, rfl, (by intro h; (first | (simp at h; done) | (simp at h; omega))), fun _ => rfl, below_drewN (Below.refl _ _) _⟩

set_option maxRecDepth 100000 in
set_option maxHeartbeats 1000000 in
theorem further_bal {w : World} {g gn o : Nat} {s : ByteArray} {T : PT} {i : Nat} (c0 : w.cell? ⟨g, 0, none⟩ = some (.string s)) (k0 : w.cell? ⟨gn, o, none⟩ = some (.int .i64 T.k)) (hs : s.size ≤ 65536) (hi : i ≤ s.size) (hk : T.k = 14) :
    Calls Tryd.prog 35 #[.pointer (some ⟨g, 0, none⟩), .pointer (some ⟨gn, o, none⟩), .int .i64 (i : Int)] w fun e w' => FurPost s ((prs s i).map fun t => (t, t)) w e w' := by
  rw [hk] at k0
  clear hk
  have HP := hide (paired_any c0 hs hi)
  go_enter Tryd.func35, Tryd.ntmps35
  go_wp2_with fail
  refine (unhide HP).mono ?_
  rintro e w1 ⟨to, ok, rfl, h1, h2, hb⟩
  have H1 := hide h1
  have H2 := hide h2
  clear h1 h2 HP
  go_wp2_with fail
  go_ret3
  refine ⟨_, _, _, rfl, fun h => ?_, fun h => by rw [unhide H2 h]; rfl, hb⟩
  obtain ⟨x, hx, hp⟩ := unhide H1 h
  exact ⟨x, x, hx, hx, by rw [hp]; rfl, (prs_gt hp).2⟩
end Go.Proofs.YtkggmodabpjobaaDoor
