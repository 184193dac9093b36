/- What only does with a text; paired; further, for the kinds that look for no byte of a text. Is the byte at a place one of a node's? The set of its text is made once. -/
import Derived.Test.YtbmngbpillihaaaDoorScanOnlyP
import Derived.Test.YtbmngbpillihaaaDoorOf5M
namespace Go.Proofs.YtbmngbpillihaaaDoor
open Go.RowKit

theorem ext_ext (s : ByteArray) (i k : Nat) (h : i + k ≤ s.size) : (s.extract i s.size).extract 0 k = sub s i (i + k) := by
  unfold sub
  apply ByteArray.ext
  rw [ByteArray.data_extract, ByteArray.data_extract, ByteArray.data_extract, Array.extract_extract, Nat.add_zero, Nat.min_eq_left h]
theorem sub_size (s : ByteArray) (i k : Nat) : (sub s i k).size = min k s.size - i := by unfold sub; exact ByteArray.size_extract
theorem toList_beq (a b : ByteArray) : (a.toList == b.toList) = decide (a = b) := by
  by_cases h : a = b
  · subst h; simp
  · rw [decide_eq_false h, beq_eq_false_iff_ne]
    intro k
    rw [ByteArray.toList_eq, ByteArray.toList_eq] at k
    exact h (ByteArray.ext (Array.toList_inj.1 k))
set_option maxRecDepth 100000 in
set_option maxHeartbeats 400000 in
theorem preLite_any (s t : ByteArray) (i : Nat) (w : World) (_hs : s.size ≤ 65536) (_ht : t.size ≤ 65536) (hi : i ≤ s.size) :
    Calls Tryd.prog 119 #[.string (s.extract i s.size), .string t] w fun e w' => e = .returned (.bool (decide (sub s i (i + t.size) = t))) ∧ w' = w := by
  have hz : (s.extract i s.size).size = s.size - i := by rw [ByteArray.size_extract]; omega
  by_cases h : i + t.size ≤ s.size
  · have HE := hide (ext_ext s i t.size h)
    have HB := hide (toList_beq (sub s i (i + t.size)) t)
    generalize s.extract i s.size = u at *
    have h1 : (t.size : Int) ≤ (u.size : Int) := by omega
    go_enter Tryd.func119, Tryd.ntmps119
    go_wp2
    go_ret
    exact ⟨ret_bool (by rw [unhide HE, unhide HB]), rfl⟩
  · have hf : decide (sub s i (i + t.size) = t) = false := by
      apply decide_eq_false
      intro k
      have := congrArg ByteArray.size k
      rw [sub_size] at this
      omega
    rw [hf]
    generalize s.extract i s.size = u at *
    have h1 : decide ((t.size : Int) ≤ (u.size : Int)) = false := by simp; omega
    have h2 : (u.size : Int) < (t.size : Int) := by omega
    go_enter Tryd.func119, Tryd.ntmps119
    go_wp2
    go_ret
    exact ⟨rfl, rfl⟩
set_option maxHeartbeats 400000 in
theorem pre_any (s t : ByteArray) (i : Nat) (w : World) (hs : s.size ≤ 65536) (ht : t.size ≤ 65536) (hi : i ≤ s.size) :
    Calls Tryd.prog 113 #[.string (s.extract i s.size), .string t] w fun e w' => e = .returned (.bool (decide (sub s i (i + t.size) = t))) ∧ w' = w := by
  have C := hide (preLite_any s t i w hs ht hi)
  go_enter Tryd.func113, Tryd.ntmps113
  go_wp2_with fail
  refine (unhide C).mono ?_
  rintro e w ⟨rfl, rfl⟩
  go_wp2
  go_ret
  exact ⟨rfl, rfl⟩
set_option maxRecDepth 100000 in
set_option maxHeartbeats 1000000 in
theorem only_lit {w : World} {g gn o : Nat} {s : ByteArray} {T : PT} {i : Nat} (c0 : w.cell? ⟨g, 0, none⟩ = some (.string s)) (k0 : w.cell? ⟨gn, o, none⟩ = some (.int .i64 T.k)) (k1 : w.cell? ⟨gn, o + 1, none⟩ = some (.string T.t)) (hs : s.size ≤ 65536) (hi : i ≤ s.size) (hk : T.k = 1) (ht : T.t.size ≤ 65536) :
    Calls Tryd.prog 98 #[.pointer (some ⟨g, 0, none⟩), .pointer (some ⟨gn, o, none⟩), .int .i64 (i : Int)] w fun e w' => OnlPost s T i w e w' := by
  have HO := hide (show onl s T i = if sub s i (i + T.t.size) = T.t then some (i + T.t.size) else none by unfold onl; simp [hk])
  rw [hk] at k0
  have h1 : (i : Int) ≤ (s.size : Int) := by omega
  clear hk
  have HP := hide (fun W => pre_any s T.t i W hs ht hi)
  go_enter Tryd.func98, Tryd.ntmps98
  go_wp2_with fail
  go_quiet (first | (go_at_call 113; exact Calls.quiet_of_same (unhide HP _)))
  go_wp2_with fail
  go_ret2
  refine ⟨_, _, rfl, ?_, ?_, below_drewN (Below.refl _ _) _⟩
  · intro h
    exact ⟨i + T.t.size, by omega, by rw [unhide HO, if_pos (by simpa using h)]⟩
  · intro h
    rw [unhide HO, if_neg (by simpa using h)]
def PrdPost (s : ByteArray) (i : Nat) (w : World) (e : Ending) (w' : World) : Prop :=
  ∃ (to : Int) (ok : Bool), e = .returned (.tuple #[.int .i64 to, .bool ok]) ∧ (ok = true → ∃ x : Nat, to = (x : Int) ∧ prs s i = some x) ∧ (ok = false → prs s i = none) ∧ Below w.heap.size w w'
theorem prd_step (s : ByteArray) {x : Nat} (d : Int) (h : x < s.size) : prd s (s.size - x) d x = (if (if byt s x = 40 then d + 1 else if byt s x = 41 then d - 1 else d) = 0 then some (x + 1) else if (if byt s x = 40 then d + 1 else if byt s x = 41 then d - 1 else d) < 0 then none else prd s (s.size - (x + 1)) (if byt s x = 40 then d + 1 else if byt s x = 41 then d - 1 else d) (x + 1)) := by
  rw [show s.size - x = (s.size - (x + 1)) + 1 by omega, prd]
theorem byt_at (s : ByteArray) (i : Nat) (h : i < s.size) : (s[i]'h).toNat = byt s i := bat_at s i h
set_option maxRecDepth 100000 in
set_option maxHeartbeats 1000000 in
theorem paired_any {w : World} {g : Nat} {s : ByteArray} {i : Nat} (c0 : w.cell? ⟨g, 0, none⟩ = some (.string s)) (hs : s.size ≤ 65536) (hi : i ≤ s.size) :
    Calls Tryd.prog 116 #[.pointer (some ⟨g, 0, none⟩), .int .i64 (i : Int)] w fun e w' => PrdPost s i w e w' := by
  have H0 := hide (show prs s i = prd s (s.size - i) 0 i from rfl)
  go_enter Tryd.func116, Tryd.ntmps116
  go_wp2_with fail
  go_loop [6, 7] (fun dv iv => ∃ (d : Int) (x : Nat), dv = .int .i64 d ∧ iv = .int .i64 (x : Int) ∧ x ≤ s.size ∧ (-100000 ≤ d ∧ d ≤ (x : Int)) ∧ ((0 ≤ d ∧ prs s i = prd s (s.size - x) d x) ∨ (d < 0 ∧ prs s i = none))) (fun _ iv => s.size - (intOf iv).toNat)
  case atStart => exact ⟨0, i, rfl, rfl, hi, by omega, .inl ⟨by omega, unhide H0⟩⟩
  case round =>
    obtain ⟨d, x, rfl, rfl, hx, hd, hp⟩ := hrel
    rcases hp with ⟨hd0, hp⟩ | ⟨hd0, hp⟩
    · by_cases hlt : x < s.size
      · have h1 : (x : Int) < (s.size : Int) := by omega
        have h2 : (0 : Int) ≤ d := hd0
        have HB := hide (byt_at s x hlt)
        have hst := prd_step s d hlt
        rw [← hp] at hst
        have HS := hide hst
        clear hst hp
        rcases (show byt s x = 40 ∨ byt s x = 41 ∨ (byt s x ≠ 40 ∧ byt s x ≠ 41) by omega) with hb | hb | ⟨hb, hb2⟩
        · have hc : (s[x]).toNat = 40 := by rw [unhide HB, hb]
          rw [if_pos hb] at HS
          have h3 : ((d + 1) == 0) = false := by rw [beq_eq_false_iff_ne]; omega
          have HS2 := hide (show prs s i = prd s (s.size - (x + 1)) (d + 1) (x + 1) by rw [unhide HS, if_neg (by omega), if_neg (by omega)])
          clear HS HB hb
          go_wp2_with fail
          exact ⟨⟨d + 1, x + 1, rfl, by go_num, by omega, by omega, .inl ⟨by omega, unhide HS2⟩⟩, by simp [intOf]; omega⟩
        · have hc : (s[x]).toNat = 41 := by rw [unhide HB, hb]
          rw [if_neg (show ¬ byt s x = 40 by omega), if_pos hb] at HS
          by_cases h0 : d - 1 = 0
          · have h3 : ((d - 1) == 0) = true := by rw [beq_iff_eq]; exact h0
            rw [if_pos h0] at HS
            clear HB hb
            go_wp2_with fail
            go_ret2
            exact ⟨_, _, rfl, fun _ => ⟨x + 1, by omega, unhide HS⟩, by simp, Below.refl _ _⟩
          · have h3 : ((d - 1) == 0) = false := by rw [beq_eq_false_iff_ne]; exact h0
            rw [if_neg h0] at HS
            clear HB hb
            go_wp2_with fail
            refine ⟨⟨d - 1, x + 1, rfl, by go_num, by omega, by omega, ?_⟩, by simp [intOf]; omega⟩
            by_cases h4 : d - 1 < 0
            · exact .inr ⟨h4, by rw [unhide HS, if_pos h4]⟩
            · exact .inl ⟨by omega, by rw [unhide HS, if_neg h4]⟩
        · have hc1 : ((((s[x]).toNat : Int)) == 40) = false := by rw [unhide HB, beq_eq_false_iff_ne]; omega
          have hc2 : ((((s[x]).toNat : Int)) == 41) = false := by rw [unhide HB, beq_eq_false_iff_ne]; omega
          rw [if_neg hb, if_neg hb2] at HS
          by_cases h0 : d = 0
          · have h3 : (d == 0) = true := by rw [beq_iff_eq]; exact h0
            rw [if_pos h0] at HS
            clear HB hb hb2 h0
            go_wp2_with fail
            go_ret2
            exact ⟨_, _, rfl, fun _ => ⟨x + 1, by omega, unhide HS⟩, by simp, Below.refl _ _⟩
          · have h3 : (d == 0) = false := by rw [beq_eq_false_iff_ne]; exact h0
            rw [if_neg h0, if_neg (by omega)] at HS
            clear HB hb hb2
            go_wp2_with fail
            exact ⟨⟨d, x + 1, rfl, by go_num, by omega, by omega, .inl ⟨by omega, unhide HS⟩⟩, by simp [intOf]; omega⟩
      · have hxe : x = s.size := by omega
        have h1 : decide ((x : Int) < (s.size : Int)) = false := by simp; omega
        have hn : prs s i = none := by rw [hp, hxe, Nat.sub_self]; rfl
        have HN := hide hn
        clear hn hp
        go_wp2_with fail
        go_ret2
        exact ⟨_, _, rfl, by simp, fun _ => unhide HN, Below.refl _ _⟩
    · have HN := hide hp
      clear hp
      have h2 : ¬ (0 : Int) ≤ d := by omega
      by_cases hlt : x < s.size
      · have h1 : (x : Int) < (s.size : Int) := by omega
        go_wp2_with fail
        go_ret2
        exact ⟨_, _, rfl, by simp, fun _ => unhide HN, Below.refl _ _⟩
      · have h1 : decide ((x : Int) < (s.size : Int)) = false := by simp; omega
        go_wp2_with fail
        go_ret2
        exact ⟨_, _, rfl, by simp, fun _ => unhide HN, Below.refl _ _⟩
def FurPost (s : ByteArray) (r : Option (Nat × Nat)) (w : World) (e : Ending) (w' : World) : Prop :=
  ∃ (to nx : Int) (ok : Bool), e = .returned (.tuple #[.int .i64 to, .int .i64 nx, .bool ok]) ∧ (ok = true → ∃ x y : Nat, to = (x : Int) ∧ nx = (y : Int) ∧ r = some (x, y) ∧ x ≤ s.size) ∧ (ok = false → r = none) ∧ Below w.heap.size w w'
set_option maxRecDepth 100000 in
set_option maxHeartbeats 1000000 in
theorem further_arb {w : World} {g gn o : Nat} {s : ByteArray} {T : PT} {i : Nat} (c0 : w.cell? ⟨g, 0, none⟩ = some (.string s)) (k0 : w.cell? ⟨gn, o, none⟩ = some (.int .i64 T.k)) (_hs : s.size ≤ 65536) (_hi : i ≤ s.size + 1) (hk : T.k = 13) :
    Calls Tryd.prog 99 #[.pointer (some ⟨g, 0, none⟩), .pointer (some ⟨gn, o, none⟩), .int .i64 (i : Int)] w fun e w' => FurPost s (if i ≤ s.size then some (i, i + 1) else none) w e w' := by
  rw [hk] at k0
  clear hk
  rcases Classical.em (i ≤ s.size) with h | h
  · have h1 : (i : Int) ≤ (s.size : Int) := by omega
    rw [if_pos h]
    go_enter Tryd.func99, Tryd.ntmps99
    go_wp2_with fail
    go_quiet (fail)
    go_wp2_with fail
    go_ret3
    exact ⟨_, _, _, rfl, fun _ => ⟨i, i + 1, rfl, by omega, rfl, h⟩, (by intro h; (first | (simp at h; done) | (simp at h; omega))), below_drewN (Below.refl _ _) _⟩
  · have h1 : ¬ (i : Int) ≤ (s.size : Int) := by omega
    rw [if_neg h]
    go_enter Tryd.func99, Tryd.ntmps99
    go_wp2_with fail
    go_quiet (fail)
    go_wp2_with fail
    go_ret3
    exact ⟨_, _, _, rfl, (by intro h; (first | (simp at h; done) | (simp at h; omega))), fun _ => rfl, below_drewN (Below.refl _ _) _⟩
set_option maxRecDepth 100000 in
set_option maxHeartbeats 1000000 in
theorem further_bal {w : World} {g gn o : Nat} {s : ByteArray} {T : PT} {i : Nat} (c0 : w.cell? ⟨g, 0, none⟩ = some (.string s)) (k0 : w.cell? ⟨gn, o, none⟩ = some (.int .i64 T.k)) (hs : s.size ≤ 65536) (hi : i ≤ s.size) (hk : T.k = 14) :
    Calls Tryd.prog 99 #[.pointer (some ⟨g, 0, none⟩), .pointer (some ⟨gn, o, none⟩), .int .i64 (i : Int)] w fun e w' => FurPost s ((prs s i).map fun t => (t, t)) w e w' := by
  rw [hk] at k0
  clear hk
  have HP := hide (paired_any c0 hs hi)
  go_enter Tryd.func99, Tryd.ntmps99
  go_wp2_with fail
  refine (unhide HP).mono ?_
  rintro e w1 ⟨to, ok, rfl, h1, h2, hb⟩
  have H1 := hide h1
  have H2 := hide h2
  clear h1 h2 HP
  go_wp2_with fail
  go_ret3
  refine ⟨_, _, _, rfl, fun h => ?_, fun h => by rw [unhide H2 h]; rfl, hb⟩
  obtain ⟨x, hx, hp⟩ := unhide H1 h
  exact ⟨x, x, hx, hx, by rw [hp]; rfl, (prs_gt hp).2⟩
end Go.Proofs.YtbmngbpillihaaaDoor

namespace Go.Proofs.YtbmngbpillihaaaDoor
open Go.RowKit

theorem inT_any (t : ByteArray) (b : Nat) : ∀ k, k ≤ t.data.toList.length → inT t k b = (t.data.toList.take k).any fun c => c.toNat == b
  | 0, _ => by simp [inT]
  | k + 1, h => by
    rw [inT, inT_any t b k (by omega), List.take_succ_eq_append_getElem (by omega), List.any_append]
    congr 1
    rw [List.getD_eq_getElem?_getD, List.getElem?_eq_getElem (by omega)]
    simp [Bool.beq_comm]
theorem inT_inB (t : ByteArray) (b : Nat) : inT t t.size b = inB t b := by
  rw [inT_any t b t.size (by rw [Array.length_toList]; exact Nat.le_refl _)]
  unfold inB
  rw [List.take_of_length_le (by rw [Array.length_toList]; exact Nat.le_refl _)]
theorem set_same {α : Type} {l : List α} {i : Nat} {x : α} (h : l[i]? = some x) : l.set i x = l := by
  obtain ⟨hi, rfl⟩ := List.getElem?_eq_some_iff.1 h
  exact List.set_getElem_self hi
def SetAt (w : World) (x : Nd) : Prop := ∀ b, x.st = some b → w.heap[b]? = some (.cells (sc (inT x.t x.t.size)) 33 (0, 0))
theorem set_not_owned {w : World} {B g k : Nat} {m : MS} {N : List Nd} {O : List Int} {W : List Wr} {C : List Cr} {G S : List Gft} {c : Array Value} (h : Rep w B g m N O W C G S) (hc : w.heap[k]? = some (.cells c 33 (0, 0))) : ¬ m.owns g k := by
  intro x
  rcases x with x | x | x | x | x | x | x
  · have hb := h.blk
    rw [← x, hc] at hb
    injection hb with hb
    injection hb with _ hb
    exact absurd hb (by decide)
  · exact h.nodes.neBlk hc (by decide) x.symm
  · exact h.roots.neBlk hc (by decide) x.symm
  · exact h.works.neBlk hc (by decide) x.symm
  · exact h.choices.neBlk hc (by decide) x.symm
  · exact h.given.neBlk hc (by decide) x.symm
  · exact h.said.neBlk hc (by decide) x.symm
theorem SetAt.fr {w w' : World} {B g : Nat} {m m' : MS} {N : List Nd} {O : List Int} {W : List Wr} {C : List Cr} {G S : List Gft} {x : Nd} (h : SetAt w x) (r : Rep w B g m N O W C G S) (f : Fr g m m' w w') : SetAt w' x := fun b hb => by
  have := h b hb
  exact (f.block b (Array.getElem?_eq_some_iff.1 this).1 (set_not_owned r this)).trans this
def HasPost (w : World) (B g : Nat) (m : MS) (N : List Nd) (O : List Int) (W : List Wr) (C : List Cr) (G S : List Gft) (nd : Nat) (x : Nd) (i : Nat) (e : Ending) (w' : World) : Prop :=
  ∃ b, e = .returned (.bool (inB x.t (byt m.s i))) ∧ Rep w' B g m (N.set nd { x with st := some b }) O W C G S ∧ Fr g m m w w' ∧ SetAt w' { x with st := some b }
set_option maxRecDepth 100000 in
set_option maxHeartbeats 1000000 in
theorem has_old {w : World} {B g gn cap nd i b : Nat} {m : MS} {N : List Nd} {O : List Int} {W : List Wr} {C : List Cr} {G S : List Gft} {x : Nd} (h : Rep w B g m N O W C G S) (hnv : m.nv = .slice (some ⟨gn, 0, none⟩) N.length cap) (hx : N[nd]? = some x) (hst : x.st = some b) (hset : SetAt w x) (hi : i < m.s.size) (_hs : m.s.size ≤ 65536) :
    Calls Tryd.prog 114 #[.pointer (some ⟨g, 0, none⟩), .pointer (some ⟨gn, nd * 10, none⟩), .int .i64 (i : Int)] w (HasPost w B g m N O W C G S nd x i) := by
  have hb := hset b hst
  have k7 : w.cell? ⟨gn, nd * 10 + 7, none⟩ = some (.pointer (some ⟨b, 0, none⟩)) := by have := h.nodes.cell ndV_len hnv hx (k := 7) rfl; rw [hst] at this; exact this
  have c0 := h.c0
  have HSet := hide (And.intro hset hst)
  obtain ⟨p, hp⟩ : ∃ p, p = inT x.t x.t.size := ⟨_, rfl⟩
  have hpb : p (byt m.s i) = inB x.t (byt m.s i) := by rw [hp, inT_inB]
  have y0 : w.cell? ⟨b, 0, none⟩ = some (.int .u64 (wd p 0 : Int)) := by rw [cell_of_row _ _ _ _ _ _ hb, hp]; rfl
  have y1 : w.cell? ⟨b, 1, none⟩ = some (.int .u64 (wd p 1 : Int)) := by rw [cell_of_row _ _ _ _ _ _ hb, hp]; rfl
  have y2 : w.cell? ⟨b, 2, none⟩ = some (.int .u64 (wd p 2 : Int)) := by rw [cell_of_row _ _ _ _ _ _ hb, hp]; rfl
  have y3 : w.cell? ⟨b, 3, none⟩ = some (.int .u64 (wd p 3 : Int)) := by rw [cell_of_row _ _ _ _ _ _ hb, hp]; rfl
  have HByte := hide (byt_at m.s i hi)
  have hbl : byt m.s i < 256 := by rw [← byt_at m.s i hi]; exact UInt8.toNat_lt _
  have HC := hide (fun W => has_any p (byt m.s i) hbl W)
  unfold sv sc u64v at HC
  rw [hpb, ← unhide HByte] at HC
  have HR := hide h
  have hi' : (i : Int) < (m.s.size : Int) := by omega
  have hset1 : N.set nd { x with st := some b } = N := by
    have : ({ x with st := some b } : Nd) = x := by rw [← hst]
    rw [this]
    exact set_same hx
  have HN := hide hset1
  clear h hset hb hp hpb hst hset1 hx hnv hbl
  go_enter Tryd.func114, Tryd.ntmps114
  go_wp2_with fail
  go_region_held3 (fun w' => w'.cell? ⟨gn, nd * 10 + 7, none⟩ = some (.pointer (some ⟨b, 0, none⟩)) ∧ w'.cell? ⟨g, 0, none⟩ = some (.string m.s) ∧ w'.cell? ⟨b, 0, none⟩ = some (.int .u64 (wd p 0 : Int)) ∧ w'.cell? ⟨b, 1, none⟩ = some (.int .u64 (wd p 1 : Int)) ∧ w'.cell? ⟨b, 2, none⟩ = some (.int .u64 (wd p 2 : Int)) ∧ w'.cell? ⟨b, 3, none⟩ = some (.int .u64 (wd p 3 : Int))) (go_keep) (first | (go_at_call 74; refine (unhide HC _).mono ?_; rintro e w1 ⟨rfl, hb1⟩; have k7 := cell_later hb1 k7; have c0 := cell_later hb1 c0; have y0 := cell_later hb1 y0; have y1 := cell_later hb1 y1; have y2 := cell_later hb1 y2; have y3 := cell_later hb1 y3))
  go_wp2_with fail
  go_ret
  have hbw : Below w.heap.size w w1 := ((Below.refl _ _).drew).trans (hb1.mono (by simp))
  exact ⟨b, (by rw [unhide HByte]; rfl), by rw [unhide HN]; exact (unhide HR).later hbw, Fr.later hbw, fun b' hb' => row_below ((unhide HSet).1 b' ((unhide HSet).2.trans hb')) hbw⟩
set_option maxRecDepth 100000 in
set_option maxHeartbeats 1000000 in
theorem has_new {w : World} {B g gn cap nd i : Nat} {m : MS} {N : List Nd} {O : List Int} {W : List Wr} {C : List Cr} {G S : List Gft} {x : Nd} (h : Rep w B g m N O W C G S) (hnv : m.nv = .slice (some ⟨gn, 0, none⟩) N.length cap) (hx : N[nd]? = some x) (hst : x.st = none) (ht : x.t.size ≤ 65536) (hi : i < m.s.size) (_hs : m.s.size ≤ 65536) :
    Calls Tryd.prog 114 #[.pointer (some ⟨g, 0, none⟩), .pointer (some ⟨gn, nd * 10, none⟩), .int .i64 (i : Int)] w (HasPost w B g m N O W C G S nd x i) := by
  have k7 : w.cell? ⟨gn, nd * 10 + 7, none⟩ = some (.pointer none) := by have := h.nodes.cell ndV_len hnv hx (k := 7) rfl; rw [hst] at this; exact this
  have k1 : w.cell? ⟨gn, nd * 10 + 1, none⟩ = some (.string x.t) := h.nodes.cell ndV_len hnv hx (k := 1) rfl
  have hng : ¬ gn = g := fun e => h.nodes.neBlk h.blk (by decide) (by rw [hnv, e]; rfl)
  have hgn : ¬ g = gn := fun e => hng e.symm
  have hgnl := (h.nodes.low (k := gn) (by rw [hnv]; rfl)).2
  obtain ⟨p, hp⟩ : ∃ p, p = inT x.t x.t.size := ⟨_, rfl⟩
  have hpb : p (byt m.s i) = inB x.t (byt m.s i) := by rw [hp, inT_inB]
  have HOf := hide (of_any x.t w (by unfold maxLen; omega))
  rw [← hp] at HOf
  have HByte := hide (byt_at m.s i hi)
  have hbl : byt m.s i < 256 := by rw [← byt_at m.s i hi]; exact UInt8.toNat_lt _
  have HC := hide (fun W => has_any p (byt m.s i) hbl W)
  unfold sv sc u64v at HC HOf
  rw [hpb, ← unhide HByte] at HC
  have HR := hide (And.intro h (And.intro hnv (And.intro hx hp)))
  have hi' : (i : Int) < (m.s.size : Int) := by omega
  clear h hp hpb hst hx hnv hbl
  go_enter Tryd.func114, Tryd.ntmps114
  go_wp2_with fail
  refine (unhide HOf).mono ?_
  rintro e w1 ⟨rfl, hb1⟩
  obtain ⟨w2, hw2⟩ : ∃ w2, w2 = w1.alloc (.cells #[.int .u64 (wd p 0 : Int), .int .u64 (wd p 1 : Int), .int .u64 (wd p 2 : Int), .int .u64 (wd p 3 : Int)] 33) := ⟨_, rfl⟩
  have hb2 : Below w1.heap.size w1 w2 := by rw [hw2]; exact (Below.refl _ _).alloc (Nat.le_refl _) _
  have hbw := bnext hb1 hb2
  have hz2 : w2.heap[w1.heap.size]? = some (.cells #[.int .u64 (wd p 0 : Int), .int .u64 (wd p 1 : Int), .int .u64 (wd p 2 : Int), .int .u64 (wd p 3 : Int)] 33 (0, 0)) := by rw [hw2]; exact at_new rfl
  have k7' := cell_later hbw k7
  have r2 := (unhide HR).1.later hbw
  have f7 : w2.frozen? ⟨gn, nd * 10 + 7, none⟩ = false := r2.nodes.frozen (unhide HR).2.1 _
  have hzn : ¬ w1.heap.size = gn := by have := hb1.size; omega
  have hnz : ¬ gn = w1.heap.size := fun e => hzn e.symm
  have r3 := RepNset (y := { x with st := some w1.heap.size }) (k := 7) r2 (unhide HR).2.1 (unhide HR).2.2.1 (by decide) (v := .pointer (some ⟨w1.heap.size, 0, none⟩)) rfl
  have f3 : Fr g m m w (w2.setCell ⟨gn, nd * 10 + 7, none⟩ (.pointer (some ⟨w1.heap.size, 0, none⟩))) := (Fr.later hbw).trans (FrNset (by rw [(unhide HR).2.1]; rfl) _ _)
  have hz3 : (w2.setCell ⟨gn, nd * 10 + 7, none⟩ (.pointer (some ⟨w1.heap.size, 0, none⟩))).heap[w1.heap.size]? = some (.cells #[.int .u64 (wd p 0 : Int), .int .u64 (wd p 1 : Int), .int .u64 (wd p 2 : Int), .int .u64 (wd p 3 : Int)] 33 (0, 0)) := (heap_setCell_other w2 ⟨gn, nd * 10 + 7, none⟩ w1.heap.size _ hzn).trans hz2
  have hnl : nd < N.length := (List.getElem?_eq_some_iff.1 (unhide HR).2.2.1).1
  have k7'' : (w2.setCell ⟨gn, nd * 10 + 7, none⟩ (.pointer (some ⟨w1.heap.size, 0, none⟩))).cell? ⟨gn, nd * 10 + 7, none⟩ = some (.pointer (some ⟨w1.heap.size, 0, none⟩)) := r3.nodes.cell ndV_len (by rw [List.length_set]; exact (unhide HR).2.1) (List.getElem?_set_self hnl) (k := 7) rfl
  obtain ⟨w3, hw3⟩ : ∃ w3, w3 = w2.setCell ⟨gn, nd * 10 + 7, none⟩ (.pointer (some ⟨w1.heap.size, 0, none⟩)) := ⟨_, rfl⟩
  rw [← hw3] at r3 f3 hz3 k7''
  have c0 : w3.cell? ⟨g, 0, none⟩ = some (.string m.s) := r3.c0
  have y0 : w3.cell? ⟨w1.heap.size, 0, none⟩ = some (.int .u64 (wd p 0 : Int)) := by rw [cell_of_row _ _ _ _ _ _ hz3]; rfl
  have y1 : w3.cell? ⟨w1.heap.size, 1, none⟩ = some (.int .u64 (wd p 1 : Int)) := by rw [cell_of_row _ _ _ _ _ _ hz3]; rfl
  have y2 : w3.cell? ⟨w1.heap.size, 2, none⟩ = some (.int .u64 (wd p 2 : Int)) := by rw [cell_of_row _ _ _ _ _ _ hz3]; rfl
  have y3 : w3.cell? ⟨w1.heap.size, 3, none⟩ = some (.int .u64 (wd p 3 : Int)) := by rw [cell_of_row _ _ _ _ _ _ hz3]; rfl
  have H3 := hide (And.intro r3 (And.intro f3 hz3))
  clear k7 r2 r3 f3 hz3 hz2 hbw hb2 hb1 HOf
  rw [hw2] at k7' f7 hw3
  go_wp2_with fail
  rw [← hw3]
  clear k7' f7 hw2 hw3 hzn hnz
  go_region_held3 (fun w' => w'.cell? ⟨gn, nd * 10 + 7, none⟩ = some (.pointer (some ⟨w1.heap.size, 0, none⟩)) ∧ w'.cell? ⟨g, 0, none⟩ = some (.string m.s) ∧ w'.cell? ⟨w1.heap.size, 0, none⟩ = some (.int .u64 (wd p 0 : Int)) ∧ w'.cell? ⟨w1.heap.size, 1, none⟩ = some (.int .u64 (wd p 1 : Int)) ∧ w'.cell? ⟨w1.heap.size, 2, none⟩ = some (.int .u64 (wd p 2 : Int)) ∧ w'.cell? ⟨w1.heap.size, 3, none⟩ = some (.int .u64 (wd p 3 : Int))) (go_keep) (first | (go_at_call 74; refine (unhide HC _).mono ?_; rintro e w4 ⟨rfl, hb4⟩; have k7 := cell_later hb4 k7''; have c0 := cell_later hb4 c0; have y0 := cell_later hb4 y0; have y1 := cell_later hb4 y1; have y2 := cell_later hb4 y2; have y3 := cell_later hb4 y3))
  go_wp2_with fail
  go_ret
  obtain ⟨r3, f3, hz3⟩ := unhide H3
  have hbw : Below w3.heap.size w3 w4 := ((Below.refl _ _).drew).trans (hb4.mono (by simp))
  refine ⟨w1.heap.size, (by rw [unhide HByte]; rfl), r3.later hbw, f3.trans (Fr.later hbw), fun b' hb' => ?_⟩
  have hb' : some w1.heap.size = some b' := hb'
  injection hb' with hb'
  subst hb'
  have := row_below hz3 hbw
  rw [(unhide HR).2.2.2] at this
  exact this
theorem has_node {w : World} {B g gn cap nd i : Nat} {m : MS} {N : List Nd} {O : List Int} {W : List Wr} {C : List Cr} {G S : List Gft} {x : Nd} (h : Rep w B g m N O W C G S) (hnv : m.nv = .slice (some ⟨gn, 0, none⟩) N.length cap) (hx : N[nd]? = some x) (hset : SetAt w x) (ht : x.t.size ≤ 65536) (hi : i < m.s.size) (hs : m.s.size ≤ 65536) :
    Calls Tryd.prog 114 #[.pointer (some ⟨g, 0, none⟩), .pointer (some ⟨gn, nd * 10, none⟩), .int .i64 (i : Int)] w (HasPost w B g m N O W C G S nd x i) := by
  cases hst : x.st with
  | none => exact has_new h hnv hx hst ht hi hs
  | some b => exact has_old h hnv hx hst hset hi hs
end Go.Proofs.YtbmngbpillihaaaDoor
