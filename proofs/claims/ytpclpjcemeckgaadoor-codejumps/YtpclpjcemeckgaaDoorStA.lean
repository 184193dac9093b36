/- Statements: what is wrong with names, the first of some errors, places. -/
import Derived.Test.YtpclpjcemeckgaaDoorExFits
namespace Go.Proofs.YtpclpjcemeckgaaDoor
open Go.RowKit

/-- Names that lie in a list. -/
structure NL where
  xa : Option Addr
  gb : Nat
  ob : Nat
  cap : Nat
  l : List ByteArray
def NL.v (N : NL) : Value := .slice N.xa N.l.length N.cap
structure NL.In (w : World) (N : NL) : Prop where
  cap : N.l.length ≤ N.cap
  max : N.cap ≤ maxLen
  at_ : 0 < N.l.length → N.xa = some ⟨N.gb, N.ob, none⟩
  cell : ∀ i t, N.l[i]? = some t → w.cell? ⟨N.gb, N.ob + i, none⟩ = some (.string t) ∧ t.size ≤ maxLen
theorem NL.In.later {w w' : World} {N : NL} (h : N.In w) (hb : Below w.heap.size w w') : N.In w' := ⟨h.cap, h.max, h.at_, fun i t ht => ⟨cell_later hb (h.cell i t ht).1, (h.cell i t ht).2⟩⟩
/-- What is wrong with names. -/
def nmsE (l : List ByteArray) : Int := if l.all named = true then 0 else 7
theorem all_take {l : List ByteArray} {k : Nat} (h : (l.take k).all named = true) {t : ByteArray} (ht : l[k]? = some t) (hn : named t = true) : (l.take (k + 1)).all named = true := by
  rw [List.take_add_one, ht]
  simp only [Option.toList_some, List.all_append, h, List.all_cons, hn, List.all_nil, Bool.and_self]
theorem all_not {l : List ByteArray} {k : Nat} {t : ByteArray} (ht : l[k]? = some t) (hn : named t = false) : l.all named = false := by
  rw [← Bool.not_eq_true, List.all_eq_true]
  intro h
  rw [h t (List.mem_of_getElem? ht)] at hn
  cases hn
theorem sl_idx {t e : TypeId} {g o n cap i : Nat} (hu : Tryd.prog.underlying t = some (.slice e)) (hs : (Tryd.prog.info? e).map (·.size) = some 1) (hi : i < n) (w : World) :
    (Instr.indexAt t (.slice (some ⟨g, o, none⟩) n cap) (.int .i64 (i : Int))).run Tryd.prog w = .ok (.pointer (some ⟨g, o + i, none⟩)) w := by
  have h0 : (0 : Int) ≤ (i : Int) ∧ (i : Int) < (n : Int) := by omega
  cases hq : Tryd.prog.info? e with
  | none => simp [hq] at hs
  | some x =>
    have hz : x.size = 1 := by simpa [hq] using hs
    simp [Instr.indexAt, asIntOf, run_underlying hu, h0, sizeOf, typeInfo, hq, hz, Addr.add_lit]
    intro h
    omega
theorem size_strS : (Tryd.prog.info? 9).map (·.size) = some 1 := by kernel_rfl
theorem size_errS : (Tryd.prog.info? 26).map (·.size) = some 1 := by kernel_rfl
set_option maxRecDepth 100000 in
set_option maxHeartbeats 1000000 in
theorem wrongNames_any (N : NL) (w : World) (hN : N.In w) :
    Calls Tryd.prog 40 #[N.v] w fun e w' => e = .returned (.int .i64 (nmsE N.l)) ∧ w' = w := by
  have HN := hide hN
  have hmax := hN.max
  have hcap := hN.cap
  unfold maxLen at hmax
  have hat := hN.at_
  clear hN
  obtain ⟨xa, gb, ob, cap, l⟩ := N
  simp only at hmax hcap hat
  unfold NL.v
  simp only
  obtain ⟨n, hn⟩ : ∃ n, n = l.length := ⟨_, rfl⟩
  rw [← hn] at hcap hat ⊢
  have HL := hide hn
  clear hn
  go_enter Tryd.func40, Tryd.ntmps40
  go_wp2_with fail
  go_loop [7] (fun i => ∃ k : Nat, k ≤ n ∧ i = .int .i64 (k : Int) ∧ Hid ((l.take k).all named = true)) (fun i => n - (intOf i).toNat)
  case atStart => exact ⟨0, by omega, rfl, rfl⟩
  case round =>
    obtain ⟨k, hk, rfl, HT⟩ := hrel
    rcases Nat.lt_or_ge k n with hlt | hge
    · obtain ⟨t, ht⟩ : ∃ t, l[k]? = some t := ⟨l[k]'(by have := unhide HL; omega), List.getElem?_eq_getElem _⟩
      obtain ⟨ct, hts⟩ := (unhide HN).cell k t ht
      simp only at ct
      have hxa := hat (by omega)
      subst hxa
      have HNA := hide (named_any t w hts)
      have HS1 := hide (fun h => all_take (unhide HT) ht h)
      have HS0 := hide (fun h => all_not ht h)
      clear ht hts
      have hix := sl_idx (g := gb) (o := ob) (cap := cap) (i := k) (n := n) Tryd.underlying42 size_strS hlt
      cases hq : named t
      · have HE := hide (show nmsE l = 7 by unfold nmsE; rw [unhide HS0 hq]; rfl)
        rw [hq] at HNA
        clear hq HS1 HS0
        go_wp2_with fail
        refine (unhide HNA).mono ?_
        rintro e w1 ⟨rfl, rfl⟩
        go_wp2_with fail
        go_ret
        exact ⟨by rw [unhide HE]; rfl, rfl⟩
      · have HA := hide (unhide HS1 hq)
        rw [hq] at HNA
        clear hq HS1 HS0
        go_wp2_with fail
        refine (unhide HNA).mono ?_
        rintro e w1 ⟨rfl, rfl⟩
        go_wp2_with fail
        exact ⟨⟨k + 1, by omega, rfl, unhide HA⟩, by simp [intOf]; omega⟩
    · obtain rfl : k = n := by omega
      have HE := hide (show nmsE l = 0 by
        have h := unhide HT
        rw [unhide HL, List.take_length] at h
        unfold nmsE; rw [h]; rfl)
      go_wp2_with fail
      go_ret
      exact ⟨by rw [unhide HE]; rfl, rfl⟩
/-- The first of some errors. -/
def fst0 : List Int → Int
  | [] => 0
  | x :: l => if x = 0 then fst0 l else x
theorem fst0_drop {l : List Int} {k : Nat} {x : Int} (h : fst0 l = fst0 (l.drop k)) (hx : l[k]? = some x) : (x = 0 → fst0 l = fst0 (l.drop (k + 1))) ∧ (x ≠ 0 → fst0 l = x) := by
  have hk : k < l.length := (List.getElem?_eq_some_iff.1 hx).1
  have e : l.drop k = x :: l.drop (k + 1) := by
    rw [List.drop_eq_getElem_cons hk]
    congr 1
    rw [List.getElem?_eq_getElem hk] at hx
    exact Option.some.inj hx
  rw [h, e]
  exact ⟨fun z => if_pos z, fun z => if_neg z⟩
set_option maxRecDepth 100000 in
set_option maxHeartbeats 1000000 in
theorem first_any (l : List Int) (g : Nat) (w : World) (hl : l.length ≤ 8) (hc : ∀ i x, l[i]? = some x → w.cell? ⟨g, i, none⟩ = some (.int .i64 x)) :
    Calls Tryd.prog 37 #[.slice (some ⟨g, 0, none⟩) l.length l.length] w fun e w' => e = .returned (.int .i64 (fst0 l)) ∧ w' = w := by
  have HC := hide hc
  clear hc
  obtain ⟨n, hn⟩ : ∃ n, n = l.length := ⟨_, rfl⟩
  rw [← hn] at hl ⊢
  have HL := hide hn
  clear hn
  go_enter Tryd.func37, Tryd.ntmps37
  go_wp2_with fail
  go_loop [7] (fun i => ∃ k : Nat, k ≤ n ∧ i = .int .i64 (k : Int) ∧ Hid (fst0 l = fst0 (l.drop k))) (fun i => n - (intOf i).toNat)
  case atStart => exact ⟨0, by omega, rfl, rfl⟩
  case round =>
    obtain ⟨k, hk, rfl, HT⟩ := hrel
    rcases Nat.lt_or_ge k n with hlt | hge
    · obtain ⟨x, hx⟩ : ∃ x, l[k]? = some x := ⟨l[k]'(by have := unhide HL; omega), List.getElem?_eq_getElem _⟩
      have ct := unhide HC k x hx
      have HS := hide (fst0_drop (unhide HT) hx)
      clear hx
      have hix := sl_idx (g := g) (o := 0) (cap := n) (i := k) (n := n) Tryd.underlying89 size_errS hlt
      rw [Nat.zero_add] at hix
      by_cases hq : x = 0
      · have HA := hide ((unhide HS).1 hq)
        have q : (x == 0) = true := by rw [beq_iff_eq]; exact hq
        clear hq HS
        go_wp2_with fail
        exact ⟨⟨k + 1, by omega, rfl, unhide HA⟩, by simp [intOf]; omega⟩
      · have HA := hide ((unhide HS).2 hq)
        have q : (x == 0) = false := by rw [beq_eq_false_iff_ne]; exact hq
        clear hq HS
        go_wp2_with fail
        go_ret
        exact ⟨by rw [unhide HA]; rfl, rfl⟩
    · obtain rfl : k = n := by omega
      have HE := hide (show fst0 l = 0 by
        have h := unhide HT
        rw [unhide HL, List.drop_length] at h
        exact h)
      go_wp2_with fail
      go_ret
      exact ⟨by rw [unhide HE]; rfl, rfl⟩
end Go.Proofs.YtpclpjcemeckgaaDoor
