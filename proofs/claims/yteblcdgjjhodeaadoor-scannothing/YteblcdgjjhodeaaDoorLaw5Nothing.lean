/- Nothing changes nothing: ScanNothing is true of any rules, any pattern, any text and place. -/
import Derived.Test.YteblcdgjjhodeaaDoorLaw5K
namespace Go.Proofs.YteblcdgjjhodeaaDoor
open Go.RowKit

section
variable {s : ByteArray} {R : ByteArray → Option PT} {dg : Nat → ByteArray}
theorem sub_none (s : ByteArray) (i : Nat) : sub s i i = ⟨#[]⟩ := by
  have h : (sub s i i).size = 0 := by rw [sub_size]; omega
  exact ByteArray.ext (Array.eq_empty_of_size_eq_zero h)
theorem W_empty (n : Nat) (i : Nat) (g : List Gft) : W s R dg (n + 1) (leaf 1 0 ⟨#[]⟩) i g = one (wy i g) := by
  rw [W_leaf (by unfold leafK; decide)]
  have : onl s (leaf 1 0 ⟨#[]⟩) i = some i := by
    show (if sub s i (i + 0) = ⟨#[]⟩ then some (i + 0) else none) = some i
    rw [Nat.add_zero, if_pos (sub_none s i)]
  rw [this]
theorem W_fail (n : Nat) (i : Nat) (g : List Gft) : W s R dg (n + 1) (leaf 15 0 ⟨#[]⟩) i g = nil := by
  rw [W_leaf (by unfold leafK; decide)]
  rfl
theorem nothing1 (b : Nat) (a : PT) (j : Nat) : Le (W s R dg 20001 (kidsP 18 b [leaf 1 0 ⟨#[]⟩, a]) j []) (W s R dg 20001 a j []) := by
  rw [show (20001 : Nat) = 19999 + 1 + 1 from rfl, W_cat2 rfl rfl, kidsP_kid (x := leaf 1 0 ⟨#[]⟩) rfl, kidsP_kid (x := a) rfl, W_empty, bd_one]
  exact W_le (by omega) a j []
theorem nothing2 (b : Nat) (a : PT) (j : Nat) : Le (W s R dg 20001 (kidsP 18 b [a, leaf 1 0 ⟨#[]⟩]) j []) (W s R dg 20001 a j []) := by
  rw [show (20001 : Nat) = 19999 + 1 + 1 from rfl, W_cat2 rfl rfl, kidsP_kid (x := a) rfl, kidsP_kid (x := leaf 1 0 ⟨#[]⟩) rfl, bd_congr _ (k := fun e g => one (wy e g)) (fun e g => W_empty 19999 e g), bd_unit]
  exact W_le (by omega) a j []
theorem nothing3 (b : Nat) (a : PT) (j : Nat) : Le (W s R dg 20001 (kidsP 19 b [leaf 15 0 ⟨#[]⟩, a]) j []) (W s R dg 20001 a j []) := by
  rw [show (20001 : Nat) = 19999 + 1 + 1 from rfl, W_alt2 rfl rfl, kidsP_kid (x := leaf 15 0 ⟨#[]⟩) rfl, kidsP_kid (x := a) rfl, W_fail, thn_nil]
  exact W_le (by omega) a j []
theorem nothing4 (b : Nat) (a : PT) (j : Nat) : Le (W s R dg 20001 (kidsP 19 b [a, leaf 15 0 ⟨#[]⟩]) j []) (W s R dg 20001 a j []) := by
  rw [show (20001 : Nat) = 19999 + 1 + 1 from rfl, W_alt2 rfl rfl, kidsP_kid (x := a) rfl, kidsP_kid (x := leaf 15 0 ⟨#[]⟩) rfl, W_fail, nil_thn]
  exact W_le (by omega) a j []
theorem nothing5 (b : Nat) (a : PT) (j : Nat) : Le (W s R dg 20001 (kidsP 18 b [leaf 15 0 ⟨#[]⟩, a]) j []) (W s R dg 20001 (leaf 15 0 ⟨#[]⟩) j []) := by
  rw [show (20001 : Nat) = 19999 + 1 + 1 from rfl, W_cat2 rfl rfl, kidsP_kid (x := leaf 15 0 ⟨#[]⟩) rfl, kidsP_kid (x := a) rfl, W_fail, W_fail, bd_nil]
  exact le_refl _
end

theorem tabs_nothing {w : World} (h : laidMetH Tryd.prog Rows.scanNothingRow.laid w) : Shapes w ∧ ItoaSays dgI w := by
  have e : (Rows.scanNothingRow.laid.filter fun x => x.2.handleName?.isSome) = [] := by kernel_rfl
  have h' : laidMet Tryd.prog Rows.scanNothingRow.laid w := by
    have hp := h
    unfold laidMetH at hp
    rw [e] at hp
    exact hp
  refine ⟨shapes_of (rest := []) (laidMet.tail (laidMet.tail (laidMet.tail h'))), itoa_says ?_⟩
  exact Lib.tabIs_of_head (g := 1) (t := 123) (e := 110) (n := 20) (by kernel_rfl) (by kernel_rfl) Tryd.underlying123 Tryd.underlying110 (by kernel_rfl) (by kernel_rfl) (rest := _) (show laidMet Tryd.prog (("internal/strconv.uint64pow10", Lib.tabData .u64 Lib.pow10Tab) :: _) w from h'.tail.tail)

set_option maxRecDepth 100000 in
set_option maxHeartbeats 4000000 in
theorem scanNothing_walk {RL : List (ByteArray × PT)} {rv : Value} {dg : Nat → ByteArray} (a : PT) (s : ByteArray) (i : Int) (w : World) (hV : RVal w RL rv) (ha : a.In w) (hs : s.size ≤ maxLen) (hS : Shapes w) (hIt : ItoaSays dg w) :
    Calls Tryd.prog 6 #[rv, pv a, .string s, .int .i64 i] w fun e w' => e = .returned (.bool true) ∧ Below w.heap.size w w' := by
  have HA := hide (fun W (h : Below w.heap.size w W) => alive5 W (hIt.later h) (hS.later h))
  have hl1 : ∀ W, (leaf 1 0 ⟨#[]⟩).In W := fun W => leaf_in (by decide) (by decide) (by unfold maxLen; decide)
  have hl2 : ∀ W, (leaf 15 0 ⟨#[]⟩).In W := fun W => leaf_in (by decide) (by decide) (by unfold maxLen; decide)
  have HIN := hide (fun W (h : Below w.heap.size w W) => PT.In.later h ha)
  have Hk1 := hide (fun W (h : Below w.heap.size w W) b (hin : (kidsP 18 b [leaf 1 0 ⟨#[]⟩, a]).In W) => show Calls Tryd.prog 13 #[rv, .agg #[.int .i64 18, .string ⟨#[]⟩, .int .i64 0, .string ⟨#[]⟩, .slice (some ⟨b, 0, none⟩) 2 2], .agg #[.int .i64 a.k, .string a.t, .int .i64 a.n, .string a.nm, .slice a.xa a.len a.cap], .string s, .int .i64 i] W _ from alike_le dg (kidsP 18 b [leaf 1 0 ⟨#[]⟩, a]) a s i W (hV.later h) (hIt.later h) hin (PT.In.later h ha) (hS.later h) hs 20001 (Nat.le_refl _) (fun j => nothing1 b a j))
  have Hk2 := hide (fun W (h : Below w.heap.size w W) b (hin : (kidsP 18 b [a, leaf 1 0 ⟨#[]⟩]).In W) => show Calls Tryd.prog 13 #[rv, .agg #[.int .i64 18, .string ⟨#[]⟩, .int .i64 0, .string ⟨#[]⟩, .slice (some ⟨b, 0, none⟩) 2 2], .agg #[.int .i64 a.k, .string a.t, .int .i64 a.n, .string a.nm, .slice a.xa a.len a.cap], .string s, .int .i64 i] W _ from alike_le dg (kidsP 18 b [a, leaf 1 0 ⟨#[]⟩]) a s i W (hV.later h) (hIt.later h) hin (PT.In.later h ha) (hS.later h) hs 20001 (Nat.le_refl _) (fun j => nothing2 b a j))
  have Hk3 := hide (fun W (h : Below w.heap.size w W) b (hin : (kidsP 19 b [leaf 15 0 ⟨#[]⟩, a]).In W) => show Calls Tryd.prog 13 #[rv, .agg #[.int .i64 19, .string ⟨#[]⟩, .int .i64 0, .string ⟨#[]⟩, .slice (some ⟨b, 0, none⟩) 2 2], .agg #[.int .i64 a.k, .string a.t, .int .i64 a.n, .string a.nm, .slice a.xa a.len a.cap], .string s, .int .i64 i] W _ from alike_le dg (kidsP 19 b [leaf 15 0 ⟨#[]⟩, a]) a s i W (hV.later h) (hIt.later h) hin (PT.In.later h ha) (hS.later h) hs 20001 (Nat.le_refl _) (fun j => nothing3 b a j))
  have Hk4 := hide (fun W (h : Below w.heap.size w W) b (hin : (kidsP 19 b [a, leaf 15 0 ⟨#[]⟩]).In W) => show Calls Tryd.prog 13 #[rv, .agg #[.int .i64 19, .string ⟨#[]⟩, .int .i64 0, .string ⟨#[]⟩, .slice (some ⟨b, 0, none⟩) 2 2], .agg #[.int .i64 a.k, .string a.t, .int .i64 a.n, .string a.nm, .slice a.xa a.len a.cap], .string s, .int .i64 i] W _ from alike_le dg (kidsP 19 b [a, leaf 15 0 ⟨#[]⟩]) a s i W (hV.later h) (hIt.later h) hin (PT.In.later h ha) (hS.later h) hs 20001 (Nat.le_refl _) (fun j => nothing4 b a j))
  have Hk5 := hide (fun W (h : Below w.heap.size w W) b (hin : (kidsP 18 b [leaf 15 0 ⟨#[]⟩, a]).In W) => show Calls Tryd.prog 13 #[rv, .agg #[.int .i64 18, .string ⟨#[]⟩, .int .i64 0, .string ⟨#[]⟩, .slice (some ⟨b, 0, none⟩) 2 2], .agg #[.int .i64 15, .string ⟨#[]⟩, .int .i64 0, .string ⟨#[]⟩, .slice none 0 0], .string s, .int .i64 i] W _ from alike_le dg (kidsP 18 b [leaf 15 0 ⟨#[]⟩, a]) (leaf 15 0 ⟨#[]⟩) s i W (hV.later h) (hIt.later h) hin (hl2 W) (hS.later h) hs 20001 (Nat.le_refl _) (fun j => nothing5 b a j))
  have HL := hide (And.intro hl1 hl2)
  unfold pv
  clear hV ha hs hS hIt hl1 hl2
  go_enter Tryd.func6, Tryd.ntmps6
  go_wp2_with fail
  have hb0 : Below w.heap.size w (w.alloc (.cells #[.int .i64 a.k, .string a.t, .int .i64 a.n, .string a.nm, .slice a.xa a.len a.cap] 25)) := (Below.refl _ _).alloc (Nat.le_refl _) _
  refine (unhide HA _ hb0).mono ?_
  rintro e w1 ⟨rfl, hb1⟩
  have HX := hide (And.intro (bnext hb0 hb1) (row_below (at_new (w := w) (o := .cells #[.int .i64 a.k, .string a.t, .int .i64 a.n, .string a.nm, .slice a.xa a.len a.cap] 25) rfl) hb1))
  clear hb0 hb1 HA
  go_wp2_with fail
  refine (some_agg 15 0 ⟨#[]⟩ w1).mono ?_
  rintro e w2 ⟨rfl, hb2⟩
  have HX2 := hide (And.intro (bnext (unhide HX).1 hb2) (row_below (unhide HX).2 hb2))
  clear hb2 HX
  go_wp2_with fail
  have hb3 : Below w2.heap.size w2 (w2.alloc (.cells #[.int .i64 15, .string ⟨#[]⟩, .int .i64 0, .string ⟨#[]⟩, .slice none 0 0] 25)) := (Below.refl _ _).alloc (Nat.le_refl _) _
  have hzf : (w2.alloc (.cells #[.int .i64 15, .string ⟨#[]⟩, .int .i64 0, .string ⟨#[]⟩, .slice none 0 0] 25)).heap[w2.heap.size]? = some (.cells #[.int .i64 15, .string ⟨#[]⟩, .int .i64 0, .string ⟨#[]⟩, .slice none 0 0] 25 (0, 0)) := at_new rfl
  have hza := row_below (unhide HX2).2 hb3
  have HB5 := hide (bnext (unhide HX2).1 hb3)
  obtain ⟨w5, hw5⟩ : ∃ w5, w5 = w2.alloc (.cells #[.int .i64 15, .string ⟨#[]⟩, .int .i64 0, .string ⟨#[]⟩, .slice none 0 0] 25) := ⟨_, rfl⟩
  rw [← hw5] at hzf hza HB5 ⊢
  obtain ⟨za, hzz⟩ : ∃ za, za = w.heap.size := ⟨_, rfl⟩
  obtain ⟨zf, hzz2⟩ : ∃ zf, zf = w2.heap.size := ⟨_, rfl⟩
  rw [← hzz] at hza ⊢
  rw [← hzz2] at hzf ⊢
  have HZ := hide (And.intro hza hzf)
  clear hb3 hw5 hzz hzz2 HX2
  have hA : Below w5.heap.size w5 w5.drew := (Below.refl _ _).drew
  clear hza hzf
  go_region_held3 (fun w' => w'.cell? ⟨za, 0, none⟩ = some (.int .i64 a.k) ∧ w'.cell? ⟨za, 1, none⟩ = some (.string a.t) ∧ w'.cell? ⟨za, 2, none⟩ = some (.int .i64 a.n) ∧ w'.cell? ⟨za, 3, none⟩ = some (.string a.nm) ∧ w'.cell? ⟨za, 4, none⟩ = some (.slice a.xa a.len a.cap) ∧ w'.cell? ⟨zf, 0, none⟩ = some (.int .i64 15) ∧ w'.cell? ⟨zf, 1, none⟩ = some (.string ⟨#[]⟩) ∧ w'.cell? ⟨zf, 2, none⟩ = some (.int .i64 0) ∧ w'.cell? ⟨zf, 3, none⟩ = some (.string ⟨#[]⟩) ∧ w'.cell? ⟨zf, 4, none⟩ = some (.slice none 0 0))
    (first | exact join2 (held5 (unhide HZ).1 hA) (held5 (unhide HZ).2 hA) | exact join2 (held5 (unhide HZ).1 (hA.alloc hA.size _)) (held5 (unhide HZ).2 (hA.alloc hA.size _)))
    (first
      | (go_at_call 17; (with_reducible refine (lit_agg ⟨#[]⟩ _).mono ?_); rintro e w7 ⟨rfl, hb7⟩; have hA := bnext hA hb7; clear hb7)
      | (go_at_call 14; (with_reducible refine (cat_two (leaf 1 0 ⟨#[]⟩) a _ _ ?_ ?_ ?_).mono ?_); exact at_new rfl; exact (unhide HL).1 _; exact unhide HIN _ (bnext (unhide HB5) (hA.alloc hA.size _)); rintro e w7 ⟨rfl, hb7, hin⟩; have hA := bnext (hA.alloc hA.size _) hb7; clear hb7)
      | (go_at_call 14; (with_reducible refine (cat_two a (leaf 1 0 ⟨#[]⟩) _ _ ?_ ?_ ?_).mono ?_); exact at_new rfl; exact unhide HIN _ (bnext (unhide HB5) (hA.alloc hA.size _)); exact (unhide HL).1 _; rintro e w7 ⟨rfl, hb7, hin⟩; have hA := bnext (hA.alloc hA.size _) hb7; clear hb7)
      | (go_at_call 14; (with_reducible refine (cat_two (leaf 15 0 ⟨#[]⟩) a _ _ ?_ ?_ ?_).mono ?_); exact at_new rfl; exact (unhide HL).2 _; exact unhide HIN _ (bnext (unhide HB5) (hA.alloc hA.size _)); rintro e w7 ⟨rfl, hb7, hin⟩; have hA := bnext (hA.alloc hA.size _) hb7; clear hb7)
      | (go_at_call 15; (with_reducible refine (alt_two (leaf 15 0 ⟨#[]⟩) a _ _ ?_ ?_ ?_).mono ?_); exact at_new rfl; exact (unhide HL).2 _; exact unhide HIN _ (bnext (unhide HB5) (hA.alloc hA.size _)); rintro e w7 ⟨rfl, hb7, hin⟩; have hA := bnext (hA.alloc hA.size _) hb7; clear hb7)
      | (go_at_call 15; (with_reducible refine (alt_two a (leaf 15 0 ⟨#[]⟩) _ _ ?_ ?_ ?_).mono ?_); exact at_new rfl; exact unhide HIN _ (bnext (unhide HB5) (hA.alloc hA.size _)); exact (unhide HL).2 _; rintro e w7 ⟨rfl, hb7, hin⟩; have hA := bnext (hA.alloc hA.size _) hb7; clear hb7)
      | (go_at_call 13; (with_reducible refine (unhide Hk1 _ ?_ _ ?_).mono ?_); exact bnext (unhide HB5) hA; exact hin; rintro e w7 ⟨rfl, hb7⟩; have hA := bnext hA hb7; clear hb7 hin)
      | (go_at_call 13; (with_reducible refine (unhide Hk2 _ ?_ _ ?_).mono ?_); exact bnext (unhide HB5) hA; exact hin; rintro e w7 ⟨rfl, hb7⟩; have hA := bnext hA hb7; clear hb7 hin)
      | (go_at_call 13; (with_reducible refine (unhide Hk3 _ ?_ _ ?_).mono ?_); exact bnext (unhide HB5) hA; exact hin; rintro e w7 ⟨rfl, hb7⟩; have hA := bnext hA hb7; clear hb7 hin)
      | (go_at_call 13; (with_reducible refine (unhide Hk4 _ ?_ _ ?_).mono ?_); exact bnext (unhide HB5) hA; exact hin; rintro e w7 ⟨rfl, hb7⟩; have hA := bnext hA hb7; clear hb7 hin)
      | (go_at_call 13; (with_reducible refine (unhide Hk5 _ ?_ _ ?_).mono ?_); exact bnext (unhide HB5) hA; exact hin; rintro e w7 ⟨rfl, hb7⟩; have hA := bnext hA hb7; clear hb7 hin))
  go_wp2_with fail
  go_ret
  exact ⟨rfl, bnext (unhide HB5) hA⟩
end Go.Proofs.YteblcdgjjhodeaaDoor
