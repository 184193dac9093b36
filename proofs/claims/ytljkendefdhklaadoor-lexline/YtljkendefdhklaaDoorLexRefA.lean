/- The document's own reading of quotes. -/
import Derived.Test.YtljkendefdhklaaDoorLexLine
namespace Go.Proofs.YtljkendefdhklaaDoor
open Go.RowKit

set_option maxHeartbeats 400000 in
theorem refWord_any (b : Nat) (_hb : b < 256) (w : World) :
    Calls Tryd.prog 15 #[.int .u8 (b : Int)] w fun e w' => e = .returned (.bool (letterN b)) ∧ w' = w := by
  have hc : (65 ≤ b ∧ b ≤ 90) ∨ b < 65 ∨ (65 ≤ b ∧ 90 < b) := by omega
  rcases hc with ⟨h1, h2⟩ | h | ⟨h1, h2⟩
  · rw [show letterN b = true from decide_eq_true (by omega)]
    go_enter Tryd.func15, Tryd.ntmps15
    go_wp2
    go_ret
    exact ⟨ret_bool (by simp; omega), rfl⟩
  · rw [show letterN b = false from decide_eq_false (by omega)]
    go_enter Tryd.func15, Tryd.ntmps15
    go_wp2
    go_ret
    exact ⟨rfl, rfl⟩
  · rw [show letterN b = false from decide_eq_false (by omega)]
    go_enter Tryd.func15, Tryd.ntmps15
    go_wp2
    go_ret
    exact ⟨ret_bool (by simp; omega), rfl⟩

set_option maxHeartbeats 400000 in
theorem refDigit_any (b : Nat) (_hb : b < 256) (w : World) :
    Calls Tryd.prog 16 #[.int .u8 (b : Int)] w fun e w' => e = .returned (.bool (digitN b)) ∧ w' = w := by
  have hc : (48 ≤ b ∧ b ≤ 57) ∨ b < 48 ∨ (48 ≤ b ∧ 57 < b) := by omega
  rcases hc with ⟨h1, h2⟩ | h | ⟨h1, h2⟩
  · rw [show digitN b = true from decide_eq_true (by omega)]
    go_enter Tryd.func16, Tryd.ntmps16
    go_wp2
    go_ret
    exact ⟨ret_bool (by simp; omega), rfl⟩
  · rw [show digitN b = false from decide_eq_false (by omega)]
    go_enter Tryd.func16, Tryd.ntmps16
    go_wp2
    go_ret
    exact ⟨rfl, rfl⟩
  · rw [show digitN b = false from decide_eq_false (by omega)]
    go_enter Tryd.func16, Tryd.ntmps16
    go_wp2
    go_ret
    exact ⟨ret_bool (by simp; omega), rfl⟩

/-- A byte as a cell, alone in its entry. -/
def byV (b : UInt8) : List Value := [.int .u8 (b.toNat : Int)]
theorem byV_len (b : UInt8) : (byV b).length = 1 := rfl
theorem byV_one (b : UInt8) : ∀ u ∈ byV b, u.oneCell' = true := by
  intro u hu
  simp only [byV, List.mem_cons, List.not_mem_nil, or_false] at hu
  subst hu; rfl
theorem info_byte : (Tryd.prog.info? 5).map (fun i => (i.zero, i.size, i.bytes)) = some (some (.int .u8 0), 1, 1) := by kernel_rfl
theorem flat_byte : ∀ l : List UInt8, flat byV l = l.map fun b => .int .u8 (b.toNat : Int)
  | [] => rfl
  | b :: l => by show byV b ++ flat byV l = _; rw [flat_byte l]; rfl
theorem out_row (v : Value) (l : List UInt8) (B : Nat) (wr : World) (ho : Row wr B 5 1 byV v l) :
    (convert 42 9 v).run Tryd.prog wr = .ok (.string ⟨l.toArray⟩) wr := by
  unfold Row at ho
  rw [flat_byte] at ho
  rcases ho.2 with ⟨rfl, h0⟩ | ⟨g, cap, cur, rfl, _, _, _, _, _, _⟩
  · have : l = [] := List.eq_nil_of_length_eq_zero h0
    subst this
    exact run_convert_bytes_nil (P := Tryd.prog) wr 42 5 Tryd.underlying42 Tryd.underlying5 0 0 9 Tryd.underlying9
  · exact run_convert_bytes_back (P := Tryd.prog) wr 42 9 5 ⟨g, 0, none⟩ cap l Tryd.underlying42 Tryd.underlying5 Tryd.underlying9 (fun j hj => ho.cells rfl j _ (by simp only [List.getElem?_map, List.getElem?_eq_getElem hj, Option.map_some]))
theorem byte_cell {w : World} {b : UInt8} : ∀ k u, (byV b)[k]? = some u → (w.alloc (.cells #[.int .u8 (b.toNat : Int)] 5)).cell? ⟨w.heap.size, k, none⟩ = some u := by
  intro k u h
  rw [cell_of_row _ _ _ _ _ _ (at_new rfl)]
  exact (show (byV b).toArray[k]? = some u by rw [List.getElem?_toArray]; exact h)
theorem rowB_alloc {w : World} {B : Nat} {v : Value} {l : List UInt8} (h : Row w B 5 1 byV v l) (o : Obj) : Row (w.alloc o) B 5 1 byV v l := h.later ((Below.refl _ _).alloc (Nat.le_refl _) _)
theorem below_drewN' {B : Nat} {w w' : World} (h : Below B w w') : ∀ n, Below B w (w'.drewN n)
  | 0 => h
  | n + 1 => (below_drewN' h n).drew
theorem get_list (s : ByteArray) (k : Nat) (h : k < s.size) : s[k] = s.data.toList.getD k 0 := by
  have : k < s.data.toList.length := by simpa using h
  rw [List.getD, List.getElem?_eq_getElem this]; rfl

/-- What the document's Text says. -/
def TextPost (s : ByteArray) (i : Nat) (w : World) (e : Ending) (w' : World) : Prop := e = .returned (if cq s (i + 1) = s.size then .tuple #[.int .i64 (s.size : Int), .string ByteArray.empty, .bool false] else .tuple #[.int .i64 ((cq s (i + 1) + 1 : Nat) : Int), .string ⟨(ct s (i + 1)).toArray⟩, .bool true]) ∧ Below w.heap.size w w'
theorem text_yes {s : ByteArray} {i k : Nat} {l : List UInt8} {w w' : World} (h : cq s (i + 1) = k) (hk : ¬ k = s.size) (hc : ct s (i + 1) = l) (hb : Below w.heap.size w w') : TextPost s i w (.returned (.tuple #[.int .i64 ((k : Int) + 1), .string ⟨l.toArray⟩, .bool true])) w' := ⟨by rw [h, if_neg hk, hc]; rfl, hb⟩
theorem text_no {s : ByteArray} {i : Nat} {w w' : World} (h : cq s (i + 1) = s.size) (hb : Below w.heap.size w w') : TextPost s i w (.returned (.tuple #[.int .i64 (s.size : Int), .string ⟨#[]⟩, .bool false])) w' := ⟨by rw [h, if_pos rfl]; rfl, hb⟩

set_option maxRecDepth 10000 in
set_option maxHeartbeats 800000 in
theorem refText_any (s : ByteArray) (i : Nat) (hs : s.size ≤ 2000) (hi : i < s.size) (w : World) :
    Calls Tryd.prog 17 #[.string s, .int .i64 (i : Int)] w fun e w' => TextPost s i w e w' := by
  have HI := hide info_byte
  go_enter Tryd.func17, Tryd.ntmps17
  go_wp2_with fail
  go_loopw [7, 8] (fun v x wr => ∃ (k : Nat) (l : List UInt8), k ≤ s.size ∧ l.length ≤ k ∧ x = .int .i64 (k : Int) ∧ Hid (Row wr w.heap.size 5 1 byV v l) ∧ Hid (Below w.heap.size w wr) ∧ Hid (cq s (i + 1) = cq s k) ∧ Hid (ct s (i + 1) = l ++ ct s k)) (fun _ x _ => s.size - (intOf x).toNat)
  case atStart => exact ⟨i + 1, [], by omega, Nat.zero_le _, rfl, World.ownsRow_nil _ _ _ 1, Below.refl _ _, rfl, rfl⟩
  case round =>
    obtain ⟨k, l, hk, hl, rfl, HR, HB, HQ, HC⟩ := hrel
    rcases Nat.lt_or_ge k s.size with hlt | hge
    · have g1 : (k : Int) < (s.size : Int) := by omega
      have bk := bat_at s k hlt
      have hx : ((s[k]).toNat : Int) = (bat s k : Int) := by rw [bk]
      have HG := hide (get_list s k hlt)
      have HS := hide (show w.heap.size ≤ wr.heap.size from (unhide HB).size)
      by_cases h39 : bat s k = 39
      · have e39 : (((s[k]).toNat : Int) == 39) = true := by rw [hx, h39]; rfl
        by_cases hc : bat s (k + 1) = 39
        · have hin := bat_in (s := s) (i := k + 1) (by omega)
          have g2 : (k : Int) + 1 < (s.size : Int) := by omega
          have g3 : k + 1 < s.size := hin
          have b2 : (((s[k + 1]).toNat : Int) == 39) = true := by rw [show ((s[k + 1]).toNat : Int) = (bat s (k + 1) : Int) by rw [bat_at s (k + 1) hin], hc]; rfl
          have HQ2 := hide ((unhide HQ).trans (cq_two h39 hc))
          have HC2 := hide (show ct s (i + 1) = (l ++ [39]) ++ ct s (k + 2) by rw [unhide HC, ct_two h39 hc]; simp)
          clear h39 hc bk hx
          go_wp2_with (at_builtin; refine wpList_row Tryd.underlying42 (unhide HI) rfl (by decide) (by decide) byV_len byV_one rfl _ _ rfl (rowB_alloc (unhide HR) _) (by rw [World.size_alloc]; exact Nat.le_succ_of_le (unhide HS)) 39 wr.heap.size 1 rfl rfl (by exact byte_cell) (by omega) ?_; intro v' w2 hrow hgrow _)
          exact ⟨⟨k + 2, l ++ [39], by omega, by simp; omega, congrArg (Value.int .i64) (by omega), hide hrow, below_grown (bel_alloc (unhide HB) (unhide HS)) (rowB_alloc (unhide HR) _) (Nat.le_refl _) hgrow, HQ2, HC2⟩, by simp [intOf]; omega⟩
        · have HQ2 := hide ((unhide HQ).trans (cq_here h39 hc))
          have HC2 := hide (show ct s (i + 1) = l by rw [unhide HC, ct_here h39 hc]; simp)
          have hcv := fun n => out_row _ _ _ (wr.drewN n) ((unhide HR).later (below_drewN' (Below.refl _ _) n))
          have HE := hide (show ¬ k = s.size by omega)
          by_cases hin : k + 1 < s.size
          · have g2 : (k : Int) + 1 < (s.size : Int) := by omega
            have b2 : (((s[k + 1]).toNat : Int) == 39) = false := by rw [show ((s[k + 1]).toNat : Int) = (bat s (k + 1) : Int) by rw [bat_at s (k + 1) hin], beq_eq_false_iff_ne]; omega
            clear h39 hc bk hx
            go_wp2_with fail
            go_quiet (fail)
            go_wp2_with fail
            go_ret3
            exact text_yes (unhide HQ2) (unhide HE) (unhide HC2) (below_drewN' (unhide HB) _)
          · have g2 : ¬ (k : Int) + 1 < (s.size : Int) := by omega
            clear h39 hc bk hx
            go_wp2_with fail
            go_quiet (fail)
            go_wp2_with fail
            go_ret3
            exact text_yes (unhide HQ2) (unhide HE) (unhide HC2) (below_drewN' (unhide HB) _)
      · have e39 : (((s[k]).toNat : Int) == 39) = false := by rw [hx, beq_eq_false_iff_ne]; omega
        have HQ2 := hide ((unhide HQ).trans (cq_plain hlt h39))
        have HC2 := hide (show ct s (i + 1) = (l ++ [s[k]]) ++ ct s (k + 1) by rw [unhide HC, ct_plain hlt h39, unhide HG]; simp)
        clear h39 bk hx
        go_wp2_with (at_builtin; refine wpList_row Tryd.underlying42 (unhide HI) rfl (by decide) (by decide) byV_len byV_one rfl _ _ rfl (rowB_alloc (unhide HR) _) (by rw [World.size_alloc]; exact Nat.le_succ_of_le (unhide HS)) s[k] wr.heap.size 1 rfl rfl (by exact byte_cell) (by omega) ?_; intro v' w2 hrow hgrow _)
        exact ⟨⟨k + 1, l ++ [s[k]], by omega, by simp; omega, rfl, hide hrow, below_grown (bel_alloc (unhide HB) (unhide HS)) (rowB_alloc (unhide HR) _) (Nat.le_refl _) hgrow, HQ2, HC2⟩, by simp [intOf]; omega⟩
    · obtain rfl : k = s.size := by omega
      have HQ2 := hide ((unhide HQ).trans (cq_end (Nat.le_refl _)))
      go_wp2_with fail
      go_ret3
      exact text_no (unhide HQ2) (unhide HB)
end Go.Proofs.YtljkendefdhklaaDoor
