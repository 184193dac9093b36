/- What sets.appendByte does, for every slice that the caller made and every byte. -/
import Derived.Test.YtgamnhmkimonnaaChars
import Derived.Deep.RegionLaw
import Derived.Deep.RegionHeld3
import Derived.Deep.AppendLies
namespace Go.Proofs.Ytgamnhmkimonnaa
open Go.RowKit

/-- A digit by sixteens; a byte as it is written. -/
def hexDig (n : Nat) : UInt8 := if n < 10 then UInt8.ofNat (48 + n) else UInt8.ofNat (87 + n)
def sp (b : Nat) : List UInt8 := if plainN b then [UInt8.ofNat b] else [92, hexDig (b / 16), hexDig (b % 16)]
theorem cell_three_new (w : World) (a b c : Value) (t : TypeId) : ∀ j u, [a, b, c][j]? = some u → (w.alloc (.cells #[a, b, c] t)).cell? ((⟨w.heap.size, 0, none⟩ : Addr).add j) = some u := by
  intro j u hu
  have hadd : (⟨w.heap.size, 0, none⟩ : Addr).add j = ⟨w.heap.size, j, none⟩ := by unfold Addr.add; split <;> simp_all
  rw [hadd, cell_of_row _ _ j #[a, b, c] t (0, 0) (heap_alloc_last w _)]
  simpa using hu

set_option maxHeartbeats 1000000 in
theorem appendByte_plain (v : Value) (l : List UInt8) (b B : Nat) (hb : b < 256) (w : World) (hp : plainN b = true) (hl : l.length ≤ 100000) (ho : w.ownsRow B 5 1 v l.length (l.map bc)) (hB : B ≤ w.heap.size) :
    Calls Try.prog 40 #[v, .int .u8 (b : Int)] w fun e w' => ∃ v', e = .returned v' ∧ w'.ownsRow B 5 1 v' (l ++ sp b).length ((l ++ sp b).map bc) ∧ Below B w w' := by
  obtain ⟨i0, hi, hz0, hz1, hz2⟩ := info_parts info_byte
  have C := hide (fun W => stands_any b hb W)
  rw [hp] at C
  have HS := hide (show (l ++ sp b).map bc = l.map bc ++ [.int .u8 (b : Int)] ∧ (l ++ sp b).length = l.length + 1 by
    unfold sp
    rw [if_pos hp, List.map_append, List.length_append, ← bc_nat b hb]
    exact ⟨rfl, rfl⟩)
  generalize l.map bc = xs at *
  generalize l.length = n at *
  go_enter Try.func40, Try.ntmps40
  go_wp2_with (first
    | (go_at_call 44; refine (unhide C _).mono ?_; rintro e w ⟨rfl, rfl⟩)
    | (at_builtin; refine wpList_append_own _ rfl _ _ 45 rfl B 5 i0 (.int .u8 0) 1 1 Try.underlying45 hi hz0 hz1 hz2 rfl (by decide) _ _ _ rfl (ho.alloc _) ⟨w.heap.size, 0, none⟩ 1 1 [.int .u8 (b : Int)] rfl rfl (cell_one_new _ _ _) (by intro u hu; simp at hu; subst hu; rfl) (by unfold maxLen; omega) (by omega) (by simp; omega) ?_; intro v' w2 hown' hgrow _))
  have hb2 : Below B w w2 := ((Below.refl B w).alloc hB (.cells #[.int .u8 (b : Int)] 5)).grown hgrow (by simp; omega) (fun g hg => ((ho.alloc (.cells #[.int .u8 (b : Int)] 5)).lt g hg).1)
  go_ret
  exact ⟨v', rfl, by rw [(unhide HS).1, (unhide HS).2]; exact hown', hb2⟩

def digs : ByteArray := ⟨#[48, 49, 50, 51, 52, 53, 54, 55, 56, 57, 97, 98, 99, 100, 101, 102]⟩
theorem digs_at : ∀ k : Fin 16, digs[k.val]? = some (hexDig k.val) := by decide
theorem run_index_digs (w : World) (kd : IntKind) (k : Nat) (hk : k < 16) : (Instr.index 9 (.string digs) (.int kd (k : Int))).run Try.prog w = .ok (bc (hexDig k)) w := by
  have h0 : (0 : Int) ≤ (k : Int) := by omega
  have h1 := digs_at ⟨k, hk⟩
  simp only at h1
  simp [Instr.index, asIntOf, run_underlying Try.underlying9, h0, h1, bc]

theorem and15 : ∀ b : Fin 256, bits BinOp.and IntKind.u8 (b.val : Int) 15 = ((b.val % 16 : Nat) : Int) := by decide +kernel
theorem and15' (b : Nat) (hb : b < 256) : bits BinOp.and IntKind.u8 (b : Int) 15 = ((b % 16 : Nat) : Int) := and15 ⟨b, hb⟩

set_option maxHeartbeats 1000000 in
theorem appendByte_hex (v : Value) (l : List UInt8) (b B : Nat) (hb : b < 256) (w : World) (hp : plainN b = false) (hl : l.length ≤ 100000) (ho : w.ownsRow B 5 1 v l.length (l.map bc)) (hB : B ≤ w.heap.size) :
    Calls Try.prog 40 #[v, .int .u8 (b : Int)] w fun e w' => ∃ v', e = .returned v' ∧ w'.ownsRow B 5 1 v' (l ++ sp b).length ((l ++ sp b).map bc) ∧ Below B w w' := by
  obtain ⟨i0, hi, hz0, hz1, hz2⟩ := info_parts info_byte
  have C := hide (fun W => stands_any b hb W)
  rw [hp] at C
  have HS := hide (show (l ++ sp b).map bc = l.map bc ++ [.int .u8 92, bc (hexDig (b / 16)), bc (hexDig (b % 16))] ∧ (l ++ sp b).length = l.length + 3 by
    unfold sp
    rw [hp, if_neg (by decide), List.map_append, List.length_append]
    exact ⟨rfl, rfl⟩)
  have q1 := fun W => run_index_digs W .u8 (b / 16) (by omega)
  have q2 := fun W => run_index_digs W .u8 (b % 16) (by omega)
  rw [show (((b / 16 : Nat)) : Int) = (b : Int) / 16 by omega] at q1
  rw [← and15' b hb] at q2
  unfold digs bc at q1 q2
  generalize l.map bc = xs at *
  generalize l.length = n at *
  go_enter Try.func40, Try.ntmps40
  go_wp2_with (first
    | (go_at_call 44; refine (unhide C _).mono ?_; rintro e w ⟨rfl, rfl⟩))
  go_region_held3 (fun _ => True) (trivial)
    ((refine step_append_lies _ (by rfl) _ _ _ (by rfl) B 5 i0 (.int .u8 0) 1 1 Try.underlying45 hi hz0 hz1 hz2 rfl (by omega) v n xs (by rfl) ((ho.alloc _).drew)
        ⟨w.heap.size, 0, none⟩ 3 3 [.int .u8 92, .int .u8 ((hexDig (b / 16)).toNat : Int), .int .u8 ((hexDig (b % 16)).toNat : Int)] (by rfl) (by rfl) (cell_three_new _ _ _ _ _) (by simp [Value.oneCell'])
        (by omega) (by unfold maxLen; omega) (by omega) (by simp; omega) (w.heap.size + 1) (by simp) ?_; intro gg cap w2 hown' hgrow hat hlt))
  all_goals go_wp2
  all_goals go_ret
  all_goals exact ⟨_, rfl, by rw [(unhide HS).1, (unhide HS).2]; exact hown', ((((Below.refl B w).alloc hB _).drew).grown hgrow (by simp; omega) (fun g hg => ((ho.alloc (.cells #[.int .u8 92, .int .u8 ((hexDig (b / 16)).toNat : Int), .int .u8 ((hexDig (b % 16)).toNat : Int)] 5)).lt g hg).1))⟩

theorem appendByte_any (v : Value) (l : List UInt8) (b B : Nat) (hb : b < 256) (w : World) (hl : l.length ≤ 100000) (ho : w.ownsRow B 5 1 v l.length (l.map bc)) (hB : B ≤ w.heap.size) :
    Calls Try.prog 40 #[v, .int .u8 (b : Int)] w fun e w' => ∃ v', e = .returned v' ∧ w'.ownsRow B 5 1 v' (l ++ sp b).length ((l ++ sp b).map bc) ∧ Below B w w' := by
  cases hp : plainN b with
  | true => exact appendByte_plain v l b B hb w hp hl ho hB
  | false => exact appendByte_hex v l b B hb w hp hl ho hB
theorem sp_len (b : Nat) : (sp b).length ≤ 3 := by
  unfold sp
  split <;> simp
/-- A run as it is written. -/
def runT (a z : Nat) : List UInt8 := sp a ++ ((if 1 < z - a then [45] else []) ++ (if z ≠ a then sp z else []))
theorem runT_len (a z : Nat) : (runT a z).length ≤ 7 := by
  have h1 := sp_len a
  have h2 := sp_len z
  unfold runT
  rw [List.length_append, List.length_append]
  have h3 : (if 1 < z - a then ([45] : List UInt8) else []).length ≤ 1 := by split <;> simp
  have h4 : (if z ≠ a then sp z else []).length ≤ 3 := by
    split
    · exact h2
    · simp
  omega

set_option maxHeartbeats 1000000 in
theorem appendRun_any (v : Value) (l : List UInt8) (a z B : Nat) (haz : a ≤ z) (hz : z < 256) (w : World) (hl : l.length ≤ 90000) (ho : w.ownsRow B 5 1 v l.length (l.map bc)) (hB : B ≤ w.heap.size) :
    Calls Try.prog 35 #[v, .int .u8 (a : Int), .int .u8 (z : Int)] w fun e w' => ∃ v', e = .returned v' ∧ w'.ownsRow B 5 1 v' (l ++ runT a z).length ((l ++ runT a z).map bc) ∧ Below B w w' := by
  obtain ⟨i0, hi, hz0, hz1, hz2⟩ := info_parts info_byte
  have C1 := hide (appendByte_any v l a B (by omega) w (by omega) ho hB)
  have s1 := sp_len a
  have hl1 : (l ++ sp a).length ≤ 90003 := by rw [List.length_append]; omega
  obtain ⟨l1, e1⟩ : ∃ l1, l1 = l ++ sp a := ⟨_, rfl⟩
  rw [← e1] at C1 hl1
  by_cases h0 : z = a
  · have HS := hide (show l ++ runT a z = l1 by unfold runT; rw [if_neg (by omega), if_neg (by omega), e1]; simp)
    have h2 : ((z : Int) != (a : Int)) = false := by rw [bne_eq_false_iff_eq]; omega
    have h3 : (z : Int) - (a : Int) = 0 := by omega
    rw [unhide HS]
    go_enter Try.func35, Try.ntmps35
    go_wp2_with fail
    refine (unhide C1).mono ?_
    rintro e w1 ⟨v1, rfl, ho1, hb1⟩
    go_wp2
    go_ret
    exact ⟨v1, rfl, ho1, hb1⟩
  · have h2 : ((z : Int) != (a : Int)) = true := by rw [bne_iff_ne]; omega
    have h4 : (a : Int) ≤ (z : Int) := by omega
    by_cases h1 : 1 < z - a
    · have HS := hide (show l ++ runT a z = (l1 ++ [45]) ++ sp z by unfold runT; rw [if_pos h1, if_pos h0, e1]; simp)
      have h3 : (1 : Int) < (z : Int) - (a : Int) := by omega
      rw [unhide HS]
      clear HS
      have HL := hide (show (l1 ++ [45]).map bc = l1.map bc ++ [.int .u8 45] ∧ (l1 ++ [45]).length = l1.length + 1 by
        rw [List.map_append, List.length_append]; exact ⟨rfl, rfl⟩)
      go_enter Try.func35, Try.ntmps35
      go_wp2_with fail
      refine (unhide C1).mono ?_
      rintro e w1 ⟨v1, rfl, ho1, hb1⟩
      have hs1 : B ≤ w1.heap.size := by have := hb1.size; omega
      go_wp2_with (first
        | (at_builtin; refine wpList_append_own _ rfl _ _ 45 rfl B 5 i0 (.int .u8 0) 1 1 Try.underlying45 hi hz0 hz1 hz2 rfl (by decide) _ _ _ rfl (ho1.alloc _) ⟨w1.heap.size, 0, none⟩ 1 1 [.int .u8 45] rfl rfl (cell_one_new _ _ _) (by intro u hu; simp at hu; subst hu; rfl) (by unfold maxLen; omega) (by omega) (by simp; omega) ?_; intro v2 w2 hown' hgrow _)
        | fail)
      rw [← (unhide HL).1, ← (unhide HL).2] at hown'
      have hb2 : Below B w1 w2 := ((Below.refl B w1).alloc hs1 (.cells #[.int .u8 45] 5)).grown hgrow (by simp; omega) (fun g hg => ((ho1.alloc (.cells #[.int .u8 45] 5)).lt g hg).1)
      have hs2 : B ≤ w2.heap.size := by have := hb2.size; omega
      refine (appendByte_any v2 (l1 ++ [45]) z B hz w2 (by rw [List.length_append]; simp; omega) hown' hs2).mono ?_
      rintro e w3 ⟨v3, rfl, ho3, hb3⟩
      go_wp2
      go_ret
      exact ⟨v3, rfl, ho3, (hb1.trans hb2).trans hb3⟩
    · have HS := hide (show l ++ runT a z = l1 ++ sp z by unfold runT; rw [if_neg h1, if_pos h0, e1]; simp)
      have h3 : (z : Int) - (a : Int) = 1 := by omega
      rw [unhide HS]
      clear HS
      go_enter Try.func35, Try.ntmps35
      go_wp2_with fail
      refine (unhide C1).mono ?_
      rintro e w1 ⟨v1, rfl, ho1, hb1⟩
      have hs1 : B ≤ w1.heap.size := by have := hb1.size; omega
      go_wp2_with fail
      refine (appendByte_any v1 l1 z B hz w1 (by omega) ho1 hs1).mono ?_
      rintro e w3 ⟨v3, rfl, ho3, hb3⟩
      go_wp2
      go_ret
      exact ⟨v3, rfl, ho3, hb1.trans hb3⟩
end Go.Proofs.Ytgamnhmkimonnaa
