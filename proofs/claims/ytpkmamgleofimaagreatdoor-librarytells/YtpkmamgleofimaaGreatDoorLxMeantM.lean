/- What strings.ReplaceAll answers, laid from the library. What a token means. -/
import Derived.Below
import Derived.Shelf.LaysM
import Derived.Shelf.Strings.Replace
import Derived.Shelf.Strings.SplitShaped
import Derived.Test.YtpkmamgleofimaaGreatDoorProg
import Derived.Test.YtpkmamgleofimaaGreatDoorLxMeantPM
import Derived.Test.YtpkmamgleofimaaGreatDoorLexLibM
namespace Go.Proofs
open Go.Shelf Go.RowKit Go.Lib
def Tryz.lays155_ren : Go.Shelf.Ren := ⟨fun | 155 => 61 | 154 => 89 | 138 => 51 | 165 => 107 | 143 => 52 | 166 => 108 | 197 => 85 | 169 => 109 | 195 => 84 | 218 => 86 | 240 => 118 | 241 => 119 | 219 => 87 | 260 => 102 | 276 => 125 | 277 => 126 | 217 => 88 | 225 => 103 | 224 => 104 | 267 => 105 | 266 => 106 | 314 => 117 | n => n, fun | 9 => 9 | 3 => 3 | 4 => 4 | 72 => 137 | 0 => 0 | 76 => 141 | 105 => 119 | 21 => 21 | 5 => 5 | 70 => 134 | 20 => 20 | 37 => 135 | 75 => 140 | 127 => 143 | 164 => 161 | 46 => 133 | 119 => 148 | 139 => 151 | 138 => 150 | 146 => 153 | 51 => 152 | 80 => 82 | n => n, fun | 1 => 1 | 3 => 2 | 4 => 3 | n => n⟩
theorem Tryz.lays155 : Go.Proofs.Lays.n155 Tryz.prog Tryz.lays155_ren := {
  mixed := by kernel_rfl
  f138 := Tryz.func51.trans (congrArg some (by kernel_rfl))
  f143 := Tryz.func52.trans (congrArg some (by kernel_rfl))
  f154 := Tryz.func89.trans (congrArg some (by kernel_rfl))
  f155 := Tryz.func61.trans (congrArg some (by kernel_rfl))
  f165 := Tryz.func107.trans (congrArg some (by kernel_rfl))
  f166 := Tryz.func108.trans (congrArg some (by kernel_rfl))
  f169 := Tryz.func109.trans (congrArg some (by kernel_rfl))
  f195 := Tryz.func84.trans (congrArg some (by kernel_rfl))
  f197 := Tryz.func85.trans (congrArg some (by kernel_rfl))
  f217 := Tryz.func88.trans (congrArg some (by kernel_rfl))
  f218 := Tryz.func86.trans (congrArg some (by kernel_rfl))
  f219 := Tryz.func87.trans (congrArg some (by kernel_rfl))
  f224 := Tryz.func104.trans (congrArg some (by kernel_rfl))
  f225 := Tryz.func103.trans (congrArg some (by kernel_rfl))
  f240 := Tryz.func118.trans (congrArg some (by kernel_rfl))
  f241 := Tryz.func119.trans (congrArg some (by kernel_rfl))
  f260 := Tryz.func102.trans (congrArg some (by kernel_rfl))
  f266 := Tryz.func106.trans (congrArg some (by kernel_rfl))
  f267 := Tryz.func105.trans (congrArg some (by kernel_rfl))
  f276 := Tryz.func125.trans (congrArg some (by kernel_rfl))
  f277 := Tryz.func126.trans (congrArg some (by kernel_rfl))
  f314 := Tryz.func117.trans (congrArg some (by kernel_rfl))
  t0 := Tryz.underlying0
  a0 := Tryz.isAgg0
  z0 := Tryz.sizeOf0
  v0 := Tryz.zeroValue0
  t3 := Tryz.underlying3
  a3 := Tryz.isAgg3
  z3 := Tryz.sizeOf3
  v3 := Tryz.zeroValue3
  t4 := Tryz.underlying4
  a4 := Tryz.isAgg4
  z4 := Tryz.sizeOf4
  v4 := Tryz.zeroValue4
  t5 := Tryz.underlying5
  a5 := Tryz.isAgg5
  z5 := Tryz.sizeOf5
  v5 := Tryz.zeroValue5
  t9 := Tryz.underlying9
  a9 := Tryz.isAgg9
  z9 := Tryz.sizeOf9
  v9 := Tryz.zeroValue9
  t20 := Tryz.underlying20
  a20 := Tryz.isAgg20
  z20 := Tryz.sizeOf20
  v20 := Tryz.zeroValue20
  t21 := Tryz.underlying21
  a21 := Tryz.isAgg21
  z21 := Tryz.sizeOf21
  v21 := Tryz.zeroValue21
  t37 := Tryz.underlying135
  a37 := Tryz.isAgg135
  z37 := Tryz.sizeOf135
  v37 := Tryz.zeroValue135
  t46 := Tryz.underlying133
  a46 := Tryz.isAgg133
  z46 := Tryz.sizeOf133
  v46 := Tryz.zeroValue133
  t51 := Tryz.underlying152
  a51 := Tryz.isAgg152
  z51 := Tryz.sizeOf152
  v51 := Tryz.zeroValue152
  t70 := Tryz.underlying134
  a70 := Tryz.isAgg134
  z70 := Tryz.sizeOf134
  v70 := Tryz.zeroValue134
  t72 := Tryz.underlying137
  a72 := Tryz.isAgg137
  z72 := Tryz.sizeOf137
  v72 := Tryz.zeroValue137
  t75 := Tryz.underlying140
  a75 := Tryz.isAgg140
  z75 := Tryz.sizeOf140
  v75 := Tryz.zeroValue140
  t76 := Tryz.underlying141
  a76 := Tryz.isAgg141
  z76 := Tryz.sizeOf141
  v76 := Tryz.zeroValue141
  t105 := Tryz.underlying119
  a105 := Tryz.isAgg119
  z105 := Tryz.sizeOf119
  v105 := Tryz.zeroValue119
  t119 := Tryz.underlying148
  a119 := Tryz.isAgg148
  z119 := Tryz.sizeOf148
  t127 := Tryz.underlying143
  a127 := Tryz.isAgg143
  z127 := Tryz.sizeOf143
  v127 := Tryz.zeroValue143
  t138 := Tryz.underlying150
  a138 := Tryz.isAgg150
  z138 := Tryz.sizeOf150
  v138 := Tryz.zeroValue150
  t139 := Tryz.underlying151
  a139 := Tryz.isAgg151
  z139 := Tryz.sizeOf151
  v139 := Tryz.zeroValue151
  t146 := Tryz.underlying153
  a146 := Tryz.isAgg153
  z146 := Tryz.sizeOf153
  v146 := Tryz.zeroValue153
  t164 := Tryz.underlying161
  a164 := Tryz.isAgg161
  z164 := Tryz.sizeOf161
  v164 := Tryz.zeroValue161
  g1 := by kernel_rfl
  g3 := by kernel_rfl
  g4 := by kernel_rfl }
theorem Tryz.Builder_Extra_155 : Builder.Extra Tryz.prog Tryz.lays155_ren := {
  sizeBuilder := by kernel_rfl
  liesBuilder := by kernel_rfl
  t5 := Tryz.underlying5
  a5 := Tryz.isAgg5
  z5 := Tryz.sizeOf5
  v5 := Tryz.zeroValue5
  infoByte := by kernel_rfl
  cellsByte := by kernel_rfl
  sizeByte := by kernel_rfl
  neB5 := by decide }
theorem Tryz.strings_ReplaceAll (s old new : ByteArray) (m : Int) (w : World) (hs : s.size < 4294967281) (hm : w.cell? ⟨1, 0, none⟩ = some (.int .i64 m)) (h1 : 1 ≤ old.size) (hlen : s.size + Lib.countB s old * new.size ≤ 140737488355328) :
    Calls Tryz.prog 61 #[.string s, .string old, .string new] w fun e w' =>
      e = .returned (.string ⟨(Lib.replaceAll s.data.toList old.data.toList new.data.toList).toArray⟩) ∧ Below w.heap.size w w' := Any.strings_ReplaceAll Tryz.lays155 Tryz.Builder_Extra_155 s old new m w hs hm h1 hlen
def Tryz.laysM155_ren : Go.Shelf.Ren := ⟨fun | 155 => 61 | 154 => 89 | 138 => 51 | 165 => 107 | 143 => 52 | 166 => 108 | 197 => 85 | 169 => 109 | 195 => 84 | 218 => 86 | 240 => 118 | 241 => 119 | 219 => 87 | 260 => 102 | 276 => 125 | 277 => 126 | 217 => 88 | 225 => 103 | 224 => 104 | 267 => 105 | 266 => 106 | 314 => 117 | n => n, fun | 9 => 9 | 3 => 3 | 4 => 4 | 72 => 137 | 0 => 0 | 76 => 141 | 105 => 119 | 21 => 21 | 5 => 5 | 70 => 134 | 20 => 20 | 37 => 135 | 75 => 140 | 127 => 143 | 164 => 161 | 46 => 133 | 119 => 148 | 139 => 151 | 138 => 150 | 146 => 153 | 51 => 152 | 80 => 82 | n => n, fun | 1 => 1 | 3 => 2 | 4 => 3 | n => n⟩
theorem Tryz.laysM155 : Go.Proofs.LaysM.n155 Tryz.prog Tryz.laysM155_ren := {
  mixed := by kernel_rfl
  f138 := Tryz.func51.trans (congrArg some (by kernel_rfl))
  f143 := Tryz.func52.trans (congrArg some (by kernel_rfl))
  f154 := Tryz.func89.trans (congrArg some (by kernel_rfl))
  f155 := Tryz.func61.trans (congrArg some (by kernel_rfl))
  f165 := Tryz.func107.trans (congrArg some (by kernel_rfl))
  f166 := Tryz.func108.trans (congrArg some (by kernel_rfl))
  f169 := Tryz.func109.trans (congrArg some (by kernel_rfl))
  f195 := Tryz.func84.trans (congrArg some (by kernel_rfl))
  f197 := Tryz.func85.trans (congrArg some (by kernel_rfl))
  f217 := Tryz.func88.trans (congrArg some (by kernel_rfl))
  f218 := Tryz.func86.trans (congrArg some (by kernel_rfl))
  f219 := Tryz.func87.trans (congrArg some (by kernel_rfl))
  f224 := Tryz.func104.trans (congrArg some (by kernel_rfl))
  f225 := Tryz.func103.trans (congrArg some (by kernel_rfl))
  f240 := Tryz.func118.trans (congrArg some (by kernel_rfl))
  f241 := Tryz.func119.trans (congrArg some (by kernel_rfl))
  f260 := Tryz.func102.trans (congrArg some (by kernel_rfl))
  f266 := Tryz.func106.trans (congrArg some (by kernel_rfl))
  f267 := Tryz.func105.trans (congrArg some (by kernel_rfl))
  f276 := Tryz.func125.trans (congrArg some (by kernel_rfl))
  f277 := Tryz.func126.trans (congrArg some (by kernel_rfl))
  f314 := Tryz.func117.trans (congrArg some (by kernel_rfl))
  t0 := Tryz.underlying0
  a0 := Tryz.isAgg0
  z0 := Tryz.sizeOf0
  v0 := Tryz.zeroValue0
  t3 := Tryz.underlying3
  a3 := Tryz.isAgg3
  z3 := Tryz.sizeOf3
  v3 := Tryz.zeroValue3
  t4 := Tryz.underlying4
  a4 := Tryz.isAgg4
  z4 := Tryz.sizeOf4
  v4 := Tryz.zeroValue4
  t5 := Tryz.underlying5
  a5 := Tryz.isAgg5
  z5 := Tryz.sizeOf5
  v5 := Tryz.zeroValue5
  t9 := Tryz.underlying9
  a9 := Tryz.isAgg9
  z9 := Tryz.sizeOf9
  v9 := Tryz.zeroValue9
  t20 := Tryz.underlying20
  a20 := Tryz.isAgg20
  z20 := Tryz.sizeOf20
  v20 := Tryz.zeroValue20
  t21 := Tryz.underlying21
  a21 := Tryz.isAgg21
  z21 := Tryz.sizeOf21
  v21 := Tryz.zeroValue21
  t37 := Tryz.underlying135
  a37 := Tryz.isAgg135
  z37 := Tryz.sizeOf135
  v37 := Tryz.zeroValue135
  t46 := Tryz.underlying133
  a46 := Tryz.isAgg133
  z46 := Tryz.sizeOf133
  v46 := Tryz.zeroValue133
  t51 := Tryz.underlying152
  a51 := Tryz.isAgg152
  z51 := Tryz.sizeOf152
  v51 := Tryz.zeroValue152
  t70 := Tryz.underlying134
  a70 := Tryz.isAgg134
  z70 := Tryz.sizeOf134
  v70 := Tryz.zeroValue134
  t72 := Tryz.underlying137
  a72 := Tryz.isAgg137
  z72 := Tryz.sizeOf137
  v72 := Tryz.zeroValue137
  t75 := Tryz.underlying140
  a75 := Tryz.isAgg140
  z75 := Tryz.sizeOf140
  v75 := Tryz.zeroValue140
  t76 := Tryz.underlying141
  a76 := Tryz.isAgg141
  z76 := Tryz.sizeOf141
  v76 := Tryz.zeroValue141
  t105 := Tryz.underlying119
  a105 := Tryz.isAgg119
  z105 := Tryz.sizeOf119
  v105 := Tryz.zeroValue119
  t119 := Tryz.underlying148
  a119 := Tryz.isAgg148
  z119 := Tryz.sizeOf148
  t127 := Tryz.underlying143
  a127 := Tryz.isAgg143
  z127 := Tryz.sizeOf143
  v127 := Tryz.zeroValue143
  t138 := Tryz.underlying150
  a138 := Tryz.isAgg150
  z138 := Tryz.sizeOf150
  v138 := Tryz.zeroValue150
  t139 := Tryz.underlying151
  a139 := Tryz.isAgg151
  z139 := Tryz.sizeOf151
  v139 := Tryz.zeroValue151
  t146 := Tryz.underlying153
  a146 := Tryz.isAgg153
  z146 := Tryz.sizeOf153
  v146 := Tryz.zeroValue153
  t164 := Tryz.underlying161
  a164 := Tryz.isAgg161
  z164 := Tryz.sizeOf161
  v164 := Tryz.zeroValue161
  g1 := by kernel_rfl
  g3 := by kernel_rfl
  g4 := by kernel_rfl
  t80 := Tryz.underlying82
  a80 := Tryz.isAgg82
  z80 := Tryz.sizeOf82
  v80 := Tryz.zeroValue82
  i0 := by kernel_rfl
  i3 := by kernel_rfl
  i4 := by kernel_rfl
  i5 := by kernel_rfl
  i9 := by kernel_rfl
  i20 := by kernel_rfl
  i21 := by kernel_rfl
  i37 := by kernel_rfl
  i46 := by kernel_rfl
  i51 := by kernel_rfl
  i70 := by kernel_rfl
  i72 := by kernel_rfl
  i75 := by kernel_rfl
  i76 := by kernel_rfl
  i80 := by kernel_rfl
  i105 := by kernel_rfl
  i127 := by kernel_rfl
  i138 := by kernel_rfl
  i139 := by kernel_rfl
  i146 := by kernel_rfl
  i164 := by kernel_rfl
  m1 := by kernel_rfl
  s1_3 := fun w h => Go.Proofs.cell_of_shapedOpen_int (zero := #[.int .i64 0]) (t := 3) h (of_decide_eq_true (by kernel_rfl)) (by kernel_rfl) rfl (by kernel_rfl) (by kernel_rfl) Tryz.underlying3
  m3 := by kernel_rfl
  m4 := by kernel_rfl }
end Go.Proofs

namespace Go.Proofs.YtpkmamgleofimaaGreatDoor
open Go.RowKit

set_option maxHeartbeats 400000 in
theorem lexClone_any (s : ByteArray) (w : World) (hs : s.size ≤ 1000000) : Calls Tryz.prog 62 #[.string s] w fun e w' => e = .returned (.string s) ∧ Below w.heap.size w w' := by
  go_enter Tryz.func62, Tryz.ntmps62
  go_wp2_with (go_at_call 90; refine (Tryz.stringslite_Clone s _ (by omega)).mono ?_; rintro e w' ⟨rfl, hb⟩)
  go_ret
  exact ⟨rfl, hb⟩
set_option maxHeartbeats 400000 in
theorem meant_plain (k : Nat) (t : ByteArray) (w : World) (ht : t.size ≤ 2000) (h3 : k ≠ 3) (h4 : k ≠ 4) :
    Calls Tryz.prog 32 #[.int .i64 (k : Int), .string t] w fun e w' => e = .returned (.string t) ∧ Below w.heap.size w w' := by
  have e3 : ((k : Int) == 3) = false := bn
  have e4 : ((k : Int) == 4) = false := bn
  have HC := hide (lexClone_any t w (by omega))
  clear h3 h4
  go_enter Tryz.func32, Tryz.ntmps32
  go_wp2_with (refine (unhide HC).mono ?_; rintro e w1 ⟨rfl, hb⟩)
  go_ret
  exact ⟨rfl, hb⟩
set_option maxHeartbeats 400000 in
theorem meant_pat (t : ByteArray) (w : World) (ht : t.size ≤ 2000) (h2 : 2 ≤ t.size) :
    Calls Tryz.prog 32 #[.int .i64 4, .string t] w fun e w' => e = .returned (.string (t.extract 1 (t.size - 1))) ∧ Below w.heap.size w w' := by
  have HC := hide (lexClone_any (t.extract 1 (t.size - 1)) w (by simp; omega))
  have g1 : (0 : Int) ≤ (t.size : Int) - 1 := by omega
  have g2 : (1 : Int) ≤ (t.size : Int) - 1 := by omega
  have g3 : ((t.size : Int) - 1).toNat = t.size - 1 := by omega
  go_enter Tryz.func32, Tryz.ntmps32
  go_wp2_with (refine (unhide HC).mono ?_; rintro e w1 ⟨rfl, hb⟩)
  go_ret
  exact ⟨rfl, hb⟩
set_option maxHeartbeats 400000 in
theorem meant_text (t : ByteArray) (w : World) (ht : t.size ≤ 2000) (h2 : 2 ≤ t.size) (m : Int) (hm : w.cell? ⟨1, 0, none⟩ = some (.int .i64 m)) :
    Calls Tryz.prog 32 #[.int .i64 3, .string t] w fun e w' => e = .returned (.string ⟨(und (t.extract 1 (t.size - 1)).data.toList).toArray⟩) ∧ Below w.heap.size w w' := by
  have hz : (t.extract 1 (t.size - 1)).size ≤ 2000 := by simp; omega
  have HR := hide (Tryz.strings_ReplaceAll (t.extract 1 (t.size - 1)) ⟨#[39, 39]⟩ ⟨#[39]⟩ m w (by omega) hm (by decide) (by have := Lib.countB_le ⟨#[39, 39]⟩ (by decide) (t.extract 1 (t.size - 1)).size (t.extract 1 (t.size - 1)) (Nat.le_refl _); show (t.extract 1 (t.size - 1)).size + _ * 1 ≤ _; omega))
  rw [show (⟨#[39, 39]⟩ : ByteArray).data.toList = [39, 39] from rfl, show (⟨#[39]⟩ : ByteArray).data.toList = [39] from rfl, replace_two] at HR
  have hle : (und (t.extract 1 (t.size - 1)).data.toList).length ≤ 2000 := Nat.le_trans (und_len _) (by simpa using hz)
  have HC := hide (fun W => lexClone_any ⟨(und (t.extract 1 (t.size - 1)).data.toList).toArray⟩ W (by show (und (t.extract 1 (t.size - 1)).data.toList).toArray.size ≤ _; simp only [List.size_toArray]; omega))
  generalize und (t.extract 1 (t.size - 1)).data.toList = U at *
  have g1 : (0 : Int) ≤ (t.size : Int) - 1 := by omega
  have g2 : (1 : Int) ≤ (t.size : Int) - 1 := by omega
  have g3 : ((t.size : Int) - 1).toNat = t.size - 1 := by omega
  clear hm hz
  go_enter Tryz.func32, Tryz.ntmps32
  go_wp2_with fail
  refine (unhide HR).mono ?_
  rintro e w1 ⟨rfl, hb⟩
  have HB := hide hb
  clear hb
  go_wp2_with (refine (unhide HC _).mono ?_; rintro e w2 ⟨rfl, hb⟩)
  go_ret
  exact ⟨rfl, bnext (unhide HB) hb⟩
theorem extract_size (s : ByteArray) (i j : Nat) (hj : j ≤ s.size) : (s.extract i j).size = j - i := by simp; omega
theorem lxExt_le (s : ByteArray) (i j : Nat) : (s.extract i j).size ≤ s.size := by simp; omega
theorem meant_any (s : ByteArray) (i : Nat) (hs : s.size ≤ 2000) (hi : i < s.size) (hk : (tk s i).1 ≠ 0) (w : World) (m : Int) (hm : w.cell? ⟨1, 0, none⟩ = some (.int .i64 m)) :
    Calls Tryz.prog 32 #[.int .i64 ((tk s i).1 : Int), .string (s.extract i (tk s i).2.1)] w fun e w' => e = .returned (.string (tk s i).2.2) ∧ Below w.heap.size w w' := by
  have hle := tk_le s i hi
  have hq := cq_le s (i + 1) (by omega)
  have hb := cb_le s (i + 1) (by omega)
  have hsz := extract_size s i (tk s i).2.1 hle.2.1
  unfold tk at hk hle hsz ⊢
  split
  · rename_i h1
    rw [if_pos h1] at hsz
    exact meant_plain 1 _ w (Nat.le_trans (lxExt_le s _ _) hs) (by decide) (by decide)
  · rename_i h1
    rw [if_neg h1] at hsz hk hle
    split
    · rename_i h2
      rw [if_pos h2] at hsz
      exact meant_plain 2 _ w (Nat.le_trans (lxExt_le s _ _) hs) (by decide) (by decide)
    · rename_i h2
      rw [if_neg h2] at hsz hk hle
      split
      · rename_i h3
        rw [if_pos h3] at hsz hk hle
        split
        · rename_i h4; rw [if_pos h4] at hk; exact absurd rfl hk
        · rename_i h4
          rw [if_neg h4] at hsz
          dsimp only at hsz ⊢
          have := meant_text (s.extract i (cq s (i + 1) + 1)) w (by omega) (by omega) m hm
          rw [extract_inner s i _ (by omega) (by omega), sec_data, Nat.add_sub_cancel, ct_und s (i + 1) (by omega) (by omega)] at this
          exact this
      · rename_i h3
        rw [if_neg h3] at hsz hk hle
        split
        · rename_i h4
          rw [if_pos h4] at hsz hk hle
          split
          · rename_i h5; rw [if_pos h5] at hk; exact absurd rfl hk
          · rename_i h5
            rw [if_neg h5] at hsz
            dsimp only at hsz ⊢
            have := meant_pat (s.extract i (cb s (i + 1) + 1)) w (by omega) (by omega)
            rw [extract_inner s i _ (by omega) (by omega), Nat.add_sub_cancel] at this
            exact this
        · rename_i h4
          rw [if_neg h4] at hsz hk hle
          split
          · rename_i h5
            rw [if_pos h5] at hsz
            exact meant_plain 5 _ w (Nat.le_trans (lxExt_le s _ _) hs) (by decide) (by decide)
          · rename_i h5
            rw [if_neg h5] at hsz hk hle
            split
            · rename_i h6
              rw [if_pos h6] at hsz
              exact meant_plain 5 _ w (Nat.le_trans (lxExt_le s _ _) hs) (by decide) (by decide)
            · rename_i h6
              rw [if_neg h6] at hk
              exact absurd rfl hk
end Go.Proofs.YtpkmamgleofimaaGreatDoor
