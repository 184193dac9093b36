/- The document's text of a name. What strings.HasPrefix and strings.TrimSuffix answer, laid from the library. What strings.Split answers, laid from the library. -/
import Derived.Test.YtpkmamgleofimaaGreatDoorLbTM
import Derived.Below
import Derived.Shelf.LaysM
import Derived.Shelf.Strings.Prefix
import Derived.Test.YtpkmamgleofimaaGreatDoorProg
import Derived.Test.YtpkmamgleofimaaGreatDoorLxMeantM
import Derived.Shelf.Strings.Split
import Derived.Test.YtpkmamgleofimaaGreatDoorLexLibM
import Derived.Test.YtpkmamgleofimaaGreatDoorSyDM
namespace Go.Proofs.YtpkmamgleofimaaGreatDoor
open Go.RowKit

theorem lbL0 : lbN0.toList = [98, 105, 110, 97, 114, 121] := by rw [ByteArray.toList_eq]; rfl
theorem lbK0 : lkT progsL lbN0 = (lbT0, 0) := by kernel_rfl
theorem lbL1 : lbN1.toList = [98, 114, 97, 99, 107, 101, 116, 115] := by rw [ByteArray.toList_eq]; rfl
theorem lbK1 : lkT progsL lbN1 = (lbT1, 0) := by kernel_rfl
theorem lbL2 : lbN2.toList = [99, 97, 101, 115, 97, 114] := by rw [ByteArray.toList_eq]; rfl
theorem lbK2 : lkT progsL lbN2 = (lbT2, 0) := by kernel_rfl
theorem lbL3 : lbN3.toList = [99, 97, 116] := by rw [ByteArray.toList_eq]; rfl
theorem lbK3 : lkT progsL lbN3 = (lbT3, 0) := by kernel_rfl
theorem lbL4 : lbN4.toList = [99, 111, 108, 108, 97, 116, 122] := by rw [ByteArray.toList_eq]; rfl
theorem lbK4 : lkT progsL lbN4 = (lbT4, 0) := by kernel_rfl
theorem lbL5 : lbN5.toList = [99, 111, 117, 110, 116] := by rw [ByteArray.toList_eq]; rfl
theorem lbK5 : lkT progsL lbN5 = (lbT5, 0) := by kernel_rfl
theorem lbL6 : lbN6.toList = [100, 105, 103, 105, 116, 115] := by rw [ByteArray.toList_eq]; rfl
theorem lbK6 : lkT progsL lbN6 = (lbT6, 0) := by kernel_rfl
theorem lbL7 : lbN7.toList = [100, 105, 118, 105, 115, 111, 114, 115] := by rw [ByteArray.toList_eq]; rfl
theorem lbK7 : lkT progsL lbN7 = (lbT7, 0) := by kernel_rfl
theorem lbL8 : lbN8.toList = [101, 117, 99, 108, 105, 100] := by rw [ByteArray.toList_eq]; rfl
theorem lbK8 : lkT progsL lbN8 = (lbT8, 0) := by kernel_rfl
theorem lbL9 : lbN9.toList = [102, 97, 99, 116, 111, 114, 105, 97, 108] := by rw [ByteArray.toList_eq]; rfl
theorem lbK9 : lkT progsL lbN9 = (lbT9, 0) := by kernel_rfl
theorem lbL10 : lbN10.toList = [102, 105, 98, 111, 110, 97, 99, 99, 105] := by rw [ByteArray.toList_eq]; rfl
theorem lbK10 : lkT progsL lbN10 = (lbT10, 0) := by kernel_rfl
theorem lbL11 : lbN11.toList = [102, 105, 101, 108, 100, 115] := by rw [ByteArray.toList_eq]; rfl
theorem lbK11 : lkT progsL lbN11 = (lbT11, 0) := by kernel_rfl
theorem lbL12 : lbN12.toList = [104, 97, 110, 111, 105] := by rw [ByteArray.toList_eq]; rfl
theorem lbK12 : lkT progsL lbN12 = (lbT12, 0) := by kernel_rfl
theorem lbL13 : lbN13.toList = [104, 101, 97, 100] := by rw [ByteArray.toList_eq]; rfl
theorem lbK13 : lkT progsL lbN13 = (lbT13, 0) := by kernel_rfl
theorem lbL14 : lbN14.toList = [108, 111, 110, 103, 101, 115, 116] := by rw [ByteArray.toList_eq]; rfl
theorem lbK14 : lkT progsL lbN14 = (lbT14, 0) := by kernel_rfl
theorem lbL15 : lbN15.toList = [109, 105, 114, 114, 111, 114] := by rw [ByteArray.toList_eq]; rfl
theorem lbK15 : lkT progsL lbN15 = (lbT15, 0) := by kernel_rfl
theorem lbL16 : lbN16.toList = [110, 117, 109, 98, 101, 114] := by rw [ByteArray.toList_eq]; rfl
theorem lbK16 : lkT progsL lbN16 = (lbT16, 0) := by kernel_rfl
theorem lbL17 : lbN17.toList = [112, 97, 115, 99, 97, 108] := by rw [ByteArray.toList_eq]; rfl
theorem lbK17 : lkT progsL lbN17 = (lbT17, 0) := by kernel_rfl
theorem lbL18 : lbN18.toList = [112, 114, 105, 109, 101, 115] := by rw [ByteArray.toList_eq]; rfl
theorem lbK18 : lkT progsL lbN18 = (lbT18, 0) := by kernel_rfl
theorem lbL19 : lbN19.toList = [114, 97, 110, 103, 101] := by rw [ByteArray.toList_eq]; rfl
theorem lbK19 : lkT progsL lbN19 = (lbT19, 0) := by kernel_rfl
theorem lbL20 : lbN20.toList = [114, 101, 118, 101, 114, 115, 101] := by rw [ByteArray.toList_eq]; rfl
theorem lbK20 : lkT progsL lbN20 = (lbT20, 0) := by kernel_rfl
theorem lbL21 : lbN21.toList = [114, 111, 109, 97, 110] := by rw [ByteArray.toList_eq]; rfl
theorem lbK21 : lkT progsL lbN21 = (lbT21, 0) := by kernel_rfl
theorem lbL22 : lbN22.toList = [115, 111, 114, 116] := by rw [ByteArray.toList_eq]; rfl
theorem lbK22 : lkT progsL lbN22 = (lbT22, 0) := by kernel_rfl
theorem lbL23 : lbN23.toList = [115, 113, 117, 101, 101, 122, 101] := by rw [ByteArray.toList_eq]; rfl
theorem lbK23 : lkT progsL lbN23 = (lbT23, 0) := by kernel_rfl
theorem lbL24 : lbN24.toList = [115, 117, 109] := by rw [ByteArray.toList_eq]; rfl
theorem lbK24 : lkT progsL lbN24 = (lbT24, 0) := by kernel_rfl
theorem lbL25 : lbN25.toList = [117, 110, 105, 113, 117, 101] := by rw [ByteArray.toList_eq]; rfl
theorem lbK25 : lkT progsL lbN25 = (lbT25, 0) := by kernel_rfl
theorem lbL26 : lbN26.toList = [117, 112, 112, 101, 114] := by rw [ByteArray.toList_eq]; rfl
theorem lbK26 : lkT progsL lbN26 = (lbT26, 0) := by kernel_rfl
theorem lbL27 : lbN27.toList = [118, 111, 119, 101, 108, 115] := by rw [ByteArray.toList_eq]; rfl
theorem lbK27 : lkT progsL lbN27 = (lbT27, 0) := by kernel_rfl
theorem lbL28 : lbN28.toList = [119, 111, 114, 100, 115] := by rw [ByteArray.toList_eq]; rfl
theorem lbK28 : lkT progsL lbN28 = (lbT28, 0) := by kernel_rfl
theorem lkT_none : ∀ (L : List (ByteArray × ByteArray)) (n : ByteArray), (∀ p ∈ L, (n.toList == p.1.toList) = false) → lkT L n = (⟨#[]⟩, 7)
  | [], _, _ => rfl
  | p :: L, n, h => by
    have h1 := h p List.mem_cons_self
    rw [lkT, if_neg (fun e => by rw [e, toL_eq rfl] at h1; cases h1)]
    exact lkT_none L n fun q hq => h q (List.mem_cons_of_mem _ hq)
set_option maxRecDepth 100000 in
set_option maxHeartbeats 16000000 in
theorem refText_any (n : ByteArray) (w : World) : Calls Tryz.prog 5 #[.string n] w fun e w' => e = .returned (.tuple #[.string (lkT progsL n).1, .int .i64 (lkT progsL n).2]) ∧ w' = w := by

  obtain ⟨R, hR⟩ : ∃ R, R = lkT progsL n := ⟨_, rfl⟩
  rw [← hR]
  have HR := hide hR
  clear hR
  go_enter Tryz.func5, Tryz.ntmps5
  go_wp2_with fail
  · rename_i h
    obtain rfl := (unhide HR).trans ((congrArg (lkT progsL) (toL_inj ((beq_iff_eq.1 h).trans lbL0.symm))).trans lbK0)
    go_ret2
    exact ⟨by kernel_rfl, rfl⟩
  · rename_i h
    obtain rfl := (unhide HR).trans ((congrArg (lkT progsL) (toL_inj ((beq_iff_eq.1 h).trans lbL1.symm))).trans lbK1)
    go_ret2
    exact ⟨by kernel_rfl, rfl⟩
  · rename_i h
    obtain rfl := (unhide HR).trans ((congrArg (lkT progsL) (toL_inj ((beq_iff_eq.1 h).trans lbL2.symm))).trans lbK2)
    go_ret2
    exact ⟨by kernel_rfl, rfl⟩
  · rename_i h
    obtain rfl := (unhide HR).trans ((congrArg (lkT progsL) (toL_inj ((beq_iff_eq.1 h).trans lbL3.symm))).trans lbK3)
    go_ret2
    exact ⟨by kernel_rfl, rfl⟩
  · rename_i h
    obtain rfl := (unhide HR).trans ((congrArg (lkT progsL) (toL_inj ((beq_iff_eq.1 h).trans lbL4.symm))).trans lbK4)
    go_ret2
    exact ⟨by kernel_rfl, rfl⟩
  · rename_i h
    obtain rfl := (unhide HR).trans ((congrArg (lkT progsL) (toL_inj ((beq_iff_eq.1 h).trans lbL5.symm))).trans lbK5)
    go_ret2
    exact ⟨by kernel_rfl, rfl⟩
  · rename_i h
    obtain rfl := (unhide HR).trans ((congrArg (lkT progsL) (toL_inj ((beq_iff_eq.1 h).trans lbL6.symm))).trans lbK6)
    go_ret2
    exact ⟨by kernel_rfl, rfl⟩
  · rename_i h
    obtain rfl := (unhide HR).trans ((congrArg (lkT progsL) (toL_inj ((beq_iff_eq.1 h).trans lbL7.symm))).trans lbK7)
    go_ret2
    exact ⟨by kernel_rfl, rfl⟩
  · rename_i h
    obtain rfl := (unhide HR).trans ((congrArg (lkT progsL) (toL_inj ((beq_iff_eq.1 h).trans lbL8.symm))).trans lbK8)
    go_ret2
    exact ⟨by kernel_rfl, rfl⟩
  · rename_i h
    obtain rfl := (unhide HR).trans ((congrArg (lkT progsL) (toL_inj ((beq_iff_eq.1 h).trans lbL9.symm))).trans lbK9)
    go_ret2
    exact ⟨by kernel_rfl, rfl⟩
  · rename_i h
    obtain rfl := (unhide HR).trans ((congrArg (lkT progsL) (toL_inj ((beq_iff_eq.1 h).trans lbL10.symm))).trans lbK10)
    go_ret2
    exact ⟨by kernel_rfl, rfl⟩
  · rename_i h
    obtain rfl := (unhide HR).trans ((congrArg (lkT progsL) (toL_inj ((beq_iff_eq.1 h).trans lbL11.symm))).trans lbK11)
    go_ret2
    exact ⟨by kernel_rfl, rfl⟩
  · rename_i h
    obtain rfl := (unhide HR).trans ((congrArg (lkT progsL) (toL_inj ((beq_iff_eq.1 h).trans lbL12.symm))).trans lbK12)
    go_ret2
    exact ⟨by kernel_rfl, rfl⟩
  · rename_i h
    obtain rfl := (unhide HR).trans ((congrArg (lkT progsL) (toL_inj ((beq_iff_eq.1 h).trans lbL13.symm))).trans lbK13)
    go_ret2
    exact ⟨by kernel_rfl, rfl⟩
  · rename_i h
    obtain rfl := (unhide HR).trans ((congrArg (lkT progsL) (toL_inj ((beq_iff_eq.1 h).trans lbL14.symm))).trans lbK14)
    go_ret2
    exact ⟨by kernel_rfl, rfl⟩
  · rename_i h
    obtain rfl := (unhide HR).trans ((congrArg (lkT progsL) (toL_inj ((beq_iff_eq.1 h).trans lbL15.symm))).trans lbK15)
    go_ret2
    exact ⟨by kernel_rfl, rfl⟩
  · rename_i h
    obtain rfl := (unhide HR).trans ((congrArg (lkT progsL) (toL_inj ((beq_iff_eq.1 h).trans lbL16.symm))).trans lbK16)
    go_ret2
    exact ⟨by kernel_rfl, rfl⟩
  · rename_i h
    obtain rfl := (unhide HR).trans ((congrArg (lkT progsL) (toL_inj ((beq_iff_eq.1 h).trans lbL17.symm))).trans lbK17)
    go_ret2
    exact ⟨by kernel_rfl, rfl⟩
  · rename_i h
    obtain rfl := (unhide HR).trans ((congrArg (lkT progsL) (toL_inj ((beq_iff_eq.1 h).trans lbL18.symm))).trans lbK18)
    go_ret2
    exact ⟨by kernel_rfl, rfl⟩
  · rename_i h
    obtain rfl := (unhide HR).trans ((congrArg (lkT progsL) (toL_inj ((beq_iff_eq.1 h).trans lbL19.symm))).trans lbK19)
    go_ret2
    exact ⟨by kernel_rfl, rfl⟩
  · rename_i h
    obtain rfl := (unhide HR).trans ((congrArg (lkT progsL) (toL_inj ((beq_iff_eq.1 h).trans lbL20.symm))).trans lbK20)
    go_ret2
    exact ⟨by kernel_rfl, rfl⟩
  · rename_i h
    obtain rfl := (unhide HR).trans ((congrArg (lkT progsL) (toL_inj ((beq_iff_eq.1 h).trans lbL21.symm))).trans lbK21)
    go_ret2
    exact ⟨by kernel_rfl, rfl⟩
  · rename_i h
    obtain rfl := (unhide HR).trans ((congrArg (lkT progsL) (toL_inj ((beq_iff_eq.1 h).trans lbL22.symm))).trans lbK22)
    go_ret2
    exact ⟨by kernel_rfl, rfl⟩
  · rename_i h
    obtain rfl := (unhide HR).trans ((congrArg (lkT progsL) (toL_inj ((beq_iff_eq.1 h).trans lbL23.symm))).trans lbK23)
    go_ret2
    exact ⟨by kernel_rfl, rfl⟩
  · rename_i h
    obtain rfl := (unhide HR).trans ((congrArg (lkT progsL) (toL_inj ((beq_iff_eq.1 h).trans lbL24.symm))).trans lbK24)
    go_ret2
    exact ⟨by kernel_rfl, rfl⟩
  · rename_i h
    obtain rfl := (unhide HR).trans ((congrArg (lkT progsL) (toL_inj ((beq_iff_eq.1 h).trans lbL25.symm))).trans lbK25)
    go_ret2
    exact ⟨by kernel_rfl, rfl⟩
  · rename_i h
    obtain rfl := (unhide HR).trans ((congrArg (lkT progsL) (toL_inj ((beq_iff_eq.1 h).trans lbL26.symm))).trans lbK26)
    go_ret2
    exact ⟨by kernel_rfl, rfl⟩
  · rename_i h
    obtain rfl := (unhide HR).trans ((congrArg (lkT progsL) (toL_inj ((beq_iff_eq.1 h).trans lbL27.symm))).trans lbK27)
    go_ret2
    exact ⟨by kernel_rfl, rfl⟩
  · rename_i h
    obtain rfl := (unhide HR).trans ((congrArg (lkT progsL) (toL_inj ((beq_iff_eq.1 h).trans lbL28.symm))).trans lbK28)
    go_ret2
    exact ⟨by kernel_rfl, rfl⟩
  · have hall : ∀ p ∈ progsL, (n.toList == p.1.toList) = false := by
      intro p hp
      simp only [progsL, List.mem_cons, List.not_mem_nil, or_false] at hp
      rcases hp with rfl | rfl | rfl | rfl | rfl | rfl | rfl | rfl | rfl | rfl | rfl | rfl | rfl | rfl | rfl | rfl | rfl | rfl | rfl | rfl | rfl | rfl | rfl | rfl | rfl | rfl | rfl | rfl | rfl
      · show (n.toList == lbN0.toList) = false; rw [lbL0]; assumption
      · show (n.toList == lbN1.toList) = false; rw [lbL1]; assumption
      · show (n.toList == lbN2.toList) = false; rw [lbL2]; assumption
      · show (n.toList == lbN3.toList) = false; rw [lbL3]; assumption
      · show (n.toList == lbN4.toList) = false; rw [lbL4]; assumption
      · show (n.toList == lbN5.toList) = false; rw [lbL5]; assumption
      · show (n.toList == lbN6.toList) = false; rw [lbL6]; assumption
      · show (n.toList == lbN7.toList) = false; rw [lbL7]; assumption
      · show (n.toList == lbN8.toList) = false; rw [lbL8]; assumption
      · show (n.toList == lbN9.toList) = false; rw [lbL9]; assumption
      · show (n.toList == lbN10.toList) = false; rw [lbL10]; assumption
      · show (n.toList == lbN11.toList) = false; rw [lbL11]; assumption
      · show (n.toList == lbN12.toList) = false; rw [lbL12]; assumption
      · show (n.toList == lbN13.toList) = false; rw [lbL13]; assumption
      · show (n.toList == lbN14.toList) = false; rw [lbL14]; assumption
      · show (n.toList == lbN15.toList) = false; rw [lbL15]; assumption
      · show (n.toList == lbN16.toList) = false; rw [lbL16]; assumption
      · show (n.toList == lbN17.toList) = false; rw [lbL17]; assumption
      · show (n.toList == lbN18.toList) = false; rw [lbL18]; assumption
      · show (n.toList == lbN19.toList) = false; rw [lbL19]; assumption
      · show (n.toList == lbN20.toList) = false; rw [lbL20]; assumption
      · show (n.toList == lbN21.toList) = false; rw [lbL21]; assumption
      · show (n.toList == lbN22.toList) = false; rw [lbL22]; assumption
      · show (n.toList == lbN23.toList) = false; rw [lbL23]; assumption
      · show (n.toList == lbN24.toList) = false; rw [lbL24]; assumption
      · show (n.toList == lbN25.toList) = false; rw [lbL25]; assumption
      · show (n.toList == lbN26.toList) = false; rw [lbL26]; assumption
      · show (n.toList == lbN27.toList) = false; rw [lbL27]; assumption
      · show (n.toList == lbN28.toList) = false; rw [lbL28]; assumption
    obtain rfl := (unhide HR).trans (lkT_none progsL n hall)
    go_ret2
    exact ⟨rfl, rfl⟩
end Go.Proofs.YtpkmamgleofimaaGreatDoor

namespace Go.Proofs
open Go.Shelf Go.RowKit Go.Lib
def Tryz.lays99_ren : Go.Shelf.Ren := ⟨fun | 99 => 17 | 206 => 28 | n => n, fun | 9 => 9 | 4 => 4 | 3 => 3 | n => n, fun | n => n⟩
theorem Tryz.lays99 : Go.Proofs.Lays.n99 Tryz.prog Tryz.lays99_ren := {
  mixed := by kernel_rfl
  f99 := Tryz.func17.trans (congrArg some (by kernel_rfl))
  f206 := Tryz.func28.trans (congrArg some (by kernel_rfl))
  t3 := Tryz.underlying3
  a3 := Tryz.isAgg3
  z3 := Tryz.sizeOf3
  v3 := Tryz.zeroValue3
  t4 := Tryz.underlying4
  a4 := Tryz.isAgg4
  z4 := Tryz.sizeOf4
  v4 := Tryz.zeroValue4
  t9 := Tryz.underlying9
  a9 := Tryz.isAgg9
  z9 := Tryz.sizeOf9
  v9 := Tryz.zeroValue9 }
theorem Tryz.strings_HasPrefix (s p : ByteArray) (w : World) :
    Calls Tryz.prog 17 #[.string s, .string p] w fun e w' => e = .returned (.bool (Lib.hasPrefix s.data.toList p.data.toList)) ∧ w' = w := Any.strings_HasPrefix Tryz.lays99 s p w
def Tryz.lays102_ren : Go.Shelf.Ren := ⟨fun | 102 => 16 | 209 => 27 | 207 => 53 | n => n, fun | 9 => 9 | 4 => 4 | 3 => 3 | n => n, fun | n => n⟩
theorem Tryz.lays102 : Go.Proofs.Lays.n102 Tryz.prog Tryz.lays102_ren := {
  mixed := by kernel_rfl
  f102 := Tryz.func16.trans (congrArg some (by kernel_rfl))
  f207 := Tryz.func53.trans (congrArg some (by kernel_rfl))
  f209 := Tryz.func27.trans (congrArg some (by kernel_rfl))
  t3 := Tryz.underlying3
  a3 := Tryz.isAgg3
  z3 := Tryz.sizeOf3
  v3 := Tryz.zeroValue3
  t4 := Tryz.underlying4
  a4 := Tryz.isAgg4
  z4 := Tryz.sizeOf4
  v4 := Tryz.zeroValue4
  t9 := Tryz.underlying9
  a9 := Tryz.isAgg9
  z9 := Tryz.sizeOf9
  v9 := Tryz.zeroValue9 }
theorem Tryz.strings_TrimSuffix (s p : ByteArray) (w : World) (hs : s.size ≤ 9223372036854775807) :
    Calls Tryz.prog 16 #[.string s, .string p] w fun e w' => e = .returned (.string ⟨(Lib.trimSuffix s.data.toList p.data.toList).toArray⟩) ∧ w' = w := Any.strings_TrimSuffix Tryz.lays102 s p w hs
end Go.Proofs

namespace Go.Proofs
open Go.Shelf Go.RowKit Go.Lib
def Tryz.lays146_ren : Go.Shelf.Ren := ⟨fun | 146 => 15 | 221 => 26 | 268 => 50 | 138 => 51 | 143 => 52 | 195 => 84 | 197 => 85 | 218 => 86 | 219 => 87 | 260 => 102 | 217 => 88 | 225 => 103 | 224 => 104 | 267 => 105 | 266 => 106 | 314 => 117 | n => n, fun | 9 => 9 | 31 => 25 | 3 => 3 | 4 => 4 | 0 => 0 | 105 => 119 | 21 => 21 | 5 => 5 | 46 => 133 | 119 => 148 | 139 => 151 | 138 => 150 | 146 => 153 | 51 => 152 | n => n, fun | 1 => 1 | 3 => 2 | 4 => 3 | n => n⟩
theorem Tryz.lays146 : Go.Proofs.Lays.n146 Tryz.prog Tryz.lays146_ren := {
  mixed := by kernel_rfl
  f138 := Tryz.func51.trans (congrArg some (by kernel_rfl))
  f143 := Tryz.func52.trans (congrArg some (by kernel_rfl))
  f146 := Tryz.func15.trans (congrArg some (by kernel_rfl))
  f195 := Tryz.func84.trans (congrArg some (by kernel_rfl))
  f197 := Tryz.func85.trans (congrArg some (by kernel_rfl))
  f217 := Tryz.func88.trans (congrArg some (by kernel_rfl))
  f218 := Tryz.func86.trans (congrArg some (by kernel_rfl))
  f219 := Tryz.func87.trans (congrArg some (by kernel_rfl))
  f221 := Tryz.func26.trans (congrArg some (by kernel_rfl))
  f224 := Tryz.func104.trans (congrArg some (by kernel_rfl))
  f225 := Tryz.func103.trans (congrArg some (by kernel_rfl))
  f260 := Tryz.func102.trans (congrArg some (by kernel_rfl))
  f266 := Tryz.func106.trans (congrArg some (by kernel_rfl))
  f267 := Tryz.func105.trans (congrArg some (by kernel_rfl))
  f268 := Tryz.func50.trans (congrArg some (by kernel_rfl))
  f314 := Tryz.func117.trans (congrArg some (by kernel_rfl))
  t0 := Tryz.underlying0
  a0 := Tryz.isAgg0
  z0 := Tryz.sizeOf0
  v0 := Tryz.zeroValue0
  t3 := Tryz.underlying3
  a3 := Tryz.isAgg3
  z3 := Tryz.sizeOf3
  v3 := Tryz.zeroValue3
  t4 := Tryz.underlying4
  a4 := Tryz.isAgg4
  z4 := Tryz.sizeOf4
  v4 := Tryz.zeroValue4
  t5 := Tryz.underlying5
  a5 := Tryz.isAgg5
  z5 := Tryz.sizeOf5
  v5 := Tryz.zeroValue5
  t9 := Tryz.underlying9
  a9 := Tryz.isAgg9
  z9 := Tryz.sizeOf9
  v9 := Tryz.zeroValue9
  t21 := Tryz.underlying21
  a21 := Tryz.isAgg21
  z21 := Tryz.sizeOf21
  v21 := Tryz.zeroValue21
  t31 := Tryz.underlying25
  a31 := Tryz.isAgg25
  z31 := Tryz.sizeOf25
  v31 := Tryz.zeroValue25
  t46 := Tryz.underlying133
  a46 := Tryz.isAgg133
  z46 := Tryz.sizeOf133
  v46 := Tryz.zeroValue133
  t51 := Tryz.underlying152
  a51 := Tryz.isAgg152
  z51 := Tryz.sizeOf152
  v51 := Tryz.zeroValue152
  t105 := Tryz.underlying119
  a105 := Tryz.isAgg119
  z105 := Tryz.sizeOf119
  v105 := Tryz.zeroValue119
  t119 := Tryz.underlying148
  a119 := Tryz.isAgg148
  z119 := Tryz.sizeOf148
  t138 := Tryz.underlying150
  a138 := Tryz.isAgg150
  z138 := Tryz.sizeOf150
  v138 := Tryz.zeroValue150
  t139 := Tryz.underlying151
  a139 := Tryz.isAgg151
  z139 := Tryz.sizeOf151
  v139 := Tryz.zeroValue151
  t146 := Tryz.underlying153
  a146 := Tryz.isAgg153
  z146 := Tryz.sizeOf153
  v146 := Tryz.zeroValue153
  g1 := by kernel_rfl
  g3 := by kernel_rfl
  g4 := by kernel_rfl }
theorem Tryz.strings_Split (s sep : ByteArray) (m : Int) (w : World) (hs : s.size < 4294967281) (hm : w.cell? ⟨1, 0, none⟩ = some (.int .i64 m)) (h1 : 1 ≤ sep.size) :
    Calls Tryz.prog 15 #[.string s, .string sep] w fun e w' =>
      e = .returned (.slice (some ⟨w.heap.size, 0, none⟩) (Lib.countB s sep + 1) (Lib.countB s sep + 1)) ∧ w' = w.alloc (.cells ((Lib.splitB sep 0 (Lib.countB s sep) s).map Value.string).toArray 9) := Any.strings_Split Tryz.lays146 (by kernel_rfl) s sep m w hs hm h1
end Go.Proofs
