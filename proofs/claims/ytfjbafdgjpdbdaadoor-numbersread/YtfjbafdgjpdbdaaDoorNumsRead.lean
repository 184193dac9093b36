/- What numbers.Read and numbers.Unbase do, for every text. -/
import Derived.Test.YtfjbafdgjpdbdaaDoorDigits
import Derived.Test.YtfjbafdgjpdbdaaDoorTrimBoth
import Derived.Test.YtfjbafdgjpdbdaaDoorCutLib
import Derived.Shelf.Strings.SlTrimAscii
namespace Go.Proofs.YtfjbafdgjpdbdaaDoor
open Go.RowKit

theorem info_set : (Tryd.prog.info? 61).map (fun i => (i.zero, i.size)) = some (some (.agg (Array.replicate 256 (.bool false))), 256) := by kernel_rfl
/-- A text without the blanks and tabs ahead and behind. -/
def trimB (t : ByteArray) : ByteArray := ⟨(Lib.trimS t.data.toList [32, 9]).toArray⟩
theorem trimB_le (t : ByteArray) : (trimB t).size ≤ t.size := by
  show (Lib.trimS t.data.toList [32, 9]).toArray.size ≤ t.data.size
  rw [List.size_toArray]
  unfold Lib.trimS Lib.trimLeftS Lib.trimRightS
  have h1 := (List.dropWhile_sublist (fun x => [32, 9].contains x) (l := (t.data.toList.reverse.dropWhile (fun x => [32, 9].contains x)).reverse)).length_le
  have h2 := (List.dropWhile_sublist (fun x => [32, 9].contains x) (l := t.data.toList.reverse)).length_le
  simp only [List.length_reverse, Array.length_toList] at h1 h2
  omega
theorem trim_any2 (t : ByteArray) (w : World) (hl : t.size ≤ 65536) :
    Calls Tryd.prog 20 #[.string t, .string ⟨#[32, 9]⟩] w fun e w' => e = .returned (.string (trimB t)) ∧ Below w.heap.size w w' :=
  Any.strings_Trim_laid Tryd.lays160 info_set t ⟨#[32, 9]⟩ w (by omega) (by decide) (ascii_of_all (by decide))
/-- What a text without blanks around tells. -/
def readIn (l : List UInt8) : Int × Int := match l with
  | [] => (0, 0)
  | b :: r => if b = 45 then digitsSaid 10 r true else if b = 43 then digitsSaid 10 r false else digitsSaid 10 (b :: r) false
def readSaid (t : ByteArray) : Int × Int := if 65536 < t.size then (0, 4) else readIn (trimB t).data.toList

set_option maxHeartbeats 400000 in
theorem read_much (t : ByteArray) (w : World) (_hs : t.size ≤ maxLen) (hl : 65536 < t.size) :
    Calls Tryd.prog 7 #[.string t] w fun e w' => e = .returned (pairOf (0, 4)) ∧ w' = w := by
  unfold maxLen at _hs
  go_enter Tryd.func7, Tryd.ntmps7
  go_wp2
  go_ret2
  exact ⟨rfl, rfl⟩

theorem first_byte (t : ByteArray) (h : 0 < t.size) : t.data.toList = t[0] :: (t.extract 1 t.size).data.toList := by
  have e : t.data.toList = t.data.toList.take 1 ++ t.data.toList.drop 1 := (List.take_append_drop 1 _).symm
  rw [e]
  have h1 : t.data.toList.take 1 = [t[0]] := by
    have := List.take_succ_eq_append_getElem (l := t.data.toList) (i := 0) (by simpa using h)
    rw [this]; rfl
  rw [h1, ByteArray.data_extract]
  simp
  rw [List.take_of_length_le (by simp)]

set_option maxHeartbeats 1000000 in
theorem read_ok (t : ByteArray) (w : World) (hl : t.size ≤ 65536) :
    Calls Tryd.prog 7 #[.string t] w fun e w' => e = .returned (pairOf (readIn (trimB t).data.toList)) ∧ Below w.heap.size w w' := by
  have C := hide (trim_any2 t w hl)
  have hle := trimB_le t
  generalize trimB t = s at *
  by_cases h0 : s.size = 0
  · have he := isEmpty_true s h0
    have H := hide (show readIn s.data.toList = (0, 0) by rw [show s.data.toList = [] from List.eq_nil_of_length_eq_zero (by simpa using h0)]; rfl)
    rw [unhide H]
    go_enter Tryd.func7, Tryd.ntmps7
    go_wp2_with fail
    refine (unhide C).mono ?_
    rintro e w1 ⟨rfl, hb⟩
    go_wp2
    go_ret2
    exact ⟨rfl, hb⟩
  · have he := isEmpty_false s h0
    have hp : 0 < s.size := by omega
    have hp' : (0 : Int) < (s.size : Int) := by omega
    have hfb := first_byte s hp
    have hel : (s.extract 1 s.size).size ≤ 65536 := by rw [ByteArray.size_extract]; omega
    have D1 := fun b w => hide (digits_any (s.extract 1 s.size) 10 b w hel (by omega) (by omega))
    have D2 := fun w => hide (digits_any s 10 false w (by omega) (by omega) (by omega))
    obtain ⟨q, hq⟩ : ∃ q, q = readIn s.data.toList := ⟨_, rfl⟩
    rw [← hq]
    rw [hfb] at hq
    have hc45 : ((s[0].toNat : Int) == 45) = decide (s[0] = 45) := by
      by_cases h : s[0] = 45
      · rw [h]; rfl
      · rw [decide_eq_false h]
        simp only [beq_eq_false_iff_ne, ne_eq]
        intro e
        apply h
        apply UInt8.toNat_inj.1
        have : (45 : UInt8).toNat = 45 := rfl
        omega
    have hc43 : ((s[0].toNat : Int) == 43) = decide (s[0] = 43) := by
      by_cases h : s[0] = 43
      · rw [h]; rfl
      · rw [decide_eq_false h]
        simp only [beq_eq_false_iff_ne, ne_eq]
        intro e
        apply h
        apply UInt8.toNat_inj.1
        have : (43 : UInt8).toNat = 43 := rfl
        omega
    by_cases h1 : s[0] = 45
    · rw [decide_eq_true h1] at hc45
      have DD := fun w => D1 true w
      have H := hide (show digitsSaid 10 (s.extract 1 s.size).data.toList true = q by rw [hq]; simp [readIn, h1])
      rw [unhide H] at DD
      clear D1 D2 hfb hq hc43 H h1
      go_enter Tryd.func7, Tryd.ntmps7
      go_wp2_with fail
      refine (unhide C).mono ?_
      rintro e w1 ⟨rfl, hb⟩
      go_wp2_with fail
      refine (unhide (DD _)).mono ?_
      rintro e w1 ⟨rfl, rfl⟩
      go_wp2
      go_ret2
      exact ⟨rfl, hb⟩
    · rw [decide_eq_false h1] at hc45
      by_cases h2 : s[0] = 43
      · rw [decide_eq_true h2] at hc43
        have DD := fun w => D1 false w
        have H := hide (show digitsSaid 10 (s.extract 1 s.size).data.toList false = q by rw [hq]; simp [readIn, h2])
        rw [unhide H] at DD
        clear D1 D2 hfb hq H h1 h2
        go_enter Tryd.func7, Tryd.ntmps7
        go_wp2_with fail
        refine (unhide C).mono ?_
        rintro e w1 ⟨rfl, hb⟩
        go_wp2_with fail
        refine (unhide (DD _)).mono ?_
        rintro e w1 ⟨rfl, rfl⟩
        go_wp2
        go_ret2
        exact ⟨rfl, hb⟩
      · rw [decide_eq_false h2] at hc43
        have H := hide (show digitsSaid 10 s.data.toList false = q by rw [hq, hfb]; simp [readIn, h1, h2])
        rw [unhide H] at D2
        clear D1 hfb hq H h1 h2
        go_enter Tryd.func7, Tryd.ntmps7
        go_wp2_with fail
        refine (unhide C).mono ?_
        rintro e w1 ⟨rfl, hb⟩
        go_wp2_with fail
        refine (unhide (D2 _)).mono ?_
        rintro e w1 ⟨rfl, rfl⟩
        go_wp2
        go_ret2
        exact ⟨rfl, hb⟩

set_option maxHeartbeats 400000 in
theorem isBase_yes (b : Int) (w : World) (h1 : 2 ≤ b) (h2 : b ≤ 36) :
    Calls Tryd.prog 25 #[.int .i64 b] w fun e w' => e = .returned (.bool true) ∧ w' = w := by
  go_enter Tryd.func25, Tryd.ntmps25
  go_wp2
  go_ret
  exact ⟨rfl, rfl⟩
set_option maxHeartbeats 400000 in
theorem isBase_no (b : Int) (w : World) (h : b < 2 ∨ 36 < b) :
    Calls Tryd.prog 25 #[.int .i64 b] w fun e w' => e = .returned (.bool false) ∧ w' = w := by
  by_cases h1 : 2 ≤ b
  · have h2 : 36 < b := by omega
    clear h
    have d : decide (b ≤ 36) = false := decide_eq_false (by omega)
    go_enter Tryd.func25, Tryd.ntmps25
    go_wp2
    go_ret
    exact ⟨rfl, rfl⟩
  · have h2 : b < 2 := by omega
    have d : decide (2 ≤ b) = false := decide_eq_false (by omega)
    clear h
    go_enter Tryd.func25, Tryd.ntmps25
    go_wp2
    go_ret
    exact ⟨rfl, rfl⟩

/-- What a text in a base tells. -/
def unbaseIn (base : Nat) (l : List UInt8) : Int × Int := match l with
  | [] => digitsSaid base [] false
  | b :: r => if b = 45 then digitsSaid base r true else digitsSaid base (b :: r) false

set_option maxHeartbeats 400000 in
theorem unbase_no (t : ByteArray) (b : Int) (w : World) (h : b < 2 ∨ 36 < b) :
    Calls Tryd.prog 12 #[.string t, .int .i64 b] w fun e w' => e = .returned (pairOf (0, 3)) ∧ w' = w := by
  have C := hide (isBase_no b w h)
  clear h
  go_enter Tryd.func12, Tryd.ntmps12
  go_wp2_with fail
  refine (unhide C).mono ?_
  rintro e w ⟨rfl, rfl⟩
  go_wp2
  go_ret2
  exact ⟨rfl, rfl⟩
set_option maxHeartbeats 400000 in
theorem unbase_much (t : ByteArray) (b : Int) (w : World) (hs : t.size ≤ maxLen) (hl : 65536 < t.size) (h1 : 2 ≤ b) (h2 : b ≤ 36) :
    Calls Tryd.prog 12 #[.string t, .int .i64 b] w fun e w' => e = .returned (pairOf (0, 4)) ∧ w' = w := by
  have C := hide (isBase_yes b w h1 h2)
  unfold maxLen at hs
  go_enter Tryd.func12, Tryd.ntmps12
  go_wp2_with fail
  refine (unhide C).mono ?_
  rintro e w ⟨rfl, rfl⟩
  go_wp2
  go_ret2
  exact ⟨rfl, rfl⟩

theorem unbase_cut (base : Nat) (t : ByteArray) : digitsSaid base (Lib.trimPrefix t.data.toList [45]) (Lib.hasPrefix t.data.toList [45]) = unbaseIn base t.data.toList := by
  cases t.data.toList with
  | nil => rfl
  | cons b r =>
    by_cases h : b = 45
    · subst h
      simp [unbaseIn, Lib.trimPrefix, Lib.hasPrefix]
    · have h' : [45].isPrefixOf (b :: r) = false := by
        have : ((45 : UInt8) == b) = false := by simp; exact fun e => h e.symm
        simp [List.isPrefixOf, this]
      simp only [unbaseIn, Lib.trimPrefix, Lib.hasPrefix, h', if_neg h, Bool.false_eq_true, if_false]
theorem trimPrefix_le (l p : List UInt8) : (Lib.trimPrefix l p).length ≤ l.length := by
  unfold Lib.trimPrefix
  split
  · simp
  · exact Nat.le_refl _

set_option maxHeartbeats 400000 in
theorem unbase_ok (t : ByteArray) (base : Nat) (w : World) (hl : t.size ≤ 65536) (h1 : 2 ≤ base) (h2 : base ≤ 36) :
    Calls Tryd.prog 12 #[.string t, .int .i64 base] w fun e w' => e = .returned (pairOf (unbaseIn base t.data.toList)) ∧ w' = w := by
  have C1 := hide (isBase_yes (base : Int) w (by omega) (by omega))
  have C2 := hide (Tryd.strings_CutPrefix t ⟨#[45]⟩ w)
  have hle := trimPrefix_le t.data.toList [45]
  have C3 := hide (digits_any ⟨(Lib.trimPrefix t.data.toList [45]).toArray⟩ base (Lib.hasPrefix t.data.toList [45]) w (by
    show (Lib.trimPrefix t.data.toList [45]).toArray.size ≤ 65536
    rw [List.size_toArray]
    have e : t.data.toList.length = t.size := by simp
    omega) h1 h2)
  rw [show (ByteArray.mk (Lib.trimPrefix t.data.toList [45]).toArray).data.toList = Lib.trimPrefix t.data.toList [45] from rfl, unbase_cut] at C3
  generalize unbaseIn base t.data.toList = q at *
  rw [show (ByteArray.mk #[45]).data.toList = [45] from rfl] at C2
  generalize Lib.hasPrefix t.data.toList [45] = s at *
  generalize (ByteArray.mk (Lib.trimPrefix t.data.toList [45]).toArray) = u at *
  clear hle
  go_enter Tryd.func12, Tryd.ntmps12
  go_wp2_with fail
  refine (unhide C1).mono ?_
  rintro e w ⟨rfl, rfl⟩
  go_wp2_with fail
  refine (unhide C2).mono ?_
  rintro e w ⟨rfl, rfl⟩
  go_wp2_with fail
  refine (unhide C3).mono ?_
  rintro e w ⟨rfl, rfl⟩
  go_wp2
  go_ret2
  exact ⟨rfl, rfl⟩
end Go.Proofs.YtfjbafdgjpdbdaaDoor
