/- The lines of a text, plain. The checker's look at statements does not ask where they lie; the library's texts, read and looked at. -/
import Derived.Test.YtpkmamgleofimaaGreatDoorSyNzM
import Derived.Lib.SplitLaws
namespace Go.Proofs.YtpkmamgleofimaaGreatDoor
open Go.RowKit

def cutL (l : List UInt8) : List (List UInt8) := Lib.splitK [10] 0 (Lib.count l [10]) l
def lnL (l : List UInt8) : List (List UInt8) := if l = [] then [] else cutL (Lib.trimSuffix l [10])
def byT (l : List UInt8) : ByteArray := ⟨l.toArray⟩
def lnT (s : ByteArray) : List ByteArray := (lnL s.data.toList).map byT
theorem split_lnT {s : ByteArray} (h : s.size ≠ 0) : Lib.splitB ⟨#[10]⟩ 0 (Lib.countB (byT (Lib.trimSuffix s.data.toList [10])) ⟨#[10]⟩) (byT (Lib.trimSuffix s.data.toList [10])) = lnT s := by
  have h0 : s.data.toList ≠ [] := fun e => h (by rw [Lib.size_eq, e]; rfl)
  have hd := Lib.splitB_data ⟨#[10]⟩ 0 (Lib.countB (byT (Lib.trimSuffix s.data.toList [10])) ⟨#[10]⟩) (byT (Lib.trimSuffix s.data.toList [10]))
  unfold lnT lnL cutL
  rw [if_neg h0]
  have hc : Lib.countB (byT (Lib.trimSuffix s.data.toList [10])) ⟨#[10]⟩ = Lib.count (Lib.trimSuffix s.data.toList [10]) [10] := rfl
  rw [← hc]
  have e : (byT (Lib.trimSuffix s.data.toList [10])).data.toList = Lib.trimSuffix s.data.toList [10] := by simp [byT]
  rw [e] at hd
  rw [show ([10] : List UInt8) = (⟨#[10]⟩ : ByteArray).data.toList from rfl, ← hd, List.map_map]
  exact (List.map_id' _).symm
def rdS (s : ByteArray) : Except Int (List SV) :=
  if 65536 < s.size then .error 4 else if 1000 < (lnT s).length then .error 5 else match rlS (lnT s) 0 [] with | .error e => .error e.1 | .ok l => .ok l
end Go.Proofs.YtpkmamgleofimaaGreatDoor

namespace Go.Proofs.YtpkmamgleofimaaGreatDoor
open Go.RowKit

theorem flatTo_take (l : List PT) : ∀ n, n ≤ l.length → flatTo (fun i => (l.getD i PT.nul).all) n = (l.take n).flatMap PT.all
  | 0, _ => rfl
  | n + 1, h => by
    rw [flatTo, flatTo_take l n (by omega), List.take_add_one, List.getElem?_eq_getElem (show n < l.length by omega), List.flatMap_append]
    simp [List.getD_eq_getElem?_getD, List.getElem?_eq_getElem (show n < l.length by omega)]
theorem all_lst (T : PT) : T.all = T :: T.lst.flatMap PT.all := by
  rw [PT.all_eq]
  have h := flatTo_take T.lst T.lst.length (Nat.le_refl _)
  rw [List.take_length, PT.lst_len] at h
  rw [← h]
  congr 1
  congr 1
  funext i
  rw [kid_lst]
theorem fm_congr {α β : Type} {f g : α → List β} : ∀ l : List α, (∀ x ∈ l, f x = g x) → l.flatMap f = l.flatMap g
  | [], _ => rfl
  | a :: l, h => by rw [List.flatMap_cons, List.flatMap_cons, h a List.mem_cons_self, fm_congr l fun x hx => h x (List.mem_cons_of_mem _ hx)]
theorem can_all : ∀ T : PT, T.can.all = T.all.map PT.can := mem_lst_ind fun T ih => by
  rw [all_lst T.can, all_lst T, can_lst, List.map_cons, List.flatMap_map, List.map_flatMap]
  congr 1
  exact fm_congr _ fun x hx => ih x hx
theorem isCal_can (T : PT) : isCal T.can = isCal T := by unfold isCal; rw [can_k]
theorem callsL_can (l : List PT) : callsL (l.map PT.can) = (callsL l).map PT.can := by
  unfold callsL
  rw [List.flatMap_map, fm_congr (g := fun x => x.all.map PT.can) _ fun x _ => can_all x, ← List.map_flatMap, List.filter_map]
  congr 1
  exact List.filter_congr fun x _ => isCal_can x
theorem exs_can (S : SV) : S.can.exs = S.exs.map PT.can := by
  unfold SV.exs
  show (if S.k = 2 ∨ S.k = 4 then _ else if S.k = 3 ∨ S.k = 5 then _ else _) = _
  split
  · rfl
  · split <;> rfl
theorem parN_can (P : List SV) (x : Int) : parN (P.map SV.can) x = parN P x := by
  unfold parN
  rw [List.getElem?_map]
  cases P[x.toNat]? <;> rfl
theorem folC_can (P : List SV) (i : Int) (c : CS) (T : PT) : CS.folC (P.map SV.can) i c T.can = CS.folC P i c T := by
  unfold CS.folC wCall
  rw [can_nm, can_len]
  simp only [parN_can]
theorem follow_can (P : List SV) (c : CS) (i : Int) (S : SV) : c.follow (P.map SV.can) i S.can = c.follow P i S := by
  unfold CS.follow
  rw [exs_can, callsL_can, List.foldl_map]
  simp only [folC_can]
  rfl
theorem rnd_can {f g : CS → Int → SV → CS} (h : ∀ c i S, f c i S.can = g c i S) : ∀ (l : List SV) (i : Nat) (c : CS), rnd f (l.map SV.can) i c = rnd g l i c
  | [], _, _ => rfl
  | S :: l, i, c => by
    rw [List.map_cons, rnd, rnd, h, rnd_can h l]
theorem look_can (P : List SV) : lookS (P.map SV.can) = lookS P := by
  unfold lookS look2 look1 CS.start
  rw [List.length_map, rnd_can (f := CS.alone) (g := CS.alone) (fun c i S => by unfold CS.alone; rw [svc_wrong]), rnd_can (f := CS.learn) (g := CS.learn) (fun c i S => rfl), rnd_can (f := CS.follow (P.map SV.can)) (g := CS.follow P) (fun c i S => follow_can P c i S)]
end Go.Proofs.YtpkmamgleofimaaGreatDoor
