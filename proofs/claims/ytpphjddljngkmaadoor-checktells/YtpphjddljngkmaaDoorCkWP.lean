/- What is come to: from one statement. -/
import Derived.Test.YtpphjddljngkmaaDoorCkVP
namespace Go.Proofs.YtpphjddljngkmaaDoor
open Go.RowKit

theorem foldl_flat {α β γ : Type} (f : γ → β → γ) (g : α → List β) : ∀ (l : List α) (b : γ), (l.flatMap g).foldl f b = l.foldl (fun b a => (g a).foldl f b) b
  | [], _ => rfl
  | x :: l, b => by rw [List.flatMap_cons, List.foldl_append, List.foldl_cons]; exact foldl_flat f g l _
theorem goOn_each {B z bl bf n : Nat} {V : PV} {P : List SV} {c : CS} {wb rb N : Nat} (S : SV) (w w8 : World) (T : PT) (q1 : List Bool × List Nat) (hB : Stay B w w8) (h8 : WkM B z bl bf n (V.v P.length) c wb rb N q1 w8) (hS : ∀ W, Below B w W → S.In W) (hE : Env B w V P) (hG : Good P P.length c) (hP : P.length ≤ 1000) (hTI : ∀ W, KE w8 W → S.In W → T.In W) :
    Calls Tryd.prog 37 #[.slice T.xa T.len T.cap, .func (.func 48) #[.pointer (some ⟨wb, 0, none⟩)] #[]] w8 fun e w' => e = .returned (.tuple #[]) ∧ WkM B z bl bf n (V.v P.length) c wb rb N (T.clls.foldl (fun q T => (entN P c T).foldl comeN q) q1) w' ∧ Stay B w w' := by
  refine (each_anyE (fun q W => WkM B z bl bf n (V.v P.length) c wb rb N q W ∧ Stay B w8 W) (fun q T => (entN P c T).foldl comeN q) _ (fun q W o r => ⟨r.1.later ((Below.refl _ _).alloc (Nat.le_refl _) _), r.2.trans (Stay.below ((Below.refl _ _).alloc (Nat.le_refl _) _) r.1.ck.le)⟩) (fun q W X r hX _ => ?_) T q1 w8 (fun q W r => hTI W r.2.exp (hS W (hB.old.trans r.2.old))) ⟨h8, Stay.refl _ _⟩).mono fun e w' r => ⟨r.1, r.2.1, hB.trans r.2.2⟩
  exact (enter_any X W hX (hE.next (hB.old.trans r.2.old)) r.1 hG hP).mono fun e w' s => ⟨s.1, ⟨s.2.1, r.2.trans s.2.2⟩, s.2.2.exp⟩
set_option maxRecDepth 100000 in
set_option maxHeartbeats 4000000 in
theorem goOn_any {B z bl bf n : Nat} {V : PV} {P : List SV} {c : CS} {wb rb N : Nat} {q : List Bool × List Nat} (w : World) (i : Nat) (S : SV) (hi : P[i]? = some S) (hE : Env B w V P) (h : WkM B z bl bf n (V.v P.length) c wb rb N q w) (hG : Good P P.length c) (hP : P.length ≤ 1000) :
    Calls Tryd.prog 31 #[.pointer (some ⟨wb, 0, none⟩), .int .i64 (i : Int)] w (ComePost B z bl bf n (V.v P.length) c wb rb N ((nxtAt P c i).foldl comeN q) w) := by
  have hil : i < P.length := (List.getElem?_eq_some_iff.1 hi).1
  have hBw := h.ck.le
  have HS := hide (hE.stmt hi)
  have HE := hide hE
  have HG := hide hG
  have htx := (hE.stmt hi w (Below.refl _ _)).txt
  have HQ := hide (show (nxtAt P c i).foldl comeN q = (callsL S.exs).foldl (fun q T => (entN P c T).foldl comeN q) ((S.goN c.fl i).foldl comeN q) by unfold nxtAt; rw [hi]; show (S.goN c.fl i ++ (callsL S.exs).flatMap (entN P c)).foldl comeN q = _; rw [List.foldl_append, foldl_flat])
  have HGN := hide (show S.goN c.fl i = if S.al.toList.isEmpty = false then leadN c.fl i S.al else leadN c.fl i S.ye ++ (if canF S.k = true then leadN c.fl i S.no else []) from rfl)
  have HEX := hide (fun W => exprs_any S W)
  unfold SV.v at HEX
  have HCC := hide (show S.cells.toList[1]? = some (.int .i64 S.k) ∧ S.cells.toList[21]? = some (.string S.al) ∧ S.cells.toList[22]? = some (.string S.ye) ∧ S.cells.toList[23]? = some (.string S.no) from ⟨rfl, rfl, rfl, rfl⟩)
  have hpm := hE.prog w (Below.refl _ _)
  have hat := hpm.at_ (by omega)
  have HRG := hide (hpm.row i S hi).1
  have HON := hide (sv_one S)
  have hD24 : S.cells.toList.length = 24 := sv_size S
  obtain ⟨L, hL⟩ : ∃ L, L = S.cells.toList := ⟨_, rfl⟩
  have hLa : S.cells = L.toArray := by rw [hL]
  rw [← hL] at HRG hD24 HCC
  rw [hLa] at HON HEX
  have hix : ∀ w, (Instr.indexAt 22 (V.v P.length) (.int .i64 (i : Int))).run Tryd.prog w = .ok (.pointer (some ⟨V.gb, V.ob + i * 24, none⟩)) w := fun w => by unfold PV.v; rw [hat]; exact idx24 hil w
  obtain ⟨w1, hw1⟩ : ∃ w1, w1 = w.alloc (.cells L.toArray 49) := ⟨_, rfl⟩
  have hb1 : Below w.heap.size w w1 := by rw [hw1]; exact (Below.refl _ _).alloc (Nat.le_refl _) _
  have hr1 : w1.heap[w.heap.size]? = some (.cells L.toArray 49 (0, 0)) := by rw [hw1]; exact at_new rfl
  have HW1 := hide (h.later hb1)
  have HB1 := hide (Stay.below hb1 hBw)
  have HR1 := hide hr1
  have HRW := hide hw1
  have c0 := h.c0
  have z4 := h.ck.c4
  have d1 : w1.cell? ⟨w.heap.size, 1, none⟩ = some (.int .i64 S.k) := by rw [cell_of_row _ _ _ _ _ _ hr1, List.getElem?_toArray]; exact (unhide HCC).1
  have d21 : w1.cell? ⟨w.heap.size, 21, none⟩ = some (.string S.al) := by rw [cell_of_row _ _ _ _ _ _ hr1, List.getElem?_toArray]; exact (unhide HCC).2.1
  have d22 : w1.cell? ⟨w.heap.size, 22, none⟩ = some (.string S.ye) := by rw [cell_of_row _ _ _ _ _ _ hr1, List.getElem?_toArray]; exact (unhide HCC).2.2.1
  clear h hE hG hi hpm hat hL hLa hb1 hr1 hw1
  go_enter Tryd.func31, Tryd.ntmps31
  go_upto_if 17 with (first
    | (refine wpList_load_mid rfl 49 _ rfl V.gb (V.ob + i * 24) rfl L _ (unhide HRG) Tryd.underlying49 rfl (size_stmt.trans (by rw [hD24])) ?_)
    | (refine wpList_store_row rfl 49 _ _ rfl w.heap.size L.toArray rfl rfl 49 _ (at_new rfl) (size_stmt.trans (by rw [show L.toArray.size = 24 from List.size_toArray.trans hD24])) (by rw [show L.toArray.size = 24 from List.size_toArray.trans hD24]; rfl) (unhide HON) ?_; rw [World.setRow_alloc_new]; rw [show w.alloc (.cells L.toArray 49) = w1 from (unhide HRW).symm])
    | fail)
  go_cut [] from 17 (fun wx => Hid (WkM B z bl bf n (V.v P.length) c wb rb N ((S.goN c.fl i).foldl comeN q) wx ∧ Stay B w1 wx))
  case first =>
    have HLD := hide (fun (q' : List Bool × List Nat) (t : ByteArray) W (h : WkM B z bl bf n (V.v P.length) c wb rb N q' W) (ht : t.size ≤ maxLen) => lead_any W t i h (unhide HG) hP (by omega) ht)
    have HCF := hide (fun W => canFail_any S.k W)
    cases he : S.al.toList.isEmpty
    · have HQ1 := hide (show (S.goN c.fl i).foldl comeN q = (leadN c.fl i S.al).foldl comeN q by rw [unhide HGN, if_pos he])
      have HL1 := hide (unhide HLD q S.al w1 (unhide HW1) htx.2.2.2.1)
      generalize (S.goN c.fl i).foldl comeN q = qq at *
      generalize (leadN c.fl i S.al).foldl comeN q = q1 at *
      go_wp2_with fail
      refine (unhide HL1).mono ?_
      rintro e w2 ⟨rfl, hM2, hs2⟩
      have HZ := hide (show WkM B z bl bf n (V.v P.length) c wb rb N qq w2 ∧ Stay B w1 w2 from ⟨by rw [unhide HQ1]; exact hM2, hs2⟩)
      clear hM2 hs2
      go_wp2_with fail
      go_meet
      case rel => exact unhide HZ
    · have HL1 := hide (unhide HLD q S.ye w1 (unhide HW1) htx.2.2.2.2.1)
      cases hcf : canF S.k
      · have HQ1 := hide (show (S.goN c.fl i).foldl comeN q = (leadN c.fl i S.ye).foldl comeN q by rw [unhide HGN, if_neg (by rw [he]; decide), hcf, if_neg (by decide), List.append_nil])
        simp only [hcf] at HCF
        generalize (S.goN c.fl i).foldl comeN q = qq at *
        generalize (leadN c.fl i S.ye).foldl comeN q = q1 at *
        go_wp2_with fail
        refine (unhide HL1).mono ?_
        rintro e w2 ⟨rfl, hM2, hs2⟩
        have e1 : w2.cell? ⟨w.heap.size, 1, none⟩ = some (.int .i64 S.k) := by rw [cell_of_row _ _ _ _ _ _ (hs2.stm _ _ (unhide HR1)), List.getElem?_toArray]; exact (unhide HCC).1
        have HZ := hide (show WkM B z bl bf n (V.v P.length) c wb rb N qq w2 ∧ Stay B w1 w2 from ⟨by rw [unhide HQ1]; exact hM2, hs2⟩)
        clear hM2 hs2
        go_wp2_with (first
          | (go_at_call 47; refine (unhide HCF _).mono ?_; rintro e w2 ⟨rfl, rfl⟩)
          | fail)
        go_meet
        case rel => exact unhide HZ
      · have HQ1 := hide (show (S.goN c.fl i).foldl comeN q = (leadN c.fl i S.no).foldl comeN ((leadN c.fl i S.ye).foldl comeN q) by rw [unhide HGN, if_neg (by rw [he]; decide), hcf, if_pos rfl, List.foldl_append])
        simp only [hcf] at HCF
        generalize (S.goN c.fl i).foldl comeN q = qq at *
        generalize (leadN c.fl i S.ye).foldl comeN q = q1 at *
        go_wp2_with fail
        refine (unhide HL1).mono ?_
        rintro e w2 ⟨rfl, hM2, hs2⟩
        have e1 : w2.cell? ⟨w.heap.size, 1, none⟩ = some (.int .i64 S.k) := by rw [cell_of_row _ _ _ _ _ _ (hs2.stm _ _ (unhide HR1)), List.getElem?_toArray]; exact (unhide HCC).1
        have e23 : w2.cell? ⟨w.heap.size, 23, none⟩ = some (.string S.no) := by rw [cell_of_row _ _ _ _ _ _ (hs2.stm _ _ (unhide HR1)), List.getElem?_toArray]; exact (unhide HCC).2.2.2
        have HL2 := hide (unhide HLD q1 S.no w2 hM2 htx.2.2.2.2.2)
        have HS2 := hide hs2
        generalize (leadN c.fl i S.no).foldl comeN q1 = q2 at *
        clear hM2 hs2
        go_wp2_with (first
          | (go_at_call 47; refine (unhide HCF _).mono ?_; rintro e w2 ⟨rfl, rfl⟩)
          | fail)
        refine (unhide HL2).mono ?_
        rintro e w3 ⟨rfl, hM3, hs3⟩
        have HZ := hide (show WkM B z bl bf n (V.v P.length) c wb rb N qq w3 ∧ Stay B w1 w3 from ⟨by rw [unhide HQ1]; exact hM3, (unhide HS2).trans hs3⟩)
        clear hM3 hs3
        go_wp2_with fail
        go_meet
        case rel => exact unhide HZ
  case rest =>
    have hr := (unhide hcut).2.stm _ _ (unhide HR1)
    have hmf : ∀ (fn : Fn) (first cap : Array Value) (w : World), (Instr.makeFunc fn first cap).run Tryd.prog w = .ok (.func fn first cap) w := fun _ _ _ _ => rfl
    generalize (S.goN c.fl i).foldl comeN q = q1 at *
    clear d1 d21 d22
    go_wp2_with (first
      | (refine wpList_load_row rfl 49 _ rfl w.heap.size rfl 49 L.toArray (0, 0) _ hr Tryd.underlying49 rfl (size_stmt.trans (by rw [show L.toArray.size = 24 from List.size_toArray.trans hD24])) ?_)
      | fail)
    refine (unhide HEX _).mono ?_
    rintro e w8 ⟨T, rfl, hcl, hb8, hTI⟩
    have HEA := hide (goOn_each S w w8 T q1 ((unhide HB1).trans ((unhide hcut).2.trans (Stay.below hb8 (unhide hcut).1.ck.le))) ((unhide hcut).1.later hb8) (unhide HS) (unhide HE) (unhide HG) hP hTI)
    have HCL := hide hcl
    clear hcl hb8 hTI hr
    go_wp2_with fail
    refine (unhide HEA).mono ?_
    rintro e w9 ⟨rfl, hM9, hs9⟩
    have HZ9 := hide (show WkM B z bl bf n (V.v P.length) c wb rb N ((nxtAt P c i).foldl comeN q) w9 ∧ Stay B w w9 from ⟨by rw [unhide HQ, ← unhide HCL]; exact hM9, hs9⟩)
    clear hM9 hs9
    go_wp2_with fail
    go_end0
    exact ⟨rfl, unhide HZ9⟩
end Go.Proofs.YtpphjddljngkmaaDoor
