/- The checker: where a statement's names lead. -/
import Derived.Test.YtpphjddljngkmaaDoorCkQP
import Derived.Deep.CutRange
namespace Go.Proofs.YtpphjddljngkmaaDoor
open Go.RowKit

theorem but_KE {B z bl bf n : Nat} {pv : Value} {c : CS} {w w' : World} (h : CkM B z bl bf n pv c w) (hb : But z w w') : KE w w' := fun k r hk => hb.row (fun e => by
  have hz := h.chk.blk
  rw [← e, hk] at hz
  injection hz with hz
  injection hz with _ hz
  exact absurd hz (by decide)) hk
theorem folL_step {c : CS} {i : Int} {l : List ByteArray} {k : Nat} {t : ByteArray} (h : l[k]? = some t) : (l.take (k + 1)).foldl (CS.folL i) c = CS.folL i ((l.take k).foldl (CS.folL i) c) t := by
  rw [List.take_add_one, h, List.foldl_append]; rfl
theorem folL_fl (i : Int) (l : List ByteArray) (c : CS) : (l.foldl (CS.folL i) c).fl = c.fl ∧ (l.foldl (CS.folL i) c).ff = c.ff := foldl_fl (fun c _ => tellIf_fl c _ _ _) l c
theorem follow_each {f : CS → PT → CS} (S : SV) (w w2 w8 : World) (T : PT) (c c4 : CS) {B z bl bf n i : Nat} {V : PV} {P : List SV} {pvv : Value} (hb2 : Below w.heap.size w w2) (hB8 : But z w2 w8) (hM8 : CkM B z bl bf n pvv c4 w8) (hBw : B ≤ w.heap.size) (hzw : z < w.heap.size)
    (hx : w8.heap[w.heap.size]? = some (.cells #[.pointer (some ⟨z, 0, none⟩)] 39 (0, 0))) (hy : w8.heap[w.heap.size + 1]? = some (.cells #[.int .i64 (i : Int)] 3 (0, 0)))
    (hS : ∀ W, Below B w W → S.In W) (hE : Env B w V P) (hG : Good P P.length c) (hG4 : c4.fl = c.fl ∧ c4.ff = c.ff) (hpv : pvv = V.v P.length) (hTI : ∀ W, KE w8 W → S.In W → T.In W) (hf : f = CS.folC P (i : Int)) :
    Calls Tryd.prog 37 #[.slice T.xa T.len T.cap, .func (.func 39) #[] #[.pointer (some ⟨w.heap.size, 0, none⟩), .pointer (some ⟨w.heap.size + 1, 0, none⟩)]] w8 fun e w' => e = .returned (.tuple #[]) ∧ CkM B z bl bf n pvv (T.clls.foldl f c4) w' ∧ Below B w w' := by
  subst hf hpv
  have hBl : ∀ W, But z w8 W → Below B w W := fun W q => (hb2.mono hBw).trans ((hB8.trans q).belowB hM8.oz (by have := hb2.size; omega))
  refine (each_anyF (fun c' W => CkM B z bl bf n (V.v P.length) c' W ∧ But z w8 W ∧ c'.fl = c.fl ∧ c'.ff = c.ff) (CS.folC P (i : Int)) _ _ (fun c' W o q => ⟨q.1.later (ba _), q.2.1.alloc o, q.2.2⟩) (fun c' W X q hX _ => ?_) T c4 w8 (fun c' W q => hTI W (but_KE hM8 q.2.1) (hS W (hBl W q.2.1))) ⟨hM8, But.refl _ _, hG4⟩).mono fun e w' q => ⟨q.1, q.2.1, hBl w' q.2.2.1⟩
  refine (folC_any X W B z bl bf n w.heap.size (w.heap.size + 1) i V P c' hX (hE.next (hBl W q.2.1)) q.1 (hG.of q.2.2.1 q.2.2.2) ?_ ?_).mono fun e w' r => ⟨r.1, ⟨r.2.1, q.2.1.trans r.2.2, q.2.2⟩, but_KE q.1 r.2.2⟩
  · rw [cell_of_row _ _ _ _ _ _ (q.2.1.row (by omega) hx)]; rfl
  · rw [cell_of_row _ _ _ _ _ _ (q.2.1.row (by omega) hy)]; rfl
set_option maxRecDepth 100000 in
set_option maxHeartbeats 8000000 in
theorem follow_any (S : SV) (w : World) (B z bl bf n i : Nat) (V : PV) (P : List SV) (c : CS) (hS : ∀ W, Below B w W → S.In W) (hE : Env B w V P) (hM : CkM B z bl bf n (V.v P.length) c w) (hG : Good P P.length c) :
    Calls Tryd.prog 24 #[.pointer (some ⟨z, 0, none⟩), .int .i64 (i : Int), S.v] w fun e w' => e = .returned (.tuple #[]) ∧ CkM B z bl bf n (V.v P.length) (c.follow P (i : Int) S) w' ∧ Below B w w' := by
  have hBw := hM.le
  have hzw : z < w.heap.size := hM.zlt
  have htx := (hS w (Below.refl _ _)).txt
  have HS := hide hS
  have HE := hide hE
  have HM := hide hM
  have HG := hide hG
  have HF : Hid (c.follow P (i : Int) S = (callsL S.exs).foldl (CS.folC P (i : Int)) (([S.al, S.ye, S.no].foldl (CS.folL (i : Int)) c).folD (i : Int) S)) := hide (rfl)
  have HEX := hide (fun W => exprs_any S W)
  unfold SV.v at HEX ⊢
  have HCC : Hid (S.cells[1]? = some (.int .i64 S.k) ∧ S.cells[18]? = some (.string S.en) ∧ S.cells[21]? = some (.string S.al) ∧ S.cells[22]? = some (.string S.ye) ∧ S.cells[23]? = some (.string S.no)) := hide (⟨rfl, rfl, rfl, rfl, rfl⟩)
  have hC24 := sv_size S
  generalize S.cells = C at *
  obtain ⟨e1, e18, e21, e22, e23⟩ := unhide HCC
  obtain ⟨_, f21⟩ := Array.getElem?_eq_some_iff.1 e21
  obtain ⟨_, f22⟩ := Array.getElem?_eq_some_iff.1 e22
  obtain ⟨_, f23⟩ := Array.getElem?_eq_some_iff.1 e23
  obtain ⟨lbs, hlbs⟩ : ∃ lbs : List ByteArray, lbs = [S.al, S.ye, S.no] := ⟨_, rfl⟩
  obtain ⟨w2, hw2⟩ : ∃ w2, w2 = (((w.alloc (.cells #[.pointer (some ⟨z, 0, none⟩)] 39)).alloc (.cells #[.int .i64 (i : Int)] 3)).alloc (.cells C 49)).alloc (.cells #[.string S.al, .string S.ye, .string S.no] 9) := ⟨_, rfl⟩
  have hb2 : Below w.heap.size w w2 := by rw [hw2]; exact (((ba _).alloc (by rw [World.size_alloc]; omega) _).alloc (by rw [World.size_alloc, World.size_alloc]; omega) _).alloc (by rw [World.size_alloc, World.size_alloc, World.size_alloc]; omega) _
  have hz2 : w2.heap.size = w.heap.size + 4 := by rw [hw2]; simp only [World.size_alloc]
  have x0 : w2.heap[w.heap.size]? = some (.cells #[.pointer (some ⟨z, 0, none⟩)] 39 (0, 0)) := by rw [hw2]; exact at_old (by simp only [World.size_alloc]; omega) (at_old (by simp only [World.size_alloc]; omega) (at_old (by simp only [World.size_alloc]; omega) (at_new rfl)))
  have x1 : w2.heap[w.heap.size + 1]? = some (.cells #[.int .i64 (i : Int)] 3 (0, 0)) := by rw [hw2]; exact at_old (by simp only [World.size_alloc]; omega) (at_old (by simp only [World.size_alloc]; omega) (at_new (by simp only [World.size_alloc])))
  have x2 : w2.heap[w.heap.size + 2]? = some (.cells C 49 (0, 0)) := by rw [hw2]; exact at_old (by simp only [World.size_alloc]; omega) (at_new (by simp only [World.size_alloc]))
  have x3 : w2.heap[w.heap.size + 3]? = some (.cells #[.string S.al, .string S.ye, .string S.no] 9 (0, 0)) := by rw [hw2]; exact at_new (by simp only [World.size_alloc])
  have hz0 : w.heap.size ≠ z := by omega
  have hz1 : w.heap.size + 1 ≠ z := by omega
  have HX0 := hide (fun W (q : But z w2 W) => q.row hz0 x0)
  have HX1 := hide (fun W (q : But z w2 W) => q.row hz1 x1)
  have HX2 := hide (fun W (q : But z w2 W) => q.row (show w.heap.size + 2 ≠ z by omega) x2)
  have HX3 := hide (fun W (q : But z w2 W) => q.row (show w.heap.size + 3 ≠ z by omega) x3)
  have HM2 := hide (hM.later hb2)
  have HB2 := hide hb2
  have HRW := hide hw2
  have HL3 : Hid (lbs.length = 3) := hide (by rw [hlbs]; rfl)
  have HLC : Hid (∀ W, But z w2 W → ∀ (k : Nat) t, lbs[k]? = some t → W.cell? ⟨w.heap.size + 3, k, none⟩ = some (.string t) ∧ t.size ≤ maxLen) := hide (fun W q k t ht => by
    rw [cell_of_row _ _ _ _ _ _ (unhide HX3 W q)]
    rw [hlbs] at ht
    have hk : k < 3 := (List.getElem?_eq_some_iff.1 ht).1
    have : k = 0 ∨ k = 1 ∨ k = 2 := by omega
    rcases this with rfl | rfl | rfl
    · have : S.al = t := by simpa using ht
      subst this; exact ⟨rfl, htx.2.2.2.1⟩
    · have : S.ye = t := by simpa using ht
      subst this; exact ⟨rfl, htx.2.2.2.2.1⟩
    · have : S.no = t := by simpa using ht
      subst this; exact ⟨rfl, htx.2.2.2.2.2⟩)
  have HLB := hide hlbs
  have HLO := hide (fun t W => leadsOut_any t W)
  obtain ⟨pvv, hpvv⟩ : ∃ pvv, pvv = V.v P.length := ⟨_, rfl⟩
  rw [← hpvv] at HM HM2 ⊢
  have HPV := hide hpvv
  have HIL := hide (fun (c' : CS) (t : ByteArray) W (h : CkM B z bl bf n pvv c' W) (ht : t.size ≤ maxLen) => isLabel_any (o := 2) h.c2 h.lab ht)
  have hen := htx.2.2.1
  clear hM hS hE hG hb2 hw2 x0 x1 x2 x3 hz2 htx hlbs hpvv
  go_enter Tryd.func24, Tryd.ntmps24
  go_wp2_with fail
  rw [show (((w.alloc (.cells #[.pointer (some ⟨z, 0, none⟩)] 39)).alloc (.cells #[.int .i64 (i : Int)] 3)).alloc (.cells C 49)).alloc (.cells #[.string S.al, .string S.ye, .string S.no] 9) = w2 from (unhide HRW).symm]
  go_loopw [16] (fun j wr => ∃ k : Nat, k ≤ 3 ∧ j = .int .i64 (k : Int) ∧ Hid (CkM B z bl bf n pvv ((lbs.take k).foldl (CS.folL (i : Int)) c) wr ∧ But z w2 wr)) (fun j _ => 3 - (intOf j).toNat)
  case atStart => exact ⟨0, by omega, rfl, unhide HM2, But.refl _ _⟩
  case round =>
    obtain ⟨k, hk, rfl, HI⟩ := hrel
    rcases Nat.lt_or_ge k 3 with hlt | hge
    · obtain ⟨t, ht⟩ : ∃ t, lbs[k]? = some t := ⟨lbs[k]'(by have := unhide HL3; omega), List.getElem?_eq_getElem _⟩
      obtain ⟨ct, hts⟩ := unhide HLC wr (unhide HI).2 k t ht
      have HST := hide (folL_step (c := c) (i := (i : Int)) ht)
      have hix := sl_idx (g := w.heap.size + 3) (o := 0) (cap := 3) (i := k) (n := 3) Tryd.underlying47 size_strS hlt
      rw [Nat.zero_add] at hix
      have cx : wr.cell? ⟨w.heap.size, 0, none⟩ = some (.pointer (some ⟨z, 0, none⟩)) := (cell_of_row _ _ _ _ _ _ (unhide HX0 wr (unhide HI).2)).trans rfl
      have z2 := (unhide HI).1.c2
      clear ht
      have HIL2 := hide (fun W (h : CkM B z bl bf n pvv ((lbs.take k).foldl (CS.folL (i : Int)) c) W) => unhide HIL _ t W h hts)
      have HLO2 := hide (unhide HLO t)
      have hkk : (k : Int) < 3 := by omega
      generalize (lbs.take k).foldl (CS.folL (i : Int)) c = c1 at *
      generalize hnn : (lbs.take (k + 1)).foldl (CS.folL (i : Int)) c = c2 at *
      have HNN := hide hnn
      clear hnn
      cases he : t.toList.isEmpty
      · cases hlo : lout t
        · simp only [hlo] at HLO2
          cases hla : (c1.fl t).isSome
          · simp only [hla] at HIL2
            have HC2 : Hid (c2 = c1.tell 6 (i : Int)) := hide (by rw [unhide HST, CS.folL, CS.tellIf, if_pos (by unfold lbB; rw [he, hlo, hla]; rfl)])
            clear HST hla
            go_wp2_with (first
              | (go_at_call 33; refine (unhide HLO2 _).mono ?_; rintro e wr ⟨rfl, rfl⟩)
              | (go_at_call 34; refine (unhide HIL2 _ (unhide HI).1).mono ?_; rintro e wr ⟨rfl, rfl⟩)
              | fail)
            have hT9 : CkM B z bl bf n pvv c1 wr := (unhide HI).1
            have hS : But z wr (wr).drew := But.of_below (Below.refl _ _).drew
            have HKX := hide (fun W (q : But z wr W) => (q.row hz0 (unhide HX0 wr ((unhide HI).2)) : W.heap[w.heap.size]? = some (.cells #[.pointer (some ⟨z, 0, none⟩)] 39 (0, 0))))
            have HKY := hide (fun W (q : But z wr W) => (q.row hz1 (unhide HX1 wr ((unhide HI).2)) : W.heap[w.heap.size + 1]? = some (.cells #[.int .i64 (i : Int)] 3 (0, 0))))
            refine startQ 4 (fun W => But z wr W) ?_
            intro F
            refine takeE F (i := 0) (oi := _) (v := ?v0t) rfl (by kernel_rfl) (by kernel_rfl) (by rfl) (fun _ _ _ h => h) hS (Or.inl ⟨by rfl, ?y0t⟩) ?r0t
            case y0t => (intro w9 hSw; have g : w9.cell? ⟨w.heap.size, 0, none⟩ = some (.pointer (some ⟨z, 0, none⟩)) := (cell_of_row _ _ _ _ _ _ (unhide HKX w9 hSw)).trans rfl; (go_simp <;> (try with_reducible rfl)))
            (try simp only [List.getElem_toArray, List.getElem_cons_zero])
            (try go_frame)
            refine takeE F (i := 1) (oi := _) (v := ?v1t) rfl (by kernel_rfl) (by kernel_rfl) (by rfl) (fun _ _ _ h => h) hS (Or.inl ⟨by rfl, ?y1t⟩) ?r1t
            case y1t => (intro w9 hSw; (go_simp <;> (try with_reducible rfl)))
            (try simp only [List.getElem_toArray, List.getElem_cons_succ, List.getElem_cons_zero])
            (try go_frame)
            refine takeE F (i := 2) (oi := _) (v := ?v2t) rfl (by kernel_rfl) (by kernel_rfl) (by rfl) (fun _ _ _ h => h) hS (Or.inl ⟨by rfl, ?y2t⟩) ?r2t
            case y2t => (intro w9 hSw; (go_simp <;> (try with_reducible rfl)))
            (try simp only [List.getElem_toArray, List.getElem_cons_succ, List.getElem_cons_zero])
            (try go_frame)
            refine takeE F (i := 3) (oi := _) (v := ?v3t) rfl (by kernel_rfl) (by kernel_rfl) (by rfl) (fun _ _ _ h => h) hS (Or.inl ⟨by rfl, ?y3t⟩) ?r3t
            case y3t => (intro w9 hSw; have g : w9.cell? ⟨w.heap.size + 1, 0, none⟩ = some (.int .i64 (i : Int)) := (cell_of_row _ _ _ _ _ _ (unhide HKY w9 hSw)).trans rfl; (go_simp <;> (try with_reducible rfl)))
            (try simp only [List.getElem_toArray, List.getElem_cons_succ, List.getElem_cons_zero])
            (try go_frame)
            refine lastE (by kernel_rfl) rfl (by kernel_rfl) (fun K4 hK4 => ?_)
            go_simp
            refine (tell_M (hT9.same (show (wr).drew.heap = (wr).heap from rfl)) 6 (i : Int)).mono ?_
            rintro e w6 ⟨rfl, hb6, hM6⟩
            refine hK4 _ _ ?_
            (try go_frame)
            have hb7 := hS.trans hb6
            clear hb6 hK4 hS F HKX HKY hT9
            have HZ : Hid (CkM B z bl bf n pvv c2 w6 ∧ But z w2 w6) := hide (⟨by rw [unhide HC2]; exact hM6, (unhide HI).2.trans hb7⟩)
            clear hM6 hb7
            go_wp2_with fail
            exact ⟨⟨k + 1, by omega, by go_num, by rw [unhide HNN]; exact unhide HZ⟩, by simp [intOf]; omega⟩
          · simp only [hla] at HIL2
            have HC2 : Hid (c2 = c1) := hide (by rw [unhide HST, CS.folL, CS.tellIf, if_neg (by unfold lbB; rw [he, hlo, hla]; decide)])
            clear HST hla
            go_wp2_with (first
              | (go_at_call 33; refine (unhide HLO2 _).mono ?_; rintro e wr ⟨rfl, rfl⟩)
              | (go_at_call 34; refine (unhide HIL2 _ (unhide HI).1).mono ?_; rintro e wr ⟨rfl, rfl⟩)
              | fail)
            exact ⟨⟨k + 1, by omega, by go_num, by rw [unhide HNN, unhide HC2]; exact unhide HI⟩, by simp [intOf]; omega⟩
        · simp only [hlo] at HLO2
          have HC2 : Hid (c2 = c1) := hide (by rw [unhide HST, CS.folL, CS.tellIf, if_neg (by unfold lbB; rw [he, hlo]; simp)])
          clear HST
          go_wp2_with (first
            | (go_at_call 33; refine (unhide HLO2 _).mono ?_; rintro e wr ⟨rfl, rfl⟩)
            | (go_at_call 34; refine (unhide HIL2 _ (unhide HI).1).mono ?_; rintro e wr ⟨rfl, rfl⟩)
            | fail)
          exact ⟨⟨k + 1, by omega, by go_num, by rw [unhide HNN, unhide HC2]; exact unhide HI⟩, by simp [intOf]; omega⟩
      · have HC2 : Hid (c2 = c1) := hide (by rw [unhide HST, CS.folL, CS.tellIf, if_neg (by unfold lbB; rw [he]; simp)])
        clear HST
        go_wp2_with fail
        exact ⟨⟨k + 1, by omega, by go_num, by rw [unhide HNN, unhide HC2]; exact unhide HI⟩, by simp [intOf]; omega⟩
    · obtain rfl : k = 3 := by omega
      have hta : lbs.take 3 = lbs := List.take_of_length_le (by rw [unhide HL3]; exact Nat.le_refl _)
      rw [hta] at HI
      have HF2 : Hid (c.follow P (i : Int) S = (callsL S.exs).foldl (CS.folC P (i : Int)) ((lbs.foldl (CS.folL (i : Int)) c).folD (i : Int) S)) := hide (by rw [unhide HF, unhide HLB])
      have HFL := hide (folL_fl (i : Int) lbs c)
      generalize lbs.foldl (CS.folL (i : Int)) c = c3 at *
      have HD : Hid (c3.folD (i : Int) S = c3.tellIf (decide (S.k = 7) && !(c3.fl S.en).isSome) 6 (i : Int)) := hide (rfl)
      have d1 : wr.cell? ⟨w.heap.size + 2, 1, none⟩ = some (.int .i64 S.k) := (cell_of_row _ _ _ _ _ _ (unhide HX2 wr (unhide HI).2)).trans e1
      have d18 : wr.cell? ⟨w.heap.size + 2, 18, none⟩ = some (.string S.en) := (cell_of_row _ _ _ _ _ _ (unhide HX2 wr (unhide HI).2)).trans e18
      have cx : wr.cell? ⟨w.heap.size, 0, none⟩ = some (.pointer (some ⟨z, 0, none⟩)) := (cell_of_row _ _ _ _ _ _ (unhide HX0 wr (unhide HI).2)).trans rfl
      have z2 := (unhide HI).1.c2
      have HIL2 := hide (fun W (h : CkM B z bl bf n pvv c3 W) => unhide HIL c3 S.en W h hen)
      clear hta HF HLO HLC f21 f22 f23
      go_upto_region 7 with fail
      go_cut [52] from 41 (fun s52 wx => s52 = .bool (decide (S.k = 7) && !(c3.fl S.en).isSome) ∧ Hid (CkM B z bl bf n pvv c3 wx ∧ But z w2 wx))
      case first =>
        by_cases hk7 : S.k = 7
        · have q7 : (S.k == 7) = true := bt hk7
          have HBB : Hid ((decide (S.k = 7) && !(c3.fl S.en).isSome) = !(c3.fl S.en).isSome) := hide (by rw [decide_eq_true hk7, Bool.true_and])
          clear hk7
          cases hla : (c3.fl S.en).isSome
          · simp only [hla] at HIL2
            go_quiet (first
              | (go_at_call 34; exact Calls.quiet_of_same (unhide HIL2 _ ((unhide HI).1.same (World.heap_drewN _ _)))))
            have HZ : Hid (CkM B z bl bf n pvv c3 (wr.drewN nq) ∧ But z w2 (wr.drewN nq)) := hide (⟨(unhide HI).1.same (World.heap_drewN _ _), (unhide HI).2.trans (But.of_below (below_drewN (Below.refl _ _) nq))⟩)
            go_wp2_with fail
            go_meet
            case rel => exact ⟨by rw [unhide HBB, hla]; rfl, unhide HZ⟩
          · simp only [hla] at HIL2
            go_quiet (first
              | (go_at_call 34; exact Calls.quiet_of_same (unhide HIL2 _ ((unhide HI).1.same (World.heap_drewN _ _)))))
            have HZ : Hid (CkM B z bl bf n pvv c3 (wr.drewN nq) ∧ But z w2 (wr.drewN nq)) := hide (⟨(unhide HI).1.same (World.heap_drewN _ _), (unhide HI).2.trans (But.of_below (below_drewN (Below.refl _ _) nq))⟩)
            go_wp2_with fail
            go_meet
            case rel => exact ⟨by rw [unhide HBB, hla]; rfl, unhide HZ⟩
        · have q7 : (S.k == 7) = false := bn hk7
          have HBB : Hid ((decide (S.k = 7) && !(c3.fl S.en).isSome) = false) := hide (by rw [decide_eq_false hk7, Bool.false_and])
          clear hk7
          go_quiet (first
            | (go_at_call 34; exact Calls.quiet_of_same (unhide HIL2 _ ((unhide HI).1.same (World.heap_drewN _ _)))))
          have HZ : Hid (CkM B z bl bf n pvv c3 (wr.drewN nq) ∧ But z w2 (wr.drewN nq)) := hide (⟨(unhide HI).1.same (World.heap_drewN _ _), (unhide HI).2.trans (But.of_below (below_drewN (Below.refl _ _) nq))⟩)
          go_wp2_with fail
          go_meet
          case rel => exact ⟨by rw [unhide HBB], unhide HZ⟩
      case rest =>
        obtain ⟨rfl, HJ⟩ := hcut
        clear d1 d18 cx z2 HIL2 HI
        cases hbb : (decide (S.k = 7) && !(c3.fl S.en).isSome)
        · have HC4 : Hid (c3.folD (i : Int) S = c3) := hide (by rw [unhide HD, hbb]; rfl)
          have HW4 : Hid (CkM B z bl bf n pvv (c3.folD (i : Int) S) wc ∧ But z w2 wc) := hide (by rw [unhide HC4]; exact unhide HJ)
          have hmf : ∀ (fn : Fn) (first cap : Array Value) (w : World), (Instr.makeFunc fn first cap).run Tryd.prog w = .ok (.func fn first cap) w := fun _ _ _ _ => rfl
          have hr := unhide HX2 wc (unhide HJ).2
          have HG4 : Hid ((c3.folD (i : Int) S).fl = c.fl ∧ (c3.folD (i : Int) S).ff = c.ff) := hide (⟨(tellIf_fl c3 _ _ _).1.trans (unhide HFL).1, (tellIf_fl c3 _ _ _).2.trans (unhide HFL).2⟩)
          generalize c3.folD (i : Int) S = c4 at *
          go_wp2_with (first
            | (refine wpList_load_row rfl 49 _ rfl (w.heap.size + 2) rfl 49 C (0, 0) _ hr Tryd.underlying49 rfl (size_stmt.trans (by rw [hC24])) ?_)
            | fail)
          refine (unhide HEX _).mono ?_
          rintro e w8 ⟨T, rfl, hcl, hb8, hTI⟩
          have hB8 : But z w2 w8 := (unhide HW4).2.trans (But.of_below hb8)
          have hM8 := (unhide HW4).1.later hb8
          have HEA := hide (follow_each (f := CS.folC P (i : Int)) S w w2 w8 T c c4 (unhide HB2) hB8 hM8 hBw hzw (unhide HX0 w8 hB8) (unhide HX1 w8 hB8) (unhide HS) (unhide HE) (unhide HG) (unhide HG4) (unhide HPV) hTI rfl)
          have HCL := hide hcl
          clear hcl hb8 hTI hB8 hM8 hr
          go_wp2_with fail
          refine (unhide HEA).mono ?_
          rintro e w9 ⟨rfl, hM9, hb9⟩
          have HZ9 : Hid (CkM B z bl bf n pvv (c.follow P (i : Int) S) w9 ∧ Below B w w9) := hide (⟨by rw [unhide HF2, ← unhide HCL]; exact hM9, hb9⟩)
          clear hM9 hb9
          go_wp2_with fail
          go_end0
          exact ⟨rfl, unhide HZ9⟩
        · have HC4 : Hid (c3.folD (i : Int) S = c3.tell 6 (i : Int)) := hide (by rw [unhide HD, hbb]; rfl)
          go_wp2_with fail
          have hT9 : CkM B z bl bf n pvv c3 wc := (unhide HJ).1
          have hS : But z wc (wc).drew := But.of_below (Below.refl _ _).drew
          have HKX := hide (fun W (q : But z wc W) => (q.row hz0 (unhide HX0 wc ((unhide HJ).2)) : W.heap[w.heap.size]? = some (.cells #[.pointer (some ⟨z, 0, none⟩)] 39 (0, 0))))
          have HKY := hide (fun W (q : But z wc W) => (q.row hz1 (unhide HX1 wc ((unhide HJ).2)) : W.heap[w.heap.size + 1]? = some (.cells #[.int .i64 (i : Int)] 3 (0, 0))))
          refine startQ 4 (fun W => But z wc W) ?_
          intro F
          refine takeE F (i := 0) (oi := _) (v := ?v0u) rfl (by kernel_rfl) (by kernel_rfl) (by rfl) (fun _ _ _ h => h) hS (Or.inl ⟨by rfl, ?y0u⟩) ?r0u
          case y0u => (intro w9 hSw; have g : w9.cell? ⟨w.heap.size, 0, none⟩ = some (.pointer (some ⟨z, 0, none⟩)) := (cell_of_row _ _ _ _ _ _ (unhide HKX w9 hSw)).trans rfl; (go_simp <;> (try with_reducible rfl)))
          (try simp only [List.getElem_toArray, List.getElem_cons_zero])
          (try go_frame)
          refine takeE F (i := 1) (oi := _) (v := ?v1u) rfl (by kernel_rfl) (by kernel_rfl) (by rfl) (fun _ _ _ h => h) hS (Or.inl ⟨by rfl, ?y1u⟩) ?r1u
          case y1u => (intro w9 hSw; (go_simp <;> (try with_reducible rfl)))
          (try simp only [List.getElem_toArray, List.getElem_cons_succ, List.getElem_cons_zero])
          (try go_frame)
          refine takeE F (i := 2) (oi := _) (v := ?v2u) rfl (by kernel_rfl) (by kernel_rfl) (by rfl) (fun _ _ _ h => h) hS (Or.inl ⟨by rfl, ?y2u⟩) ?r2u
          case y2u => (intro w9 hSw; (go_simp <;> (try with_reducible rfl)))
          (try simp only [List.getElem_toArray, List.getElem_cons_succ, List.getElem_cons_zero])
          (try go_frame)
          refine takeE F (i := 3) (oi := _) (v := ?v3u) rfl (by kernel_rfl) (by kernel_rfl) (by rfl) (fun _ _ _ h => h) hS (Or.inl ⟨by rfl, ?y3u⟩) ?r3u
          case y3u => (intro w9 hSw; have g : w9.cell? ⟨w.heap.size + 1, 0, none⟩ = some (.int .i64 (i : Int)) := (cell_of_row _ _ _ _ _ _ (unhide HKY w9 hSw)).trans rfl; (go_simp <;> (try with_reducible rfl)))
          (try simp only [List.getElem_toArray, List.getElem_cons_succ, List.getElem_cons_zero])
          (try go_frame)
          refine lastE (by kernel_rfl) rfl (by kernel_rfl) (fun K4 hK4 => ?_)
          go_simp
          refine (tell_M (hT9.same (show (wc).drew.heap = (wc).heap from rfl)) 6 (i : Int)).mono ?_
          rintro e w6 ⟨rfl, hb6, hM6⟩
          refine hK4 _ _ ?_
          (try go_frame)
          have hb7 := hS.trans hb6
          clear hb6 hK4 hS F HKX HKY hT9
          have HW4 : Hid (CkM B z bl bf n pvv (c3.folD (i : Int) S) w6 ∧ But z w2 w6) := hide (by rw [unhide HC4]; exact ⟨hM6, (unhide HJ).2.trans hb7⟩)
          clear hM6 hb7
          have hmf : ∀ (fn : Fn) (first cap : Array Value) (w : World), (Instr.makeFunc fn first cap).run Tryd.prog w = .ok (.func fn first cap) w := fun _ _ _ _ => rfl
          have hr := unhide HX2 w6 (unhide HW4).2
          have HG4 : Hid ((c3.folD (i : Int) S).fl = c.fl ∧ (c3.folD (i : Int) S).ff = c.ff) := hide (⟨(tellIf_fl c3 _ _ _).1.trans (unhide HFL).1, (tellIf_fl c3 _ _ _).2.trans (unhide HFL).2⟩)
          generalize c3.folD (i : Int) S = c4 at *
          go_wp2_with (first
            | (refine wpList_load_row rfl 49 _ rfl (w.heap.size + 2) rfl 49 C (0, 0) _ hr Tryd.underlying49 rfl (size_stmt.trans (by rw [hC24])) ?_)
            | fail)
          refine (unhide HEX _).mono ?_
          rintro e w8 ⟨T, rfl, hcl, hb8, hTI⟩
          have hB8 : But z w2 w8 := (unhide HW4).2.trans (But.of_below hb8)
          have hM8 := (unhide HW4).1.later hb8
          have HEA := hide (follow_each (f := CS.folC P (i : Int)) S w w2 w8 T c c4 (unhide HB2) hB8 hM8 hBw hzw (unhide HX0 w8 hB8) (unhide HX1 w8 hB8) (unhide HS) (unhide HE) (unhide HG) (unhide HG4) (unhide HPV) hTI rfl)
          have HCL := hide hcl
          clear hcl hb8 hTI hB8 hM8 hr
          go_wp2_with fail
          refine (unhide HEA).mono ?_
          rintro e w9 ⟨rfl, hM9, hb9⟩
          have HZ9 : Hid (CkM B z bl bf n pvv (c.follow P (i : Int) S) w9 ∧ Below B w w9) := hide (⟨by rw [unhide HF2, ← unhide HCL]; exact hM9, hb9⟩)
          clear hM9 hb9
          go_wp2_with fail
          go_end0
          exact ⟨rfl, unhide HZ9⟩
end Go.Proofs.YtpphjddljngkmaaDoor
