/- What tune.simpler hands back. -/
import Derived.Test.YtbmngbpillihaaaDoorSimpS1M
import Derived.Test.YtbmngbpillihaaaDoorSimpOnePM
import Derived.Test.YtbmngbpillihaaaDoorSimpS2P
import Derived.Test.YtbmngbpillihaaaDoorSimpS3P
import Derived.Test.YtbmngbpillihaaaDoorSimpS4P
import Derived.Test.YtbmngbpillihaaaDoorSimpS12P
import Derived.Test.YtbmngbpillihaaaDoorSimpS19M
import Derived.Test.YtbmngbpillihaaaDoorSimpS20P
import Derived.Test.YtbmngbpillihaaaDoorSimpS21P
import Derived.Test.YtbmngbpillihaaaDoorSimpS23P
namespace Go.Proofs.YtbmngbpillihaaaDoor
open Go.RowKit

theorem csum_simp : ∀ l : List PT, csum (l.map PT.simp) ≤ csum l
  | [] => Nat.le_refl _
  | x :: l => by
    have h1 := csum_simp l
    have h2 := (simp_less x).1
    rw [csum_sum, csum_sum] at *
    simp only [List.map_cons, List.sum_cons] at *
    omega
theorem five_smp {x : PT} (hs : x.Smp) (hb : x.bad = 0) : Fine5 x := by
  have hN := ((Smp_iff x).1 hs).1
  have hR := bad_rt hb
  have hr := hN.rng
  have h0 : (⟨#[]⟩ : ByteArray).size = 0 := rfl
  unfold Fine5
  have hcase : x.k = 1 ∨ x.k = 3 ∨ (x.k = 4 ∨ x.k = 5 ∨ x.k = 6 ∨ x.k = 7) ∨ (x.k = 2 ∨ x.k = 8 ∨ x.k = 9 ∨ x.k = 10 ∨ x.k = 11) ∨ (12 ≤ x.k ∧ x.k ≤ 17) ∨ x.k = 18 ∨ x.k = 19 ∨ x.k = 20 ∨ (x.k = 21 ∨ x.k = 22) ∨ (x.k = 23 ∨ x.k = 24) := by omega
  rcases hcase with h | h | h | h | h | h | h | h | h | h
  · exact ⟨hR.long (by omega), by rw [(hN.k1 h).1]; decide, by rw [(hN.k1 h).1]; decide⟩
  · exact ⟨hR.long (by omega), by rw [(hN.k3 h).1]; decide, by rw [(hN.k3 h).1]; decide⟩
  · exact ⟨hR.long (by omega), by rw [(hN.k4 h).1]; decide, by rw [(hN.k4 h).1]; decide⟩
  · exact ⟨by rw [(hN.k2 h).1]; decide, (hR.num (by omega)).1, (hR.num (by omega)).2⟩
  · have := hN.rest h.1 h.2
    exact ⟨by rw [this.1]; decide, by rw [this.2.1]; decide, by rw [this.2.1]; decide⟩
  · have := hN.k18 h
    exact ⟨by rw [this.1]; decide, by rw [this.2.1]; decide, by rw [this.2.1]; decide⟩
  · have := hN.k19 h
    exact ⟨by rw [this.1]; decide, by rw [this.2.1]; decide, by rw [this.2.1]; decide⟩
  · have := hN.k20 h
    exact ⟨by rw [this.1]; decide, by rw [this.2.1]; decide, by rw [this.2.1]; decide⟩
  · have := hN.k21 h
    exact ⟨by rw [this.1]; decide, by rw [this.2.1]; decide, by rw [this.2.1]; decide⟩
  · have := hN.k23 h
    exact ⟨by rw [this.1]; decide, by rw [this.2]; decide, by rw [this.2]; decide⟩
theorem mem_cnt : ∀ {l : List PT} {x : PT}, x ∈ l → x.cnt ≤ csum l
  | y :: l, x, h => by
    rw [csum_sum]
    simp only [List.map_cons, List.sum_cons]
    rw [← csum_sum]
    rcases List.mem_cons.1 h with rfl | h
    · omega
    · have := mem_cnt h
      omega
theorem mem_fine {T x : PT} (hF : FineS T) (hB : T.bad = 0) (hc : T.cnt ≤ 4096) (hx : x ∈ T.lst) : FineS x ∧ x.bad = 0 ∧ x.cnt ≤ 4096 := by
  refine ⟨?_, ((bad_lst T).1 hB).2 x hx, ?_⟩
  · obtain ⟨i, hi⟩ := List.mem_iff_getElem?.1 hx
    have hlt : i < T.len := by have := (List.getElem?_eq_some_iff.1 hi).1; rwa [PT.lst_len] at this
    rw [PT.lst_at hlt] at hi
    rw [← Option.some.inj hi]
    exact hF.kid hlt
  · have := mem_cnt hx
    rw [cnt_lst] at hc
    omega
theorem fine_can {x : PT} (h : Fine5 x.can) : Fine5 x := by
  unfold Fine5 at h ⊢
  rwa [can_t, can_n] at h
theorem flat_fine {T : PT} (hF : FineS T) (hB : T.bad = 0) (hc : T.cnt ≤ 4096) (k : Int) {Us : List PT} (hU : Us.map PT.can = T.lst.map PT.simp) : (flatK k Us).length ≤ 90000 ∧ ∀ x ∈ flatK k Us, Fine5 x := by
  have e := flat_can k Us
  rw [hU] at e
  constructor
  · have h1 := csum_len (flatK k (T.lst.map PT.simp))
    have h2 := (flatK_less k (T.lst.map PT.simp)).1
    have h3 := csum_simp T.lst
    rw [cnt_lst] at hc
    have h4 : (flatK k Us).length = (flatK k (T.lst.map PT.simp)).length := by rw [e, List.length_map]
    omega
  · intro x hx
    refine fine_can ?_
    have hm : x.can ∈ flatK k (T.lst.map PT.simp) := by rw [e]; exact List.mem_map_of_mem hx
    have hall : ∀ y ∈ T.lst.map PT.simp, y.Smp ∧ y.bad = 0 := fun y hy => by
      obtain ⟨z, hz, rfl⟩ := List.mem_map.1 hy
      obtain ⟨f1, f2, f3⟩ := mem_fine hF hB hc hz
      exact ⟨simp_smp z f1, simp_bad z f2 f3⟩
    rcases flatK_mem hm with ⟨h, -⟩ | ⟨p, hp, -, h⟩
    · exact five_smp (hall _ h).1 (hall _ h).2
    · exact five_smp (((Smp_iff p).1 (hall p hp).1).2 _ h) (((bad_lst p).1 (hall p hp).2).2 _ h)
theorem lst_canon {T : PT} (hF : FineS T) (hB : T.bad = 0) (hc : T.cnt ≤ 4096) : (T.lst.map fun x => x.simp.can) = T.lst.map PT.simp :=
  List.map_congr_left fun x hx => Smp_can _ (simp_smp x (mem_fine hF hB hc hx).1)
theorem simp_canon {T : PT} (hF : FineS T) : T.simp.can = T.simp := Smp_can _ (simp_smp T hF)
theorem simpN_21 {k : Int} {t : ByteArray} {n : Int} {nm : ByteArray} {l : List PT} (h : k = 21 ∨ k = 22) : simpN k t n nm l = if nev (l.getD 0 PT.nul) = true then l.getD 0 PT.nul else mkP k ⟨#[]⟩ 0 nm l := by
  unfold simpN
  rw [if_neg (by omega), if_neg (by omega), if_neg (by omega), if_neg (by omega), if_neg (by omega), if_neg (by omega), if_neg (by omega), if_pos h]
theorem nm_small {nm : ByteArray} (h : named nm = true) : nm.size ≤ 1000000 := by
  unfold named at h
  rw [Bool.and_eq_true, decide_eq_true_eq] at h
  omega
theorem first1 {T : PT} {Us : List PT} (hl : T.len = 1) (h : Us.map PT.can = T.lst.map fun x => x.simp.can) : 0 < Us.length := by
  have := congrArg List.length h
  rw [List.length_map, List.length_map, PT.lst_len, hl] at this
  omega
set_option maxRecDepth 10000 in
set_option maxHeartbeats 2000000 in
theorem simpler_any : ∀ T : PT, FineS T → T.bad = 0 → T.cnt ≤ 4096 → ∀ w : World, T.In w → Calls Tryd.prog 21 #[pv T] w fun e w' => GivesP [] T.simp w e w' := PT.ind fun T ih hF hB hc w hT => by
  have hR := bad_rt hB
  have hS : T.simp = simpN T.k T.t T.n T.nm (T.lst.map PT.simp) := PT.simp_eq T
  have hL := lst_canon hF hB hc
  have hC := simp_canon hF
  have hn : T.len ≤ 100000 := by
    have h := csum_len T.lst
    rw [PT.lst_len] at h
    have hc := hc
    rw [cnt_lst] at hc
    omega
  have IH : SimpIH T := fun j hj W hW => by
    obtain ⟨f1, f2, f3⟩ := mem_fine hF hB hc (List.mem_of_getElem? (PT.lst_at hj))
    exact ih j hj f1 f2 f3 W hW
  have hr := hR.rng
  rcases (show T.k = 1 ∨ T.k = 2 ∨ T.k = 3 ∨ T.k = 4 ∨ T.k = 5 ∨ T.k = 6 ∨ T.k = 7 ∨ T.k = 8 ∨ T.k = 9 ∨ T.k = 10 ∨ T.k = 11 ∨ T.k = 12 ∨ T.k = 13 ∨ T.k = 14 ∨ T.k = 15 ∨ T.k = 16 ∨ T.k = 17 ∨ T.k = 18 ∨ T.k = 19 ∨ T.k = 20 ∨ T.k = 21 ∨ T.k = 22 ∨ T.k = 23 ∨ T.k = 24 by omega) with q | q | q | q | q | q | q | q | q | q | q | q | q | q | q | q | q | q | q | q | q | q | q | q
  · exact simp_k1 T q w hT hn IH (hR.long (by omega)) (by rw [hS, q]; unfold simpN; rw [if_pos (by decide)])
  · exact simp_k2 T q w hT hn IH (hR.num (by omega)) (by rw [hS, q]; unfold simpN; rw [if_neg (by decide), if_neg (by decide), if_neg (by decide), if_pos (by decide)])
  · obtain ⟨U, hU⟩ : ∃ U, anyP (inB T.t) = U := ⟨_, rfl⟩
    have hA : ∀ W, Calls Tryd.prog 42 #[.agg (sc (inB T.t))] W fun e w' => e = .returned (pv U) ∧ Below W.heap.size W w' := fun W => by
      have h := anyOf_any (inB T.t) W
      unfold sv at h
      rw [hU] at h
      exact h
    exact simp_k3 T q w hT hn IH U (sc (inB T.t)) (fun W => of_saysE T.t (by have := hR.long (by omega); unfold maxLen; omega) W) hA (fun X => anyP_in X U (inB T.t) hU) (by rw [hS, q]; unfold simpN; rw [if_neg (by decide), if_pos (by decide)]; exact hU.symm)
  · obtain ⟨x, hx⟩ : ∃ x, txt (inB T.t) = x := ⟨_, rfl⟩
    have hA : ∀ W, Calls Tryd.prog 44 #[.agg (sc (inB T.t))] W fun e w' => e = .returned (.string x) ∧ Below W.heap.size W w' := fun W => by
      have h := text_any (inB T.t) W
      unfold sv at h
      rw [show (⟨(tx (inB T.t) 256).toArray⟩ : ByteArray) = txt (inB T.t) from rfl, hx] at h
      exact h
    exact simp_k4 T q w hT hn IH x (sc (inB T.t)) (fun W => of_saysE T.t (by have := hR.long (by omega); unfold maxLen; omega) W) hA (by have := tx_len (inB T.t); rw [hx] at this; unfold maxLen; omega) (by rw [hS, q, ← hx]; unfold simpN; rw [if_neg (by decide), if_neg (by decide), if_pos (by decide)])
  · obtain ⟨x, hx⟩ : ∃ x, txt (inB T.t) = x := ⟨_, rfl⟩
    have hA : ∀ W, Calls Tryd.prog 44 #[.agg (sc (inB T.t))] W fun e w' => e = .returned (.string x) ∧ Below W.heap.size W w' := fun W => by
      have h := text_any (inB T.t) W
      unfold sv at h
      rw [show (⟨(tx (inB T.t) 256).toArray⟩ : ByteArray) = txt (inB T.t) from rfl, hx] at h
      exact h
    exact simp_k5 T q w hT hn IH x (sc (inB T.t)) (fun W => of_saysE T.t (by have := hR.long (by omega); unfold maxLen; omega) W) hA (by have := tx_len (inB T.t); rw [hx] at this; unfold maxLen; omega) (by rw [hS, q, ← hx]; unfold simpN; rw [if_neg (by decide), if_neg (by decide), if_pos (by decide)])
  · obtain ⟨x, hx⟩ : ∃ x, txt (inB T.t) = x := ⟨_, rfl⟩
    have hA : ∀ W, Calls Tryd.prog 44 #[.agg (sc (inB T.t))] W fun e w' => e = .returned (.string x) ∧ Below W.heap.size W w' := fun W => by
      have h := text_any (inB T.t) W
      unfold sv at h
      rw [show (⟨(tx (inB T.t) 256).toArray⟩ : ByteArray) = txt (inB T.t) from rfl, hx] at h
      exact h
    exact simp_k6 T q w hT hn IH x (sc (inB T.t)) (fun W => of_saysE T.t (by have := hR.long (by omega); unfold maxLen; omega) W) hA (by have := tx_len (inB T.t); rw [hx] at this; unfold maxLen; omega) (by rw [hS, q, ← hx]; unfold simpN; rw [if_neg (by decide), if_neg (by decide), if_pos (by decide)])
  · obtain ⟨x, hx⟩ : ∃ x, txt (inB T.t) = x := ⟨_, rfl⟩
    have hA : ∀ W, Calls Tryd.prog 44 #[.agg (sc (inB T.t))] W fun e w' => e = .returned (.string x) ∧ Below W.heap.size W w' := fun W => by
      have h := text_any (inB T.t) W
      unfold sv at h
      rw [show (⟨(tx (inB T.t) 256).toArray⟩ : ByteArray) = txt (inB T.t) from rfl, hx] at h
      exact h
    exact simp_k7 T q w hT hn IH x (sc (inB T.t)) (fun W => of_saysE T.t (by have := hR.long (by omega); unfold maxLen; omega) W) hA (by have := tx_len (inB T.t); rw [hx] at this; unfold maxLen; omega) (by rw [hS, q, ← hx]; unfold simpN; rw [if_neg (by decide), if_neg (by decide), if_pos (by decide)])
  · exact simp_k8 T q w hT hn IH (hR.num (by omega)) (by rw [hS, q]; unfold simpN; rw [if_neg (by decide), if_neg (by decide), if_neg (by decide), if_pos (by decide)])
  · exact simp_k9 T q w hT hn IH (hR.num (by omega)) (by rw [hS, q]; unfold simpN; rw [if_neg (by decide), if_neg (by decide), if_neg (by decide), if_pos (by decide)])
  · exact simp_k10 T q w hT hn IH (hR.num (by omega)) (by rw [hS, q]; unfold simpN; rw [if_neg (by decide), if_neg (by decide), if_neg (by decide), if_pos (by decide)])
  · exact simp_k11 T q w hT hn IH (hR.num (by omega)) (by rw [hS, q]; unfold simpN; rw [if_neg (by decide), if_neg (by decide), if_neg (by decide), if_pos (by decide)])
  · exact simp_k12 T q w hT hn IH (fun Us hU => by rw [mkP_can, hU, hL, hC, hS, q]; unfold simpN; rw [if_neg (by decide), if_neg (by decide), if_neg (by decide), if_neg (by decide), if_neg (by decide), if_neg (by decide), if_neg (by decide), if_neg (by decide), if_neg (by decide)])
  · exact simp_k13 T q w hT hn IH (fun Us hU => by rw [mkP_can, hU, hL, hC, hS, q]; unfold simpN; rw [if_neg (by decide), if_neg (by decide), if_neg (by decide), if_neg (by decide), if_neg (by decide), if_neg (by decide), if_neg (by decide), if_neg (by decide), if_neg (by decide)])
  · exact simp_k14 T q w hT hn IH (fun Us hU => by rw [mkP_can, hU, hL, hC, hS, q]; unfold simpN; rw [if_neg (by decide), if_neg (by decide), if_neg (by decide), if_neg (by decide), if_neg (by decide), if_neg (by decide), if_neg (by decide), if_neg (by decide), if_neg (by decide)])
  · exact simp_k15 T q w hT hn IH (fun Us hU => by rw [mkP_can, hU, hL, hC, hS, q]; unfold simpN; rw [if_neg (by decide), if_neg (by decide), if_neg (by decide), if_neg (by decide), if_neg (by decide), if_neg (by decide), if_neg (by decide), if_neg (by decide), if_neg (by decide)])
  · exact simp_k16 T q w hT hn IH (fun Us hU => by rw [mkP_can, hU, hL, hC, hS, q]; unfold simpN; rw [if_neg (by decide), if_neg (by decide), if_neg (by decide), if_neg (by decide), if_neg (by decide), if_neg (by decide), if_neg (by decide), if_neg (by decide), if_neg (by decide)])
  · exact simp_k17 T q w hT hn IH (fun Us hU => by rw [mkP_can, hU, hL, hC, hS, q]; unfold simpN; rw [if_neg (by decide), if_neg (by decide), if_neg (by decide), if_neg (by decide), if_neg (by decide), if_neg (by decide), if_neg (by decide), if_neg (by decide), if_neg (by decide)])
  · exact simp_k18 T q w hT hn IH (fun Us hU => ⟨(flat_fine hF hB hc 18 (hU.trans hL)).1, (flat_fine hF hB hc 18 (hU.trans hL)).2, by rw [cat_can, hU, hL, hC, hS, q]; unfold simpN; rw [if_neg (by decide), if_neg (by decide), if_neg (by decide), if_neg (by decide), if_pos (by decide)]⟩)
  · exact simp_k19 T q w hT hn IH (fun Us hU => ⟨(flat_fine hF hB hc 19 (hU.trans hL)).1, (flat_fine hF hB hc 19 (hU.trans hL)).2, by rw [alt_can, hU, hL, hC, hS, q]; unfold simpN; rw [if_neg (by decide), if_neg (by decide), if_neg (by decide), if_neg (by decide), if_neg (by decide), if_pos (by decide)]⟩)
  · exact simp_k20 T q w hT hn IH (hR.one (by omega)) (fun Us hU => by rw [arb_can (first1 (hR.one (by omega)) hU), hU, hL, hC, hS, q]; unfold simpN; rw [if_neg (by decide), if_neg (by decide), if_neg (by decide), if_neg (by decide), if_neg (by decide), if_neg (by decide), if_pos (by decide)])
  · exact simp_k21 T q w hT hn IH (nm_small (hR.name (by omega))) (hR.one (by omega)) (fun Us hU => by rw [hC, hS, q, simpN_21 (.inl rfl), ← hL, ← hU, getD_can (first1 (hR.one (by omega)) hU), nev_can]; split; exact rfl; exact mkP_can _ _ _ _ _)
  · exact simp_k22 T q w hT hn IH (nm_small (hR.name (by omega))) (hR.one (by omega)) (fun Us hU => by rw [hC, hS, q, simpN_21 (.inr rfl), ← hL, ← hU, getD_can (first1 (hR.one (by omega)) hU), nev_can]; split; exact rfl; exact mkP_can _ _ _ _ _)
  · exact simp_k23 T q w hT hn IH (nm_small (hR.name (by omega))) (fun Us hU => by rw [mkP_can, hU, hL, hC, hS, q]; unfold simpN; rw [if_neg (by decide), if_neg (by decide), if_neg (by decide), if_neg (by decide), if_neg (by decide), if_neg (by decide), if_neg (by decide), if_neg (by decide), if_pos (by decide)])
  · exact simp_k24 T q w hT hn IH (nm_small (hR.name (by omega))) (fun Us hU => by rw [mkP_can, hU, hL, hC, hS, q]; unfold simpN; rw [if_neg (by decide), if_neg (by decide), if_neg (by decide), if_neg (by decide), if_neg (by decide), if_neg (by decide), if_neg (by decide), if_neg (by decide), if_pos (by decide)])
end Go.Proofs.YtbmngbpillihaaaDoor
